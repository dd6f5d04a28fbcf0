/- The cells of some rectangles that are in none of others, in . -/
import Derived.Test.YtcgddnliiondoaaGreatDoorKp15
import Derived.Test.YtcgddnliiondoaaGreatDoorKp11
import Derived.Test.YtcgddnliiondoaaGreatDoorKp03
set_option linter.unusedVariables false
set_option linter.unusedSimpArgs false
set_option maxRecDepth 100000
set_option maxHeartbeats 8000000
namespace Go.Proofs.YtcgddnliiondoaaGreatDoor.R
open Go.RowKit
def Bx (W : World) (b : Nat) (cs : List Value) (t : TypeId) : Prop := W.heap[b]? = some (.cells cs.toArray t (0, 0))
theorem Bx.lt {W : World} {b : Nat} {cs : List Value} {t : TypeId} (h : Bx W b cs t) : b < W.heap.size := (Array.getElem?_eq_some_iff.1 h).1
theorem bx_heap (W : World) (cs : List Value) (t : TypeId) : Bx (W.alloc (.cells cs.toArray t)) W.heap.size cs t := World.alloc_heap_new W _
theorem Bx.on {W W' : World} {b : Nat} {cs : List Value} {t : TypeId} (h : Bx W b cs t) (q : Q W W') : Bx W' b cs t := (q.block h.lt).trans h
theorem Bx.grown {W W' : World} {row : Option Nat} {b : Nat} {cs : List Value} {t : TypeId} (h : Bx W b cs t) (g : W.grownBy W' row) (hr : some b ≠ row) : Bx W' b cs t := (g.block b h.lt hr).trans h
theorem Bx.cell {W : World} {b : Nat} {cs : List Value} {t : TypeId} (h : Bx W b cs t) (j : Nat) (u : Value) (hu : cs[j]? = some u) : W.cell? ⟨b, j, none⟩ = some u := by
  unfold Bx at h
  simp [World.cell?, h, hu]
theorem Bx.ne {α : Type} {enc : α → List Value} {e : TypeId} {k B : Nat} {W : World} {v : Value} {L : List α} {b : Nat} {cs : List Value} {t : TypeId} (h : Bx W b cs t) (ho : Own enc e k B W v L) (hne : e ≠ t) : some b ≠ v.ownBlock := by
  obtain ⟨_, ho⟩ := ho
  rcases ho with ⟨hv, _⟩ | ⟨g, cap, cur, hv, hb, hg, _⟩
  · rw [hv]; exact fun e => by cases e
  · rw [hv]
    intro e
    simp only [Value.ownBlock, Option.some.injEq] at e
    subst e
    unfold Bx at h
    rw [h] at hg
    simp only [Option.some.injEq, Obj.cells.injEq] at hg
    exact hne hg.2.1.symm
theorem flatB_succ {D : List Rg.Bd} {i : Nat} (h : i < D.length) : Rg.flatB (D.take (i + 1)) = Rg.flatB (D.take i) ++ Rg.rows D[i] := by
  rw [List.take_succ_eq_append_getElem h, Rg.flatB_append, Rg.flatB_cons, Rg.flatB_nil, List.append_nil]
theorem rows_succ {b : Rg.Bd} {j : Nat} (h : j < b.cs.length) : (Rg.rows b).take (j + 1) = (Rg.rows b).take j ++ [⟨b.f, b.cs[j].f, b.t, b.cs[j].t⟩] := by
  unfold Rg.rows
  rw [List.take_succ_eq_append_getElem (by simpa using h)]
  simp
def WPost (A B : List Rg.Rc) (w : World) (v : Value) (w' : World) : Prop :=
  ∃ l, Own rc 101 4 w.heap.size w' v l ∧ Q w w' ∧ Rg.Nf (Rg.dif A B) l ∧ l.length ≤ 1000000000000 ∧ (A.length ≤ 12 → B = [] → l.length ≤ 256)
set_option maxHeartbeats 4000000 in
theorem without_any (va vb : Value) (A B : List Rg.Rc) (w : World) (ha : Sl rc 4 w va A) (hb : Sl rc 4 w vb B) (hA : A.length ≤ 256) (hB : B.length ≤ 256) (oA : Rg.Ok A) (oB : Rg.Ok B) :
    Calls Tryz.prog 113 #[va, vb] w fun e w' => ∃ v, e = .returned v ∧ WPost A B w v w' := by
  obtain ⟨i0, HI⟩ := inf_of info28
  have HI := hid HI
  have HA := hid ha
  have HB := hid hb
  obtain ⟨ao, cap, rfl, _, _⟩ := ha.len
  obtain ⟨ao2, cap2, rfl, _, _⟩ := hb.len
  clear ha hb
  have HF := hid (fromLeft_any _ A w HA.out (by omega))
  go_enter Tryz.func113, Tryz.ntmps113
  go_wp2_with (first
    | (go_at_call_of 126 A; refine HF.out.mono ?_; rintro e w1 ⟨v1, A', rfl, own1, hp1, hs1, q1⟩; have HSA := hid (own1.sl rc_len (by decide)); have HQ1 := hid q1; have HPA := hid hp1; have HRA := hid hs1; have HF2 := hid (fromLeft_any _ B w1 (HB.out.on q1) (by omega)); clear own1 q1 hp1 hs1)
    | (go_at_call_of 126 B; refine HF2.out.mono ?_; rintro e w2 ⟨v2, B', rfl, own2, hp2, hs2, q2⟩; have HQ2 := hid (HQ1.out.trans q2); have HPB := hid hp2; have HRB := hid hs2; have HBD := hid (bands_any v1 v2 A' B' w2 (HSA.out.on q2) (own2.sl rc_len (by decide)) (by rw [HPA.out.length_eq]; exact hA) (by rw [hp2.length_eq]; exact hB)); clear own2 q2 hp2 hs2)
    | (go_at_call 125; refine HBD.out.mono ?_; rintro e w3 ⟨v3, rfl, hpost⟩; have HP3 := hid hpost; clear hpost; obtain ⟨O, G, hO1, hO2, hO3, hO4, hO5, hO6, hO7⟩ := HP3.out; have HO := hid hO1; have HH := hid hO2; have HQ3 := hid (HQ2.out.trans hO3); have HG1 := hid hO4; have HG2 := hid hO5; have HBL := hid hO7; clear hO1 hO2 hO3 hO4 hO5 hO7 HP3; obtain ⟨ao3, cap3, rfl, _, _⟩ := (HO.out.sl bv_len (by decide)).len))
  have HNF : Hid (Rg.Nf (Rg.dif A B) (Rg.flatB (Rg.bandsP (Rg.csP A' B') G)) ∧ (A.length ≤ 12 → B = [] → (Rg.flatB (Rg.bandsP (Rg.csP A' B') G)).length ≤ 256)) := by
    have oA' : Rg.Ok A' := fun x hx => oA x (HPA.out.mem_iff.1 hx)
    have oB' : Rg.Ok B' := fun x hx => oB x (HPB.out.mem_iff.1 hx)
    obtain ⟨la, lA⟩ := srt_lft HRA.out oA'
    obtain ⟨lb, lB⟩ := srt_lft HRB.out oB'
    have hE : ∀ e, e ∈ G ↔ Rg.EdR (A ++ B) e := fun e => by
      rw [HG2.out]
      unfold Rg.EdR
      constructor
      · rintro ⟨x, hx, h⟩
        refine ⟨x, ?_, h⟩
        rcases List.mem_append.1 hx with k | k
        · exact List.mem_append.2 (.inl (HPA.out.mem_iff.1 k))
        · exact List.mem_append.2 (.inr (HPB.out.mem_iff.1 k))
      · rintro ⟨x, hx, h⟩
        refine ⟨x, ?_, h⟩
        rcases List.mem_append.1 hx with k | k
        · exact List.mem_append.2 (.inl (HPA.out.mem_iff.2 k))
        · exact List.mem_append.2 (.inr (HPB.out.mem_iff.2 k))
    refine ⟨Rg.nf_prog (fun x => HPA.out.mem_iff) (fun x => HPB.out.mem_iff) oA oB lA lB HG1.out hE, fun h12 hBn => ?_⟩
    subst hBn
    have hB' : B' = [] := List.eq_nil_of_length_eq_zero (by have := HPB.out.length_eq; simpa using this)
    rw [hB']
    exact Rg.bandsP_len (A := A) (by rw [HPA.out.length_eq]; exact h12) (fun x => HPA.out.mem_iff) HG1.out hE
  generalize Rg.bandsP (Rg.csP A' B') G = D at *
  have HLD := hid HH.out.len
  clear HF HF2 HBD HG1 HG2 HPA HPB HRA HRB HSA HA HB HQ1 HQ2
  go_loopw [5, 16] (fun o s W => ∃ (i : Nat), i ≤ O.length ∧ s = .int .i64 i ∧ Own rc 101 4 w3.heap.size W o (Rg.flatB (D.take i)) ∧ (Rg.flatB (D.take i)).length ≤ i * 100000000 ∧ Q w3 W) (fun _ s _ => O.length - (intOf s).toNat)
  case atStart => exact ⟨0, Nat.zero_le _, rfl, own_eq (own_nil _) (by simp [Rg.flatB]), by simp [Rg.flatB], Q.refl _⟩
  case round =>
    obtain ⟨i, hi, rfl, hown, hR, hq⟩ := hrel
    have HOW := hid hown
    have HQ := hid hq
    clear hown hq
    by_cases hlt : i < O.length
    · have hlt' : (i : Int) < (O.length : Int) := by omega
      have hiD : i < D.length := by have := HLD.out; omega
      obtain ⟨g, off, cap', e, _, _, hc⟩ := ((HO.out.sl bv_len (by decide)).on HQ.out).at hlt
      cases e
      obtain ⟨hf, ht, hv⟩ := HH.out.get i hlt hiD
      have HF := hid (flatB_succ (D := D) (i := i) hiD)
      have hbl := HBL.out D[i] (List.getElem_mem _)
      generalize O[i] = x at *
      generalize D[i] = b at *
      obtain ⟨f, t, xv⟩ := x
      obtain ⟨f', t', cs⟩ := b
      simp only at hf ht hv hbl
      subst hf ht
      have HCV := hid hv
      obtain ⟨ao4, cap4, rfl, _, _⟩ := (hv.sl sp_len (by decide)).len
      clear hv
      have c0 : wr.cell? ⟨g, off + i * 3, none⟩ = some (.int .i64 f) := hc 0 _ rfl
      have c1 : wr.cell? ⟨g, off + i * 3 + 1, none⟩ = some (.int .i64 t) := hc 1 _ rfl
      have c2 : wr.cell? ⟨g, off + i * 3 + 2, none⟩ = some (.slice ao4 cs.length cap4) := hc 2 _ rfl
      clear hc
      obtain ⟨w0, rfl⟩ : ∃ w0, w0 = wr := ⟨wr, rfl⟩
      have BK := hid (bx_heap w0 (bv ⟨f, t, .slice ao4 cs.length cap4⟩) 163)
      have HOW1 := hid (HOW.out.alloc (.cells (bv ⟨f, t, .slice ao4 cs.length cap4⟩).toArray 163))
      have HQ1 := hid (HQ.out.alloc (.cells (bv ⟨f, t, .slice ao4 cs.length cap4⟩).toArray 163))
      generalize hP : Rg.flatB (D.take i) = P at *
      have HP := hid hP
      clear hP
      simp only [bv] at BK HOW1 HQ1
      go_wp2_with fail
      clear c0 c1 c2
      generalize w0.alloc (.cells [Value.int .i64 f, .int .i64 t, .slice ao4 cs.length cap4].toArray 163) = W1 at *
      generalize w0.heap.size = bx at *
      go_loopw [5, 23] (fun o s W => ∃ (j : Nat), j ≤ cs.length ∧ s = .int .i64 j ∧ Own rc 101 4 w3.heap.size W o (P ++ (Rg.rows ⟨f, t, cs⟩).take j) ∧ Bx W bx [.int .i64 f, .int .i64 t, .slice ao4 cs.length cap4] 163 ∧ Q w3 W) (fun _ s _ => cs.length - (intOf s).toNat)
      case atStart => exact ⟨0, Nat.zero_le _, rfl, own_eq HOW1.out (by simp), BK.out, HQ1.out⟩
      case round =>
        clear HOW HQ HOW1 HQ1 BK
        obtain ⟨j, hj, rfl, hown, hbk, hq⟩ := hrel
        have HOW := hid hown
        have HQ := hid hq
        have HBK := hid hbk
        clear hown hq hbk
        by_cases hjl : j < cs.length
        · have hjl' : (j : Int) < (cs.length : Int) := by omega
          obtain ⟨g2, off2, cap5, e, _, _, hc⟩ := ((HCV.out.sl sp_len (by decide)).on HQ.out).at hjl
          cases e
          have HR2 := hid (rows_succ (b := ⟨f, t, cs⟩) hjl)
          simp only at HR2
          have hlen : (P ++ (Rg.rows ⟨f, t, cs⟩).take j).length ≤ 500000000000 := by
            rw [List.length_append, List.length_take, Rg.rows_len]
            simp only
            omega
          generalize cs[j] = y at *
          obtain ⟨yf, yt⟩ := y
          have d0 : wr.cell? ⟨g2, off2 + j * 2, none⟩ = some (.int .i64 yf) := hc 0 _ rfl
          have d1 : wr.cell? ⟨g2, off2 + j * 2 + 1, none⟩ = some (.int .i64 yt) := hc 1 _ rfl
          clear hc
          have b0 : wr.cell? ⟨bx, 0, none⟩ = some (.int .i64 f) := HBK.out.cell 0 _ rfl
          have b1 : wr.cell? ⟨bx, 1, none⟩ = some (.int .i64 t) := HBK.out.cell 1 _ rfl
          have hbx : bx < wr.heap.size := HBK.out.lt
          generalize hOO : P ++ (Rg.rows ⟨f, t, cs⟩).take j = OO at *
          have HOO := hid hOO
          clear hOO
          go_wp2_with (at_builtin; refine wpList_append_own _ rfl _ _ 52 rfl w3.heap.size 101 i0 (.agg #[.int .i64 0, .int .i64 0, .int .i64 0, .int .i64 0]) 4 32 Tryz.underlying52 HI.out.1 HI.out.2.1 HI.out.2.2.1 HI.out.2.2.2 rfl (by decide) _ _ _ rfl ((HOW.out.alloc _).alloc _) _ 1 1 [.int .i64 f, .int .i64 yf, .int .i64 t, .int .i64 yt] rfl rfl (news_at _ [.int .i64 f, .int .i64 yf, .int .i64 t, .int .i64 yt] 101 _ (by simp)) (rc_one ⟨f, yf, t, yt⟩) (by unfold maxLen; omega) (by omega) (by have := HQ.out.size; simp; omega) ?_)
          intro v5 w5 hown' hgrow _
          have HO5 : Hid (Own rc 101 4 w3.heap.size w5 v5 (P ++ (Rg.rows ⟨f, t, cs⟩).take (j + 1))) := by
            have := own_snoc' (enc := rc) (x := ⟨f, yf, t, yt⟩) hown' rfl
            rw [← HOO.out, List.append_assoc] at this
            exact own_eq this (by rw [HR2.out])
          have HB5 := hid (((HBK.out.on ((Q.refl _).alloc _)).on ((Q.refl _).alloc _)).grown hgrow (HBK.out.ne HOW.out (by decide)))
          have HQ5 : Hid (Q w3 w5) := Below.grown ((HQ.out.alloc _).alloc _) hgrow (by have := HQ.out.size; simp; omega) (HOW.out.blk)
          clear hown' hgrow HOW HQ HBK d0 d1 b0 b1
          go_wp2_with fail
          go_roundw
          case rel => exact ⟨j + 1, by omega, by go_num, HO5.out, HB5.out, HQ5.out⟩
          case measure => simp [intOf]; omega
        · have hjl' : ¬ (j : Int) < (cs.length : Int) := by omega
          have HO5 : Hid (Own rc 101 4 w3.heap.size wr u5 (Rg.flatB (D.take (i + 1)))) := own_eq HOW.out (by rw [HF.out, List.take_of_length_le (by rw [Rg.rows_len]; simp only; omega)])
          have hR5 : (Rg.flatB (D.take (i + 1))).length ≤ (i + 1) * 100000000 := by
            rw [HF.out, List.length_append, Rg.rows_len]
            simp only
            omega
          clear HOW
          go_wp2_with fail
          go_roundw
          case rel => exact ⟨i + 1, by omega, by go_num, HO5.out, hR5, HQ.out⟩
          case measure => simp [intOf]; omega
    · have hlt' : ¬ (i : Int) < (O.length : Int) := by omega
      have hld := HLD.out
      have HE : Hid (Rg.flatB (D.take i) = Rg.flatB D) := by show _ = _; rw [List.take_of_length_le (by omega)]
      clear hld
      go_wp2_with fail
      go_ret
      exact ⟨_, rfl, _, (own_eq HOW.out HE.out).mono HQ3.out.size, HQ3.out.trans HQ.out, HNF.out.1, by rw [← HE.out]; omega, HNF.out.2⟩
theorem WPost.back {A B : List Rg.Rc} {w w1 : World} {v : Value} {w' : World} (h : WPost A B w1 v w') (q : Q w w1) : WPost A B w v w' := by
  obtain ⟨l, h1, h2, h3, h4, h5⟩ := h
  exact ⟨l, h1.mono q.size, q.trans h2, h3, h4, h5⟩
set_option maxHeartbeats 1000000 in
theorem norm_any (v : Value) (L : List Rg.Rc) (w : World) (h : Sl rc 4 w v L) : Calls Tryz.prog 97 #[v] w fun e w' => ∃ v', e = .returned v' ∧ WPost (Rg.cnted L) [] w v' w' := by
  have HC := hid (counted_any v L w h)
  have hlen := Rg.cnted_len L
  have HM := hid (Rg.cnted_mays L)
  generalize Rg.cnted L = C at *
  clear h
  go_enter Tryz.func97, Tryz.ntmps97
  go_wp2_with (first
    | (go_at_call 114; refine HC.out.mono ?_; rintro e w1 ⟨v1, rfl, own1, q1⟩; have HQ := hid q1; have HW := hid (without_any v1 _ C [] w1 (own1.sl rc_len (by decide)) (sl_nil w1) hlen (by simp) HM.out.ok (fun x hx => by simp at hx)); clear own1 q1)
    | (go_at_call 113; refine HW.out.mono ?_; rintro e w2 ⟨v2, rfl, hp⟩; have HP := hid (hp.back HQ.out); clear hp))
  go_ret
  exact ⟨_, rfl, HP.out⟩
theorem norm_known (v : Value) (L l : List Rg.Rc) (w : World) (h : Sl rc 4 w v L) (hl : Rg.Nf (Rg.dif (Rg.cnted L) []) l) : Calls Tryz.prog 97 #[v] w fun e w' => ∃ v', e = .returned v' ∧ Own rc 101 4 w.heap.size w' v' l ∧ Q w w' :=
  (norm_any v L w h).mono fun e w' ⟨v', he, l', h1, h2, h3, _⟩ => ⟨v', he, own_eq h1 (Rg.nf_uniq h3 hl), h2⟩
theorem ar_stop {m n : Int} {x : Rg.Rc} {l : List Rg.Rc} (h : Int.tdiv (m - n) (x.d - x.b) < x.c - x.a) : Rg.ar m n (x :: l) = m := by rw [Rg.ar, if_pos h]
theorem ar_go {m n : Int} {x : Rg.Rc} {l : List Rg.Rc} (h : ¬ Int.tdiv (m - n) (x.d - x.b) < x.c - x.a) : Rg.ar m n (x :: l) = Rg.ar m (n + (x.c - x.a) * (x.d - x.b)) l := by rw [Rg.ar, if_neg h]
set_option maxHeartbeats 4000000 in
theorem area_any (v : Value) (L l : List Rg.Rc) (most mx : Int) (w : World) (h : Sl rc 4 w v L) (hl : Rg.Nf (Rg.dif (Rg.cnted L) []) l) (hll : l.length ≤ 1000000000000) (hm1 : most ≤ 9223372036854775807) (hmx : max most 0 = mx) :
    Calls Tryz.prog 98 #[v, .int .i64 most] w fun e w' => e = .returned (.int .i64 (Rg.ar mx 0 l)) ∧ Q w w' := by
  have HN := hid (norm_known v L l w h hl)
  have HMA := hid (Rg.nf_mays hl (Rg.dif_inn (Rg.cnted_mays L)))
  have hm0 : 0 ≤ mx := by omega
  have hm2 : mx ≤ 9223372036854775807 := by omega
  clear h hl
  generalize hT : Rg.ar mx 0 l = T
  have HT := hid hT
  clear hT
  go_enter Tryz.func98, Tryz.ntmps98
  go_wp2_with (go_at_call 97; refine HN.out.mono ?_; rintro e w1 ⟨v1, rfl, own1, q1⟩; have HS := hid (own1.sl rc_len (by decide)); have HQ1 := hid q1; clear own1 q1; obtain ⟨ao, cap, rfl, _, _⟩ := HS.out.len)
  clear hmx
  go_loopw [5, 16] (fun r s W => ∃ (i : Nat) (rm : Int), i ≤ l.length ∧ s = .int .i64 i ∧ r = .int .i64 rm ∧ 0 ≤ rm ∧ rm ≤ mx ∧ Q w1 W ∧ Hid (Rg.ar mx (mx - rm) (l.drop i) = T)) (fun _ s _ => l.length - (intOf s).toNat)
  case atStart => exact ⟨0, mx, Nat.zero_le _, rfl, rfl, hm0, Int.le_refl _, Q.refl _, by rw [List.drop_zero, Int.sub_self]; exact HT.out⟩
  case round =>
    obtain ⟨i, rm, hi, rfl, rfl, hr0, hr1, hq, HZ⟩ := hrel
    have HQ := hid hq
    clear hq
    by_cases hlt : i < l.length
    · have hlt' : (i : Int) < (l.length : Int) := by omega
      obtain ⟨g, off, cap', e, _, _, hc⟩ := (HS.out.on HQ.out).at hlt
      cases e
      rw [List.drop_eq_getElem_cons hlt] at HZ
      have hmay := HMA.out l[i] (List.getElem_mem _)
      generalize l[i] = x at *
      obtain ⟨xa, xb, xc, xd⟩ := x
      obtain ⟨m1, m2, m3, m4, m5, m6⟩ := hmay
      simp only at m1 m2 m3 m4 m5 m6
      have c0 : wr.cell? ⟨g, off + i * 4, none⟩ = some (.int .i64 xa) := hc 0 _ rfl
      have c1 : wr.cell? ⟨g, off + i * 4 + 1, none⟩ = some (.int .i64 xb) := hc 1 _ rfl
      have c2 : wr.cell? ⟨g, off + i * 4 + 2, none⟩ = some (.int .i64 xc) := hc 2 _ rfl
      have c3 : wr.cell? ⟨g, off + i * 4 + 3, none⟩ = some (.int .i64 xd) := hc 3 _ rfl
      clear hc
      obtain ⟨hh, e1⟩ : ∃ hh, xc - xa = hh := ⟨_, rfl⟩
      obtain ⟨ww, e2⟩ : ∃ ww, xd - xb = ww := ⟨_, rfl⟩
      have p1 : 0 < hh := by omega
      have p2 : hh ≤ 4398046511104 := by omega
      have p3 : 0 < ww := by omega
      have p4 : ww ≤ 4398046511104 := by omega
      have p5 : (ww == 0) = false := by simp; omega
      have HE1 := hid e1
      have HE2 := hid e2
      have hdv0 : 0 ≤ Int.tdiv rm ww := Int.tdiv_nonneg hr0 (by omega)
      have hdv1 : Int.tdiv rm ww ≤ rm := by rw [Int.tdiv_eq_ediv_of_nonneg hr0]; exact Int.ediv_le_self _ hr0
      by_cases hd : Int.tdiv rm ww < hh
      · have HR : Hid (mx = T) := by
          have := HZ.out
          rw [ar_stop (by simp only; rw [e1, e2, show mx - (mx - rm) = rm by omega]; exact hd)] at this
          exact this
        clear HZ
        go_wp2_with fail
        go_quiet (fail)
        go_wp2_with fail
        go_ret
        exact ⟨ret_int HR.out, HQ1.out.trans ((HQ.out.alloc _).drewN _)⟩
      · have HM := hid ((Rg.tdiv_lt (h := hh) hr0 p3))
        have hle : hh * ww ≤ rm := by
          have h9 := hd
          rw [HM.out] at h9
          omega
        have hge : 0 ≤ hh * ww := Int.mul_nonneg (by omega) (by omega)
        have HZ2 : Hid (Rg.ar mx (mx - (rm - hh * ww)) (l.drop (i + 1)) = T) := by
          have := HZ.out
          rw [ar_go (by simp only; rw [e1, e2, show mx - (mx - rm) = rm by omega]; exact hd)] at this
          simp only at this
          rw [e1, e2, show mx - rm + hh * ww = mx - (rm - hh * ww) by omega] at this
          exact this
        clear HZ HM
        obtain ⟨pp, e3⟩ : ∃ pp, hh * ww = pp := ⟨_, rfl⟩
        rw [e3] at hle hge HZ2
        go_wp2_with fail
        go_quiet (fail)
        go_wp2_with fail
        exact ⟨⟨i + 1, rm - pp, by omega, by go_num, rfl, by omega, by omega, (HQ.out.alloc _).drewN _, HZ2⟩, by simp [intOf]; omega⟩
    · have hlt' : ¬ (i : Int) < (l.length : Int) := by omega
      have HR : Hid (mx - rm = T) := by
        have := HZ.out
        rw [List.drop_eq_nil_of_le (by omega)] at this
        exact this
      clear HZ
      go_wp2_with fail
      go_ret
      exact ⟨ret_int HR.out, HQ1.out.trans HQ.out⟩
end Go.Proofs.YtcgddnliiondoaaGreatDoor.R
namespace Go.Proofs.YtcgddnliiondoaaGreatDoor.R
open Go.RowKit
set_option linter.unusedVariables false
set_option linter.unusedSimpArgs false
section
variable {α : Type} {enc : α → List Value} {k : Nat}
theorem sl_take {W : World} {ao : Option Addr} {cap : Nat} {L : List α} (h : Sl enc k W (.slice ao L.length cap) L) (n : Nat) (hn : n ≤ L.length) : Sl enc k W (.slice ao n cap) (L.take n) := by
  obtain ⟨ao', cap', hv, h1, h2, h⟩ := h
  simp only [Value.slice.injEq, true_and] at hv
  obtain ⟨rfl, rfl⟩ := hv
  have e : (L.take n).length = n := by rw [List.length_take]; omega
  refine ⟨ao, cap, by rw [e], by rw [e]; omega, h2, fun hl => ?_⟩
  obtain ⟨b, off, ha, hc⟩ := h (by rw [e] at hl; omega)
  refine ⟨b, off, ha, fun i hi => ?_⟩
  have := hc i (by rw [e] at hi; omega)
  rw [List.getElem_take]
  exact this
end
end Go.Proofs.YtcgddnliiondoaaGreatDoor.R
