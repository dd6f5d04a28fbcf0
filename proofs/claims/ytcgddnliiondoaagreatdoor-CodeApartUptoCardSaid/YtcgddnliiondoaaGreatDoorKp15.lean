/- The bands of the cells of some rectangles that are in none o. -/
import Derived.Test.YtcgddnliiondoaaGreatDoorKp04
import Derived.Test.YtcgddnliiondoaaGreatDoorKp10
import Derived.Test.YtcgddnliiondoaaGreatDoorKp12
import Derived.BigRegion
set_option linter.unusedVariables false
set_option linter.unusedSimpArgs false
set_option maxRecDepth 100000
set_option maxHeartbeats 8000000
namespace Go.Proofs.YtcgddnliiondoaaGreatDoor.R
open Go.RowKit
theorem col0_le (r : Int) (L : List Rg.Rc) : (Rg.col0 r L).length ≤ L.length := Nat.le_trans (Rg.col0_len r L) (Rg.cnt_le r L)
def BandsPost (A B : List Rg.Rc) (w : World) (v : Value) (w' : World) : Prop :=
  ∃ O G, Own bv 163 3 w.heap.size w' v O ∧ Hold w.heap.size w' O (Rg.bandsP (Rg.csP A B) G) ∧ Q w w' ∧ Rg.Ascl G ∧ (∀ e, e ∈ G ↔ Rg.EdR (A ++ B) e) ∧ O.length ≤ 4000 ∧ ∀ b, b ∈ Rg.bandsP (Rg.csP A B) G → b.cs.length ≤ 100000000
theorem bv_one (f t : Int) (ao : Option Addr) (n c : Nat) : ∀ u ∈ bv ⟨f, t, .slice ao n c⟩, u.oneCell' = true := by
  intro u hu
  simp [bv] at hu
  rcases hu with rfl | rfl | rfl <;> rfl
theorem bl_snoc {D : List Rg.Bd} {b : Rg.Bd} (h : ∀ b, b ∈ D → b.cs.length ≤ 100000000) (hb : b.cs.length ≤ 100000000) : ∀ c, c ∈ D ++ [b] → c.cs.length ≤ 100000000 := fun c hc => by
  rcases List.mem_append.1 hc with k | k
  · exact h c k
  · rw [List.mem_singleton] at k
    rw [k]
    exact hb
theorem bl_on {D : List Rg.Bd} {b b' : Rg.Bd} (h : ∀ c, c ∈ D ++ [b] → c.cs.length ≤ 100000000) (e : b'.cs = b.cs) : ∀ c, c ∈ D ++ [b'] → c.cs.length ≤ 100000000 :=
  bl_snoc (fun c hc => h c (List.mem_append.2 (.inl hc))) (by rw [e]; exact h b (by simp))
theorem set_last_bv (D : List Bv) (c c' : Bv) : (D ++ [c]).set D.length c' = D ++ [c'] := by simp
set_option maxHeartbeats 4000000 in
theorem bands_any (va vb : Value) (A B : List Rg.Rc) (w : World) (ha : Sl rc 4 w va A) (hb : Sl rc 4 w vb B) (hA : A.length ≤ 256) (hB : B.length ≤ 256) :
    Calls Tryz.prog 125 #[va, vb] w fun e w' => ∃ v, e = .returned v ∧ BandsPost A B w v w' := by
  obtain ⟨i0, HI⟩ := inf_of info43
  have HI := hid HI
  have HA := hid ha
  have HB := hid hb
  obtain ⟨ao, cap, rfl, _, _⟩ := ha.len
  obtain ⟨ao2, cap2, rfl, _, _⟩ := hb.len
  clear ha hb
  have HQ0 : Hid (Q w (w.alloc (.cells #[.slice ao A.length cap, .slice ao2 B.length cap2] 52))) := (Q.refl _).alloc _
  have HR := hid (rowGaps_any _ _ A B w.heap.size (w.alloc (.cells #[.slice ao A.length cap, .slice ao2 B.length cap2] 52)) (HA.out.on HQ0.out) (HB.out.on HQ0.out) (by omega) (by omega) (by simp) (by simp))
  go_enter Tryz.func125, Tryz.ntmps125
  go_wp2_with (go_at_call 132; refine HR.out.mono ?_; rintro e w1 ⟨vg, G, rfl, own, q1, h1, h2, h3⟩; have HSG := hid (own.sl ie_len (by decide)); have HQ1 := hid (HQ0.out.trans q1); have HG1 := hid h1; have HG2 := hid h2; obtain ⟨aog, capg, rfl, _, _⟩ := HSG.out.len; clear own q1 h1 h2)
  have HA1 := hid (HA.out.on HQ1.out)
  have HB1 := hid (HB.out.on HQ1.out)
  generalize hT : Rg.bandsP (Rg.csP A B) G = T
  have HT := hid hT
  clear hT HR HA HB HQ0
  go_loopw [5, 7] (fun o s W => ∃ (m : Nat) (O : List Bv) (D : List Rg.Bd), s = .int .i64 ((m : Int) + 1) ∧ (m = 0 ∨ m < G.length) ∧ O.length ≤ m ∧ Own bv 163 3 w1.heap.size W o O ∧ Hold w1.heap.size W O D ∧ Q w1 W ∧ Hid (BI (Rg.csP A B) G (m + 1) D T) ∧ Hid (∀ b, b ∈ D → b.cs.length ≤ 100000000)) (fun _ s _ => G.length - (intOf s).toNat)
  case atStart => exact ⟨0, [], [], rfl, .inl rfl, Nat.le_refl _, own_nil _, trivial, Q.refl _, .inl ⟨rfl, rfl, HT.out⟩, fun b hb => by simp at hb⟩
  case round =>
    obtain ⟨m, O, D, rfl, hm, hO, hown, hhold, hq, HBI, HBL⟩ := hrel
    have HOW := hid hown
    have HH := hid hhold
    have HQ := hid hq
    clear hown hhold hq
    by_cases hlt : m + 1 < G.length
    · have hlt' : (m : Int) + 1 < (G.length : Int) := by omega
      have hlt2 : (m : Int) < (G.length : Int) := by omega
      obtain ⟨gg, offg, cap', e, _, _, hc⟩ := (HSG.out.on HQ.out).at (i := m) (by omega)
      cases e
      obtain ⟨gg2, offg2, cap3, e, _, _, hc2⟩ := (HSG.out.on HQ.out).at hlt
      cases e
      have hcm : capg ≤ maxLen := by assumption
      have c0 : wr.cell? ⟨gg, offg + m, none⟩ = some (.int .i64 G[m]) := by have := hc 0 _ rfl; simpa using this
      have c1 : wr.cell? ⟨gg, offg + (m + 1), none⟩ = some (.int .i64 G[m + 1]) := by have := hc2 0 _ rfl; simpa using this
      clear hc hc2
      have HTE : Hid (∃ top en, G[m] = top ∧ G[m + 1] = en) := ⟨_, _, rfl, rfl⟩
      generalize hTOP : G[m] = top at *
      generalize hEND : G[m + 1] = en at *
      have HTOP := hid hTOP
      have HEND := hid hEND
      clear hTOP hEND HTE
      go_upto_region 6 with fail
      go_quiet (fail)
      rename_i nq
      have HOW2 := hid (HOW.out.on ((Q.refl _).drewN nq))
      have HH2 := hid (HH.out.on ((Q.refl _).drewN nq))
      have HQ2 := hid (HQ.out.drewN nq)
      clear HOW HH HQ c0 c1
      generalize wr.drewN nq = W2 at *
      have HC1 := hid (colsAt_any _ A top W2 (HA1.out.on HQ2.out) (by omega))
      go_upto_region 8 with (first
        | (go_at_call_of 134 A; refine HC1.out.mono ?_; rintro e w2 ⟨v1, rfl, own1, q1⟩; have HO1 := hid own1; have HQ3 := hid q1; have HC2 := hid (colsAt_any _ B top w2 (HB1.out.on (HQ2.out.trans q1)) (by omega)); clear own1 q1)
        | (go_at_call_of 134 B; refine HC2.out.mono ?_; rintro e w3 ⟨v2, rfl, own2, q2⟩; have HQ4 := hid (HQ3.out.trans q2); have HM := hid (minus_any v1 v2 _ _ w3 ((HO1.out.on q2).sl sp_len (by decide)) (own2.sl sp_len (by decide)) (by have := col0_le top A; omega) (by have := col0_le top B; omega)); clear own2 q2)
        | (go_at_call 133; refine HM.out.mono ?_; rintro e w4 ⟨v3, rfl, own3, q3⟩; have HQ5 := hid (HQ4.out.trans q3); have HO5 := hid (own3.mono (B' := w1.heap.size) (by have := HQ2.out.size; have := HQ4.out.size; omega)); clear own3 q3; obtain ⟨ao5, cap5, rfl, _, _⟩ := (HO5.out.sl sp_len (by decide)).len))
      have HCS : Hid (Rg.csP A B top = Rg.mn (Rg.col0 top A) (Rg.col0 top B)) := rfl
      have hc5 : (Rg.mn (Rg.col0 top A) (Rg.col0 top B)).length ≤ 100000000 := by
        have h1 := Rg.mn_len (Rg.col0 top A) (Rg.col0 top B) 256 (by have := col0_le top B; omega)
        have h2 := col0_le top A
        have h3 : (Rg.col0 top A).length * (256 + 1) ≤ 256 * (256 + 1) := Nat.mul_le_mul_right _ (by omega)
        omega
      generalize Rg.mn (Rg.col0 top A) (Rg.col0 top B) = C at *
      have BK := hid (bk_new bv w4 ⟨top, en, .slice ao5 C.length cap5⟩ 163)
      have HQ6 := hid (HQ5.out.alloc (.cells (bv ⟨top, en, .slice ao5 C.length cap5⟩).toArray 163))
      have HO6 := hid (HO5.out.alloc (.cells (bv ⟨top, en, .slice ao5 C.length cap5⟩).toArray 163))
      clear HC1 HC2 HM HO1 HQ3 HQ4 HQ5 HO5
      simp only [bv] at BK HQ6 HO6
      generalize w4.alloc (.cells [Value.int .i64 top, .int .i64 en, .slice ao5 C.length cap5].toArray 163) = W5 at *
      generalize w4.heap.size = bx at *
      have HOW6 := hid (HOW2.out.on HQ6.out)
      have HH6 := hid (HH2.out.on HQ6.out)
      have HQ7 := hid (HQ2.out.trans HQ6.out)
      clear HOW2 HH2 HQ2 HQ6
      have b0 : W5.cell? ⟨bx, 0, none⟩ = some (.int .i64 top) := BK.out.c 0 _ rfl
      have b1 : W5.cell? ⟨bx, 1, none⟩ = some (.int .i64 en) := BK.out.c 1 _ rfl
      have b2 : W5.cell? ⟨bx, 2, none⟩ = some (.slice ao5 C.length cap5) := BK.out.c 2 _ rfl
      have hbx : bx < W5.heap.size := BK.out.lt
      clear BK
      rcases HBI.out with ⟨hm1, rfl, hBT⟩ | ⟨D0, cur, rfl, hm2, hcur, hBT⟩
      · obtain rfl : m = 0 := by omega
        obtain rfl : O = [] := List.eq_nil_of_length_eq_zero (by have := HH6.out.len; simpa using this)
        have HBI2 : Hid (BI (Rg.csP A B) G 2 ([] ++ [⟨top, en, C⟩]) T) := by
          have := bi_first (by omega) hBT
          rw [HTOP.out, HEND.out, HCS.out] at this
          exact this
        clear HBI hBT HTOP HEND HCS
        obtain ⟨ao6, cap6, rfl, _, _⟩ := (HOW6.out.sl bv_len (by decide)).len
        simp only [List.length_nil] at HOW6
        go_upto_region 9 with fail
        go_quiet (fail)
        have HOW7 := hid (HOW6.out.on ((Q.refl _).drewN nq))
        have HH7 := hid (HH6.out.on ((Q.refl _).drewN nq))
        have HO7 := hid (HO6.out.on ((Q.refl _).drewN nq))
        have HQ8 := hid (HQ7.out.drewN nq)
        have g0 : (W5.drewN nq).cell? ⟨bx, 0, none⟩ = some (.int .i64 top) := b0
        have g1 : (W5.drewN nq).cell? ⟨bx, 1, none⟩ = some (.int .i64 en) := b1
        have g2 : (W5.drewN nq).cell? ⟨bx, 2, none⟩ = some (.slice ao5 C.length cap5) := b2
        have hbx2 : bx < (W5.drewN nq).heap.size := hbx
        clear HOW6 HH6 HO6 HQ7 b0 b1 b2 hbx
        generalize W5.drewN nq = W6 at *
        go_wp2_with (at_builtin; refine wpList_append_own _ rfl _ _ 157 rfl w1.heap.size 163 i0 (.agg #[.int .i64 0, .int .i64 0, .slice none 0 0]) 3 40 Tryz.underlying157 HI.out.1 HI.out.2.1 HI.out.2.2.1 HI.out.2.2.2 rfl (by decide) _ _ _ rfl (HOW7.out.alloc _) _ 1 1 [.int .i64 top, .int .i64 en, .slice ao5 C.length cap5] rfl rfl (news_at _ [.int .i64 top, .int .i64 en, .slice ao5 C.length cap5] 163 _ (by simp)) (bv_one top en ao5 C.length cap5) (by unfold maxLen; simp only [List.length_nil, List.length_append, List.length_cons] at *; omega) (by simp only [List.length_nil, List.length_append, List.length_cons] at *; omega) (by have := HQ8.out.size; simp; omega) ?_)
        intro v7 w7 hown' hgrow _
        have HO8 := hid (own_snoc' (enc := bv) (x := ⟨top, en, .slice ao5 C.length cap5⟩) hown' (by simp))
        have HH8 : Hid (Hold w1.heap.size w7 _ _) := Hold.snoc (f := top) (t := en) ((HO7.out.alloc _).grown hgrow (ne43 HOW7.out HO7.out)) ((HH7.out.on ((Q.refl _).alloc _)).grown (HOW7.out.alloc _) hgrow)
        have HQ9 : Hid (Q w1 w7) := Below.grown (HQ8.out.alloc _) hgrow (by have := HQ8.out.size; simp; omega) (HOW7.out.blk)
        clear hown' hgrow HOW7 HH7 HO7 HQ8 g0 g1 g2
        go_wp2_with fail
        go_roundw
        case rel => exact ⟨0 + 1, _, _, by go_num, .inr (by omega), (by simp only [List.length_append, List.length_cons, List.length_nil] at *; omega), HO8.out, HH8.out, HQ9.out, HBI2, bl_snoc HBL.out hc5⟩
        case measure => simp [intOf]; omega
      · obtain ⟨O0, x, rfl, hh0, hxf, hxt, hxv⟩ := HH6.out.last
        obtain ⟨f, t, cc⟩ := cur
        obtain ⟨f', t', xv⟩ := x
        simp only at hxf hxt hxv hcur
        subst hxf hxt
        have htop : t' = top := by
          have h9 : G[m]? = some t' := hcur
          rw [List.getElem?_eq_getElem (by omega), HTOP.out] at h9
          exact (Option.some.inj h9).symm
        subst htop
        have HX := hid hxv
        have HH0 := hid hh0
        clear hxv hh0 HBI hcur
        obtain ⟨g6, cap6, hv, hg1, hg2, hg3, hg4⟩ := HOW6.out.shape (by simp)
        have hl2 : (O0 ++ [Bv.mk f' t' xv]).length = O0.length + 1 := by simp
        have HOW8 := HOW6.out
        rw [hv] at HOW8
        have HOW8 := hid HOW8
        rw [hl2] at hv hg3 hO
        subst hv
        have HCC := hid (HOW8.out.cell bv_len (i := O0.length) (by simp))
        simp only [List.getElem_concat_length] at HCC
        have d2 : W5.cell? ⟨g6, O0.length * 3 + 2, none⟩ = some xv := HCC.out 2 _ rfl
        have d1 : W5.cell? ⟨g6, O0.length * 3 + 1, none⟩ = some (.int .i64 t') := HCC.out 1 _ rfl
        have hb6 : O0.length + 1 ≤ 9223372036854775807 := by omega
        have hcc : cc.length ≤ 100000000 := HBL.out ⟨f', t', cc⟩ (by simp)
        have HEQ := hid (fun n => eqS_any_q xv _ cc C (W5.drewN n) ((HX.out.sl sp_len (by decide)).on ((Q.refl _).drewN n)) ((HO6.out.sl sp_len (by decide)).on ((Q.refl _).drewN n)) (by omega) (by omega))
        cases he : Rg.eqL cc C
        · have HBI2 : Hid (BI (Rg.csP A B) G (m + 1 + 1) ((D0 ++ [⟨f', t', cc⟩]) ++ [⟨t', en, C⟩]) T) := by
            have := bi_new (cs := Rg.csP A B) hlt hm2 hBT (by rw [HCS.out]; exact he)
            rw [HEND.out, HCS.out] at this
            exact this
          rw [he] at HEQ
          clear he HTOP HEND HCS HCC d1
          go_upto_region 9 with fail
          go_quiet ((go_at_call 135; exact Calls.quiet_of (HEQ.out _)))
          have HOW7 := hid (HOW6.out.on ((Q.refl _).drewN nq))
          have HH7 := hid (HH6.out.on ((Q.refl _).drewN nq))
          have HO7 := hid (HO6.out.on ((Q.refl _).drewN nq))
          have HQ8 := hid (HQ7.out.drewN nq)
          have g0 : (W5.drewN nq).cell? ⟨bx, 0, none⟩ = some (.int .i64 t') := b0
          have g1 : (W5.drewN nq).cell? ⟨bx, 1, none⟩ = some (.int .i64 en) := b1
          have g2 : (W5.drewN nq).cell? ⟨bx, 2, none⟩ = some (.slice ao5 C.length cap5) := b2
          have hbx2 : bx < (W5.drewN nq).heap.size := hbx
          clear HOW8 HH0 HX HEQ d2 HOW6 HH6 HO6 HQ7 b0 b1 b2 hbx
          generalize W5.drewN nq = W6 at *
          go_wp2_with (at_builtin; refine wpList_append_own _ rfl _ _ 157 rfl w1.heap.size 163 i0 (.agg #[.int .i64 0, .int .i64 0, .slice none 0 0]) 3 40 Tryz.underlying157 HI.out.1 HI.out.2.1 HI.out.2.2.1 HI.out.2.2.2 rfl (by decide) _ _ _ rfl (HOW7.out.alloc _) _ 1 1 [.int .i64 t', .int .i64 en, .slice ao5 C.length cap5] rfl rfl (news_at _ [.int .i64 t', .int .i64 en, .slice ao5 C.length cap5] 163 _ (by simp)) (bv_one t' en ao5 C.length cap5) (by unfold maxLen; simp only [List.length_nil, List.length_append, List.length_cons] at *; omega) (by simp only [List.length_nil, List.length_append, List.length_cons] at *; omega) (by have := HQ8.out.size; simp; omega) ?_)
          intro v7 w7 hown' hgrow _
          have HO8 := hid (own_snoc' (enc := bv) (x := ⟨t', en, .slice ao5 C.length cap5⟩) hown' (by simp))
          have HH8 : Hid (Hold w1.heap.size w7 _ _) := Hold.snoc (f := t') (t := en) ((HO7.out.alloc _).grown hgrow (ne43 HOW7.out HO7.out)) ((HH7.out.on ((Q.refl _).alloc _)).grown (HOW7.out.alloc _) hgrow)
          have HQ9 : Hid (Q w1 w7) := Below.grown (HQ8.out.alloc _) hgrow (by have := HQ8.out.size; simp; omega) (HOW7.out.blk)
          clear hown' hgrow HOW7 HH7 HO7 HQ8 g0 g1 g2
          go_wp2_with fail
          go_roundw
          case rel => exact ⟨m + 1, _, _, by go_num, .inr (by omega), (by simp only [List.length_append, List.length_cons, List.length_nil] at *; omega), HO8.out, HH8.out, HQ9.out, HBI2, bl_snoc HBL.out hc5⟩
          case measure => simp [intOf]; omega
        · have HBI2 : Hid (BI (Rg.csP A B) G (m + 1 + 1) (D0 ++ [⟨f', en, cc⟩]) T) := by
            have := bi_on (cs := Rg.csP A B) hlt hm2 hBT (by rw [HCS.out]; exact he)
            rw [HEND.out] at this
            exact this
          rw [he] at HEQ
          have d3 : W5.frozen? ⟨g6, O0.length * 3 + 1, none⟩ = false := World.ownsRow.frozenAt HOW8.out _
          clear he HTOP HEND HCS HCC
          go_upto_region 9 with fail
          go_quiet ((go_at_call 135; exact Calls.quiet_of (HEQ.out _)))
          have HOW9 := hid (HOW8.out.on ((Q.refl _).drewN nq))
          have HH9 := hid (HH0.out.on ((Q.refl _).drewN nq))
          have HX9 := hid (HX.out.on ((Q.refl _).drewN nq))
          have HQ9 := hid (HQ7.out.drewN nq)
          have e1 : (W5.drewN nq).cell? ⟨g6, O0.length * 3 + 1, none⟩ = some (.int .i64 t') := d1
          have e3 : (W5.drewN nq).frozen? ⟨g6, O0.length * 3 + 1, none⟩ = false := d3
          clear HOW6 HOW8 HH6 HH0 HX HO6 HQ7 HEQ b0 b1 b2 hbx d1 d2 d3
          generalize W5.drewN nq = W6 at *
          have HOA := hid (HOW9.out.set bv_len (i := O0.length) (by simp) 1 (by decide) (.int .i64 en) ⟨f', en, xv⟩ (by simp [bv]))
          rw [set_last_bv] at HOA
          have HHA : Hid (Hold w1.heap.size (W6.setCell ⟨g6, O0.length * 3 + 1, none⟩ (.int .i64 en)) (O0 ++ [⟨f', en, xv⟩]) (D0 ++ [⟨f', en, cc⟩])) := by
            have h1 : Hold w1.heap.size W6 (O0 ++ [⟨f', en, xv⟩]) (D0 ++ [⟨f', en, cc⟩]) := Hold.snoc HX9.out HH9.out
            exact h1.set HOW9.out
          have HQA : Hid (Q w1 (W6.setCell ⟨g6, O0.length * 3 + 1, none⟩ (.int .i64 en))) := Below.setCell HQ9.out hg1 _
          rw [hl2] at HOA
          clear HOW9 HH9 HX9 HQ9
          go_wp2_with fail
          go_roundw
          case rel => exact ⟨m + 1, _, _, by go_num, .inr (by omega), (by simp only [List.length_append, List.length_cons, List.length_nil] at *; omega), HOA.out, HHA.out, HQA.out, HBI2, bl_on HBL.out rfl⟩
          case measure => simp [intOf]; omega
    · have hlt' : ¬ (m : Int) + 1 < (G.length : Int) := by omega
      have HE := hid (bi_end HBI.out (by omega))
      go_wp2
      go_ret
      exact ⟨_, rfl, O, G, HOW.out.mono HQ1.out.size, by rw [HT.out, ← HE.out]; exact HH.out.mono HQ1.out.size, HQ1.out.trans HQ.out, HG1.out, HG2.out, by omega, by rw [HT.out, ← HE.out]; exact HBL.out⟩
end Go.Proofs.YtcgddnliiondoaaGreatDoor.R
