/- The columns of a row, of rectangles from the left; Ranges wi. -/
import Derived.Test.YtcgddnliiondoaaGreatDoorKp03
import Derived.Deep.CutBlock
import Derived.BigRegion
set_option linter.unusedVariables false
set_option linter.unusedSimpArgs false
set_option maxRecDepth 100000
set_option maxHeartbeats 8000000
namespace Go.Proofs.YtcgddnliiondoaaGreatDoor.R
open Go.RowKit
def CI (r : Int) (O : List Rg.Sp) (l : List Rg.Rc) (T : List Rg.Sp) : Prop := (O = [] ∧ Rg.col0 r l = T) ∨ ∃ D c, O = D ++ [c] ∧ D ++ Rg.col r c l = T
theorem act_no {a b c d r : Int} (h : r < a ∨ c ≤ r) : Rg.act ⟨a, b, c, d⟩ r = false := by unfold Rg.act; rw [decide_eq_false_iff_not]; simp only; omega
theorem act_yes {a b c d r : Int} (h : ¬ r < a) (h' : ¬ c ≤ r) : Rg.act ⟨a, b, c, d⟩ r = true := by unfold Rg.act; rw [decide_eq_true_eq]; simp only; omega
theorem ci_skip {r : Int} {O : List Rg.Sp} {x : Rg.Rc} {l : List Rg.Rc} {T : List Rg.Sp} (h : CI r O (x :: l) T) (ha : Rg.act x r = false) : CI r O l T := by
  rcases h with ⟨h1, h2⟩ | ⟨D, c, h1, h2⟩
  · rw [Rg.col0, ha] at h2; exact .inl ⟨h1, by simpa using h2⟩
  · rw [Rg.col, ha] at h2; exact .inr ⟨D, c, h1, by simpa using h2⟩
theorem ci_first {r : Int} {x : Rg.Rc} {l : List Rg.Rc} {T : List Rg.Sp} (h : Rg.col0 r (x :: l) = T) (ha : Rg.act x r = true) : CI r [⟨x.b, x.d⟩] l T := by
  rw [Rg.col0, ha] at h
  exact .inr ⟨[], ⟨x.b, x.d⟩, rfl, by simpa using h⟩
theorem ci_on {r : Int} {D : List Rg.Sp} {c : Rg.Sp} {x : Rg.Rc} {l : List Rg.Rc} {T : List Rg.Sp} (h : D ++ Rg.col r c (x :: l) = T) (ha : Rg.act x r = true) (hb : x.b ≤ c.t) : CI r (D ++ [⟨c.f, max c.t x.d⟩]) l T := by
  rw [Rg.col, ha] at h
  simp only [if_true] at h
  rw [if_pos hb] at h
  exact .inr ⟨D, _, rfl, h⟩
theorem ci_new {r : Int} {D : List Rg.Sp} {c : Rg.Sp} {x : Rg.Rc} {l : List Rg.Rc} {T : List Rg.Sp} (h : D ++ Rg.col r c (x :: l) = T) (ha : Rg.act x r = true) (hb : ¬ x.b ≤ c.t) : CI r ((D ++ [c]) ++ [⟨x.b, x.d⟩]) l T := by
  rw [Rg.col, ha] at h
  simp only [if_true] at h
  rw [if_neg hb] at h
  exact .inr ⟨D ++ [c], _, rfl, by simpa using h⟩
theorem ci_end {r : Int} {O T : List Rg.Sp} (h : CI r O [] T) : O = T := by
  rcases h with ⟨h1, h2⟩ | ⟨D, c, h1, h2⟩
  · rw [h1, ← h2]; rfl
  · rw [h1, ← h2]; rfl
theorem set_last (D : List Rg.Sp) (c c' : Rg.Sp) : (D ++ [c]).set D.length c' = D ++ [c'] := by simp
set_option maxHeartbeats 4000000 in
theorem colsAt_any (v : Value) (L : List Rg.Rc) (row : Int) (w : World) (h : Sl rc 4 w v L) (hL : L.length ≤ 1000000) : Calls Tryz.prog 134 #[v, .int .i64 row] w fun e w' => ∃ v', e = .returned v' ∧ Own sp 160 2 w.heap.size w' v' (Rg.col0 row L) ∧ Q w w' := by
  obtain ⟨i0, HI⟩ := inf_of info40
  have HI := hid HI
  have HS := hid h
  obtain ⟨ao, cap, rfl, h1, h2⟩ := h.len
  clear h
  generalize hT : Rg.col0 row L = T
  have HT := hid hT
  clear hT
  go_enter Tryz.func134, Tryz.ntmps134
  go_wp2
  go_loopw [5, 11] (fun o s W => ∃ (n : Nat) (O : List Rg.Sp), n ≤ L.length ∧ s = .int .i64 n ∧ Own sp 160 2 w.heap.size W o O ∧ Q w W ∧ O.length ≤ n ∧ Hid (CI row O (L.drop n) T)) (fun _ s _ => L.length - (intOf s).toNat)
  case atStart => exact ⟨0, [], Nat.zero_le _, rfl, own_nil _, Q.refl _, Nat.le_refl _, .inl ⟨rfl, by rw [List.drop_zero]; exact HT.out⟩⟩
  case round =>
    obtain ⟨n, O, hn, rfl, hown, hq, hO, HC⟩ := hrel
    have HOW := hid hown
    have HQ := hid hq
    clear hown hq
    by_cases hlt : n < L.length
    · have hlt' : (n : Int) < (L.length : Int) := by omega
      obtain ⟨g, off, cap', e, _, _, hc⟩ := (HS.out.on HQ.out).at hlt
      cases e
      rw [List.drop_eq_getElem_cons hlt] at HC
      generalize L[n] = x at *
      obtain ⟨xa, xb, xc, xd⟩ := x
      have c0 : wr.cell? ⟨g, off + n * 4, none⟩ = some (.int .i64 xa) := hc 0 _ rfl
      have c1 : wr.cell? ⟨g, off + n * 4 + 1, none⟩ = some (.int .i64 xb) := hc 1 _ rfl
      have c2 : wr.cell? ⟨g, off + n * 4 + 2, none⟩ = some (.int .i64 xc) := hc 2 _ rfl
      have c3 : wr.cell? ⟨g, off + n * 4 + 3, none⟩ = some (.int .i64 xd) := hc 3 _ rfl
      clear hc
      by_cases a1 : row < xa
      · have HC2 := hid (ci_skip HC.out (act_no (.inl a1)))
        clear HC
        go_wp2
        go_roundw
        case rel => exact ⟨n + 1, O, by omega, by go_num, HOW.out.alloc _, HQ.out.alloc _, by omega, HC2⟩
        case measure => simp [intOf]; omega
      · by_cases a2 : xc ≤ row
        · have HC2 := hid (ci_skip HC.out (act_no (.inr a2)))
          clear HC
          go_wp2
          go_roundw
          case rel => exact ⟨n + 1, O, by omega, by go_num, HOW.out.alloc _, HQ.out.alloc _, by omega, HC2⟩
          case measure => simp [intOf]; omega
        · have HA := hid (act_yes (b := xb) (d := xd) a1 a2)
          rcases HC.out with ⟨rfl, hT⟩ | ⟨D, c, rfl, hT⟩
          · have HC2 := hid (ci_first hT HA.out)
            clear HC HA hT
            obtain ⟨ao2, cap2, rfl, _, _⟩ := (HOW.out.sl sp_len (by decide)).len
            go_upto_region 7 with fail
            go_quiet (fail)
            rename_i nq
            have B0 := hid ((bx_new rc wr ⟨xa, xb, xc, xd⟩ 101).on ((Q.refl _).drewN nq))
            have HO2 := hid ((HOW.out.alloc (.cells (rc ⟨xa, xb, xc, xd⟩).toArray 101)).on ((Q.refl _).drewN nq))
            have HQ2 := hid ((HQ.out.alloc (.cells (rc ⟨xa, xb, xc, xd⟩).toArray 101)).drewN nq)
            have hbx : wr.heap.size < ((wr.alloc (.cells (rc ⟨xa, xb, xc, xd⟩).toArray 101)).drewN nq).heap.size := by simp
            clear HOW HQ c0 c1 c2 c3
            simp only [rc] at B0 HO2 HQ2 hbx
            generalize (wr.alloc (.cells [Value.int .i64 xa, .int .i64 xb, .int .i64 xc, .int .i64 xd].toArray 101)).drewN nq = W2 at *
            have e0 : W2.cell? ⟨wr.heap.size, 1, none⟩ = some (.int .i64 xb) := B0.out 1 _ rfl
            have e1 : W2.cell? ⟨wr.heap.size, 3, none⟩ = some (.int .i64 xd) := B0.out 3 _ rfl
            clear B0
            generalize wr.heap.size = bx at *
            go_wp2_with (at_builtin; refine wpList_append_own _ rfl _ _ 161 rfl w.heap.size 160 i0 (.agg #[.int .i64 0, .int .i64 0]) 2 16 Tryz.underlying161 HI.out.1 HI.out.2.1 HI.out.2.2.1 HI.out.2.2.2 rfl (by decide) _ _ _ rfl (HO2.out.alloc _) _ 1 1 [.int .i64 xb, .int .i64 xd] rfl rfl (news_at _ [.int .i64 xb, .int .i64 xd] 160 _ (by simp)) (sp_one ⟨xb, xd⟩) (by unfold maxLen; simp only [List.length_append, List.length_nil, List.length_cons]; omega) (by simp only [List.length_append, List.length_nil, List.length_cons]; omega) (by have := HQ2.out.size; simp; omega) ?_)
            · intro v' w3 hown' hgrow _
              have HO4 := hid (own_snoc' (enc := sp) (x := ⟨xb, xd⟩) hown' (by simp))
              have HQ4 : Hid (Q w w3) := Below.grown (HQ2.out.alloc _) hgrow (by have := HQ2.out.size; simp; omega) (HO2.out.blk)
              clear hown' hgrow HO2 HQ2 e0 e1
              go_wp2
              go_roundw
              case rel => exact ⟨n + 1, _, by omega, by go_num, HO4.out, HQ4.out, (by simp <;> omega), HC2⟩
              case measure => simp [intOf]; omega
          · obtain ⟨g2, cap2, hv, hg1, hg2, hg3, hg4⟩ := HOW.out.shape (by simp)
            have hl2 : (D ++ [c]).length = D.length + 1 := by simp
            have HOW1 := HOW.out
            rw [hv] at HOW1
            have HOW1 := hid HOW1
            rw [hl2] at hv hg3 hO
            subst hv
            have HCC := hid (HOW1.out.cell sp_len (i := D.length) (by simp))
            simp only [List.getElem_concat_length] at HCC
            obtain ⟨cf, ct⟩ := c
            have d0 : wr.cell? ⟨g2, D.length * 2, none⟩ = some (.int .i64 cf) := HCC.out 0 _ rfl
            have d1 : wr.cell? ⟨g2, D.length * 2 + 1, none⟩ = some (.int .i64 ct) := HCC.out 1 _ rfl
            have hcap2 : D.length + 1 ≤ 9223372036854775807 := by omega
            by_cases hb : xb ≤ ct
            · have HC2 := hid (ci_on hT HA.out hb)
              clear HC HA hT HCC
              go_upto_region 7 with fail
              have hbd : decide (xb ≤ ct) = true := decide_eq_true hb
              go_quiet (fail)
              rename_i nq
              have B0 := hid ((bx_new rc wr ⟨xa, xb, xc, xd⟩ 101).on ((Q.refl _).drewN nq))
              have HO2 := hid ((HOW.out.alloc (.cells (rc ⟨xa, xb, xc, xd⟩).toArray 101)).on ((Q.refl _).drewN nq))
              have HQ2 := hid ((HQ.out.alloc (.cells (rc ⟨xa, xb, xc, xd⟩).toArray 101)).drewN nq)
              have hbx : wr.heap.size < ((wr.alloc (.cells (rc ⟨xa, xb, xc, xd⟩).toArray 101)).drewN nq).heap.size := by simp
              have HO3 := hid ((HOW1.out.alloc (.cells (rc ⟨xa, xb, xc, xd⟩).toArray 101)).on ((Q.refl _).drewN nq))
              clear HOW HOW1 HQ c0 c1 c2 c3 d0 d1
              simp only [rc] at B0 HO3 HO2 HQ2 hbx
              generalize (wr.alloc (.cells [Value.int .i64 xa, .int .i64 xb, .int .i64 xc, .int .i64 xd].toArray 101)).drewN nq = W2 at *
              have e0 : W2.cell? ⟨wr.heap.size, 1, none⟩ = some (.int .i64 xb) := B0.out 1 _ rfl
              have e1 : W2.cell? ⟨wr.heap.size, 3, none⟩ = some (.int .i64 xd) := B0.out 3 _ rfl
              clear B0
              generalize wr.heap.size = bx at *
              have f0 : W2.cell? ⟨g2, D.length * 2 + 1, none⟩ = some (.int .i64 ct) := by
                have := HO3.out.cell sp_len (i := D.length) (by simp)
                simp only [List.getElem_concat_length] at this
                exact this 1 _ rfl
              have f1 : W2.frozen? ⟨g2, D.length * 2 + 1, none⟩ = false := World.ownsRow.frozenAt HO3.out _
              rw [max_if] at HC2
              have HO5 := hid (HO3.out.set sp_len (i := D.length) (by simp) 1 (by decide) (.int .i64 (if ct < xd then xd else ct)) ⟨cf, if ct < xd then xd else ct⟩ (by simp [sp]))
              rw [set_last] at HO5
              have HQ5 : Hid (Q w (W2.setCell ⟨g2, D.length * 2 + 1, none⟩ (.int .i64 (if ct < xd then xd else ct)))) := Below.setCell HQ2.out hg1 _
              go_wp2_with fail
              rw [hl2] at HO5
              go_region
              go_wp2
              go_roundw
              case rel => exact ⟨n + 1, _, by omega, by go_num, HO5.out.on ((Q.refl _).drew), HQ5.out.drew, (by simp <;> omega), HC2⟩
              case measure => simp [intOf]; omega
            · have HC2 := hid (ci_new hT HA.out hb)
              clear HC HA hT HCC
              go_upto_region 7 with fail
              have hbd : decide (xb ≤ ct) = false := decide_eq_false hb
              go_quiet (fail)
              rename_i nq
              have B0 := hid ((bx_new rc wr ⟨xa, xb, xc, xd⟩ 101).on ((Q.refl _).drewN nq))
              have HO2 := hid ((HOW.out.alloc (.cells (rc ⟨xa, xb, xc, xd⟩).toArray 101)).on ((Q.refl _).drewN nq))
              have HQ2 := hid ((HQ.out.alloc (.cells (rc ⟨xa, xb, xc, xd⟩).toArray 101)).drewN nq)
              have hbx : wr.heap.size < ((wr.alloc (.cells (rc ⟨xa, xb, xc, xd⟩).toArray 101)).drewN nq).heap.size := by simp
              clear HOW HQ HOW1 c0 c1 c2 c3 d0 d1
              simp only [rc] at B0 HO2 HQ2 hbx
              generalize (wr.alloc (.cells [Value.int .i64 xa, .int .i64 xb, .int .i64 xc, .int .i64 xd].toArray 101)).drewN nq = W2 at *
              have e0 : W2.cell? ⟨wr.heap.size, 1, none⟩ = some (.int .i64 xb) := B0.out 1 _ rfl
              have e1 : W2.cell? ⟨wr.heap.size, 3, none⟩ = some (.int .i64 xd) := B0.out 3 _ rfl
              clear B0
              generalize wr.heap.size = bx at *
              go_wp2_with (at_builtin; refine wpList_append_own _ rfl _ _ 161 rfl w.heap.size 160 i0 (.agg #[.int .i64 0, .int .i64 0]) 2 16 Tryz.underlying161 HI.out.1 HI.out.2.1 HI.out.2.2.1 HI.out.2.2.2 rfl (by decide) _ _ _ rfl (HO2.out.alloc _) _ 1 1 [.int .i64 xb, .int .i64 xd] rfl rfl (news_at _ [.int .i64 xb, .int .i64 xd] 160 _ (by simp)) (sp_one ⟨xb, xd⟩) (by unfold maxLen; simp only [List.length_append, List.length_nil, List.length_cons]; omega) (by simp only [List.length_append, List.length_nil, List.length_cons]; omega) (by have := HQ2.out.size; simp; omega) ?_)
              · intro v' w3 hown' hgrow _
                have HO4 := hid (own_snoc' (enc := sp) (x := ⟨xb, xd⟩) hown' (by simp))
                have HQ4 : Hid (Q w w3) := Below.grown (HQ2.out.alloc _) hgrow (by have := HQ2.out.size; simp; omega) (HO2.out.blk)
                clear hown' hgrow HO2 HQ2 e0 e1
                go_wp2
                go_roundw
                case rel => exact ⟨n + 1, _, by omega, by go_num, HO4.out, HQ4.out, (by simp <;> omega), HC2⟩
                case measure => simp [intOf]; omega
    · have hlt' : ¬ (n : Int) < (L.length : Int) := by omega
      have HE : Hid (O = T) := by
        have := HC.out
        rw [List.drop_eq_nil_of_le (by omega)] at this
        exact ci_end this
      clear HC
      go_wp2
      go_ret
      exact ⟨_, rfl, own_eq HOW.out HE.out, HQ.out⟩
theorem sl_tail {w : World} {g off cap : Nat} {y : Rg.Sp} {L : List Rg.Sp} (h : Sl sp 2 w (.slice (some ⟨g, off, none⟩) (y :: L).length cap) (y :: L)) : Sl sp 2 w (.slice (if cap = 1 then some ⟨g, off, none⟩ else some ⟨g, off + 2, none⟩) L.length (cap - 1)) L := by
  obtain ⟨ao, cap', hv, h1, h2, h⟩ := h
  simp only [Value.slice.injEq, true_and] at hv
  obtain ⟨rfl, rfl⟩ := hv
  simp only [List.length_cons] at h1
  refine ⟨_, _, rfl, by omega, by omega, fun hl => ?_⟩
  obtain ⟨b, off', e, hc⟩ := h (by simp)
  cases e
  rw [if_neg (by omega)]
  refine ⟨g, off + 2, rfl, fun i hi => ?_⟩
  have := hc (i + 1) (by simpa using hi)
  rw [show off + (i + 1) * 2 = off + 2 + i * 2 by omega] at this
  simpa using this
def fin (s : Rg.Sp) : List Rg.Sp := if s.f < s.t then [s] else []
theorem mi_end (s : Rg.Sp) : Rg.mi s [] = fin s := rfl
theorem mi_stop {s y : Rg.Sp} {l : List Rg.Sp} (h : s.t ≤ y.f) : Rg.mi s (y :: l) = fin s := by rw [Rg.mi, if_pos h]; rfl
theorem mi_on {s y : Rg.Sp} {l : List Rg.Sp} (h : ¬ s.t ≤ y.f) (h' : s.f < y.f) : Rg.mi s (y :: l) = [⟨s.f, y.f⟩] ++ Rg.mi ⟨y.t, s.t⟩ l := by rw [Rg.mi, if_neg h, if_pos h']
theorem mi_by {s y : Rg.Sp} {l : List Rg.Sp} (h : ¬ s.t ≤ y.f) (h' : ¬ s.f < y.f) : Rg.mi s (y :: l) = Rg.mi ⟨y.t, s.t⟩ l := by rw [Rg.mi, if_neg h, if_neg h', List.nil_append]
theorem dropB_yes {f : Int} {y : Rg.Sp} {l : List Rg.Sp} (h : y.t ≤ f) : Rg.dropB f (y :: l) = Rg.dropB f l := by rw [Rg.dropB, if_pos h]
theorem dropB_no {f : Int} {y : Rg.Sp} {l : List Rg.Sp} (h : ¬ y.t ≤ f) : Rg.dropB f (y :: l) = y :: l := by rw [Rg.dropB, if_neg h]
set_option maxHeartbeats 4000000 in
theorem minus_any (va vb : Value) (A Bb : List Rg.Sp) (w : World) (ha : Sl sp 2 w va A) (hb : Sl sp 2 w vb Bb) (hA : A.length ≤ 1000) (hB : Bb.length ≤ 1000) : Calls Tryz.prog 133 #[va, vb] w fun e w' => ∃ v', e = .returned v' ∧ Own sp 160 2 w.heap.size w' v' (Rg.mn A Bb) ∧ Q w w' := by
  obtain ⟨i0, HI⟩ := inf_of info40
  have HI := hid HI
  have HS := hid ha
  have HB := hid hb
  obtain ⟨ao, cap, rfl, h1, h2⟩ := ha.len
  clear ha hb
  generalize hT : Rg.mn A Bb = T
  have HT := hid hT
  clear hT
  go_enter Tryz.func133, Tryz.ntmps133
  go_wp2
  go_loopw [1, 5, 12] (fun b o s W => ∃ (n : Nat) (O Bs : List Rg.Sp), n ≤ A.length ∧ s = .int .i64 n ∧ Sl sp 2 w b Bs ∧ Own sp 160 2 w.heap.size W o O ∧ Q w W ∧ Bs.length ≤ Bb.length ∧ O.length ≤ n * 1001 ∧ Hid (O ++ Rg.mn (A.drop n) Bs = T)) (fun _ _ s _ => A.length - (intOf s).toNat)
  case atStart => exact ⟨0, [], Bb, Nat.zero_le _, rfl, HB.out, own_nil _, Q.refl _, Nat.le_refl _, Nat.zero_le _, by rw [List.drop_zero]; exact HT.out⟩
  case round =>
    obtain ⟨n, O, Bs, hn, rfl, hbs, hown, hq, hbl, hO, HC⟩ := hrel
    have HOW := hid hown
    have HQ := hid hq
    have HBS := hid hbs
    clear hown hq hbs
    by_cases hlt : n < A.length
    · have hlt' : (n : Int) < (A.length : Int) := by omega
      obtain ⟨g, off, cap', e, _, _, hc⟩ := (HS.out.on HQ.out).at hlt
      cases e
      rw [List.drop_eq_getElem_cons hlt] at HC
      generalize A[n] = x at *
      obtain ⟨sf, st⟩ := x
      have c0 : wr.cell? ⟨g, off + n * 2, none⟩ = some (.int .i64 sf) := hc 0 _ rfl
      have c1 : wr.cell? ⟨g, off + n * 2 + 1, none⟩ = some (.int .i64 st) := hc 1 _ rfl
      clear hc
      go_upto_block 2 with fail
      have BK := hid (bk_new sp wr ⟨sf, st⟩ 160)
      have HO1 := hid (HOW.out.alloc (.cells (sp ⟨sf, st⟩).toArray 160))
      have HQ1 := hid (HQ.out.alloc (.cells (sp ⟨sf, st⟩).toArray 160))
      have hne : Hid (∀ j, u5.ownBlock = some j → j < wr.heap.size) := HOW.out.lt
      have hwb : w.heap.size ≤ wr.heap.size := HQ.out.size
      clear HOW HQ c0 c1
      simp only [sp] at BK HO1 HQ1
      generalize wr.alloc (.cells [Value.int .i64 sf, .int .i64 st].toArray 160) = W1 at *
      generalize wr.heap.size = bx at *
      go_cut [1] from 16 to 29 (fun b W => ∃ Bs2, Sl sp 2 w b Bs2 ∧ Q W1 W ∧ Hid (Bs2 = Rg.dropB sf Bs))
      case first =>
        go_wp2_with fail
        go_loopw [1] (fun b W => ∃ Bs2, Sl sp 2 w b Bs2 ∧ Q W1 W ∧ Hid (Rg.dropB sf Bs2 = Rg.dropB sf Bs)) (fun b _ => slen b)
        case atStart => exact ⟨Bs, HBS.out, Q.refl _, rfl⟩
        case round =>
          obtain ⟨Bs2, hs2, q2, hd⟩ := hrel
          have HS2 := hid hs2
          have HQ2 := hid q2
          have e0 : wr.cell? ⟨bx, 0, none⟩ = some (.int .i64 sf) := (BK.out.on q2).c 0 _ rfl
          clear hs2 q2
          cases Bs2 with
          | nil =>
            obtain ⟨ao2, cap2, rfl, _, _⟩ := HS2.out.len
            go_wp2_with fail
            go_quiet (fail)
            go_wp2_with fail
            go_meet
            exact ⟨[], HS2.out, HQ2.out.drewN _, hd.out⟩
          | cons y Bs3 =>
            obtain ⟨g2, off2, cap2, rfl, hk1, hk2, hc⟩ := (HS2.out.on (HQ1.out.trans HQ2.out)).at (i := 0) (by simp)
            obtain ⟨yf, yt⟩ := y
            have f1 : wr.cell? ⟨g2, off2 + 1, none⟩ = some (.int .i64 yt) := by
              have := hc 1 _ rfl
              simpa using this
            clear hc
            by_cases hyt : yt ≤ sf
            · have hyd : decide (yt ≤ sf) = true := decide_eq_true hyt
              go_wp2_with fail
              go_quiet (fail)
              go_wp2_with fail
              exact ⟨⟨Bs3, sl_tail HS2.out, HQ2.out.drewN _, by rw [← dropB_yes (y := ⟨yf, yt⟩) hyt]; exact hd.out⟩, by simp [slen]⟩
            · have hyd : decide (yt ≤ sf) = false := decide_eq_false hyt
              go_wp2_with fail
              go_quiet (fail)
              go_wp2_with fail
              go_meet
              exact ⟨_, HS2.out, HQ2.out.drewN _, by show _ = _; rw [← hd.out, dropB_no (y := ⟨yf, yt⟩) (by simp only; omega)]⟩
      case rest =>
        obtain ⟨Bs2, hs2, q2, hd⟩ := hcut
        have HBK := hid (BK.out.on q2)
        have HO3 := hid (HO1.out.on q2)
        have HQ3 := hid (HQ1.out.trans q2)
        have HS2 := hid hs2
        have hbl2 : Bs2.length ≤ 1000 := by
          have := Rg.dropB_len Bs sf
          rw [← hd.out] at this
          omega
        have hbl3 : Bs2.length ≤ Bb.length := by
          have := Rg.dropB_len Bs sf
          rw [← hd.out] at this
          omega
        have HC3 : Hid ((O ++ Rg.mi ⟨sf, st⟩ Bs2) ++ Rg.mn (A.drop (n + 1)) Bs2 = T) := by
          have := HC.out
          rw [Rg.mn, ← hd.out] at this
          rw [List.append_assoc]
          exact this
        have hlt5 : n < 1000 := by omega
        have hO5 : O.length ≤ 1000000 := by omega
        obtain ⟨ao2, cap2, rfl, _, _⟩ := hs2.len
        clear HO1 HQ1 BK HC hd hs2 q2
        go_upto_block 4 with fail
        go_cut [5, 9] from 30 to 57 (fun o p W => ∃ (O2 : List Rg.Sp) (f2 : Int), Own sp 160 2 w.heap.size W o O2 ∧ Q w W ∧ Bk sp W bx ⟨f2, st⟩ ∧ O2.length ≤ O.length + Bs2.length ∧ Hid (O2 ++ fin ⟨f2, st⟩ = O ++ Rg.mi ⟨sf, st⟩ Bs2))
        case first =>
          go_wp2_with fail
          go_loopw [5, 32] (fun o s W => ∃ (j : Nat) (O2 : List Rg.Sp) (f2 : Int), j ≤ Bs2.length ∧ s = .int .i64 j ∧ Own sp 160 2 w.heap.size W o O2 ∧ Hid (o.ownBlock ≠ some bx) ∧ Q w W ∧ Bk sp W bx ⟨f2, st⟩ ∧ O2.length ≤ O.length + j ∧ Hid (O2 ++ Rg.mi ⟨f2, st⟩ (Bs2.drop j) = O ++ Rg.mi ⟨sf, st⟩ Bs2)) (fun _ s _ => Bs2.length - (intOf s).toNat)
          case atStart => exact ⟨0, O, sf, Nat.zero_le _, rfl, HO3.out, (fun e => Nat.lt_irrefl _ (hne.out bx e)), HQ3.out, HBK.out, Nat.le_refl _, by rw [List.drop_zero]; exact rfl⟩
          case round =>
            clear HO3 HQ3 HBK
            obtain ⟨j, O2, f2, hj, rfl, hown, hnb, hq, hbk, hO2, HM⟩ := hrel
            have HO2 := hid hown
            have HQ2 := hid hq
            have HBK := hid hbk
            have hbx : bx < wr.heap.size := hbk.lt
            have e0 : wr.cell? ⟨bx, 0, none⟩ = some (.int .i64 f2) := hbk.c 0 _ rfl
            have e1 : wr.cell? ⟨bx, 1, none⟩ = some (.int .i64 st) := hbk.c 1 _ rfl
            have e2 : wr.frozen? ⟨bx, 0, none⟩ = false := hbk.f 0
            clear hown hq hbk
            by_cases hjl : j < Bs2.length
            · have hjl' : (j : Int) < (Bs2.length : Int) := by omega
              obtain ⟨g2, off2, cap3, e, _, _, hc⟩ := (HS2.out.on HQ2.out).at hjl
              cases e
              rw [List.drop_eq_getElem_cons hjl] at HM
              generalize Bs2[j] = y at *
              obtain ⟨yf, yt⟩ := y
              have c0 : wr.cell? ⟨g2, off2 + j * 2, none⟩ = some (.int .i64 yf) := hc 0 _ rfl
              have c1 : wr.cell? ⟨g2, off2 + j * 2 + 1, none⟩ = some (.int .i64 yt) := hc 1 _ rfl
              clear hc
              by_cases b1 : st ≤ yf
              · have HM2 : Hid (O2 ++ fin ⟨f2, st⟩ = O ++ Rg.mi ⟨sf, st⟩ Bs2) := by show _ = _; rw [← HM.out, mi_stop b1]
                clear HM
                go_wp2_with fail
                go_meet
                exact ⟨O2, f2, HO2.out.alloc _, HQ2.out.alloc _, HBK.out.on ((Q.refl _).alloc _), by omega, HM2⟩
              · by_cases b2 : f2 < yf
                · have HM2 : Hid ((O2 ++ [⟨f2, yf⟩]) ++ Rg.mi ⟨yt, st⟩ (Bs2.drop (j + 1)) = O ++ Rg.mi ⟨sf, st⟩ Bs2) := by show _ = _; rw [← HM.out, mi_on b1 b2, List.append_assoc]
                  clear HM
                  go_wp2_with (at_builtin; refine wpList_append_lies _ rfl _ _ 161 rfl w.heap.size 160 i0 (.agg #[.int .i64 0, .int .i64 0]) 2 16 Tryz.underlying161 HI.out.1 HI.out.2.1 HI.out.2.2.1 HI.out.2.2.2 rfl (by decide) _ _ _ rfl ((HO2.out.alloc _).alloc _) _ 1 1 [.int .i64 f2, .int .i64 yf] rfl rfl (news_at _ [.int .i64 f2, .int .i64 yf] 160 _ (by simp)) (sp_one ⟨f2, yf⟩) (by decide) (by unfold maxLen; omega) (by omega) (by have := HQ2.out.size; simp; omega) _ rfl ?_)
                  intro g3 cap4 w3 hown' hgrow hlies hg3
                  have HO4 := hid (own_snoc' (enc := sp) (x := ⟨f2, yf⟩) hown' rfl)
                  have hnb4 : Hid ((Value.slice (some ⟨g3, 0, none⟩) (O2.length + 1) cap4).ownBlock ≠ some bx) := by
                    intro e
                    simp only [Value.ownBlock, Option.some.injEq] at e
                    subst e
                    rcases hlies with h | h
                    · exact hnb.out h
                    · omega
                  have HBK4 := hid (((HBK.out.on ((Q.refl _).alloc _)).on ((Q.refl _).alloc _)).grown hgrow hnb.out)
                  have HX4 := hid (((bk_new sp wr ⟨yf, yt⟩ 160).on ((Q.refl _).alloc _)).grown hgrow (fun e => by have := HO2.out.lt _ e; omega))
                  have HQ4 : Hid (Q w w3) := Below.grown ((HQ2.out.alloc _).alloc _) hgrow (by have := HQ2.out.size; simp; omega) (HO2.out.blk)
                  clear hown' hgrow hlies HO2 HQ2 HBK hnb e0 e1 e2 c0 c1
                  have e0 : w3.cell? ⟨bx, 0, none⟩ = some (.int .i64 f2) := HBK4.out.c 0 _ rfl
                  have e2 : w3.frozen? ⟨bx, 0, none⟩ = false := HBK4.out.f 0
                  have e3 : w3.cell? ⟨wr.heap.size, 1, none⟩ = some (.int .i64 yt) := HX4.out.c 1 _ rfl
                  have hbx3 : bx < w3.heap.size := HBK4.out.lt
                  clear HX4
                  go_wp2_with fail
                  go_roundw
                  case rel => exact ⟨j + 1, O2 ++ [Rg.Sp.mk f2 yf], yt, by omega, by go_num, ownsRow_setCell_other HO4.out (a := ⟨bx, 0, none⟩) hnb4.out _, hnb4, Below.setCell HQ4.out (p := ⟨bx, 0, none⟩) hwb _, HBK4.out.set 0 (.int .i64 yt) ⟨yt, st⟩ rfl, by simp; omega, HM2⟩
                  case measure => simp [intOf]; omega
                · have HM2 : Hid (O2 ++ Rg.mi ⟨yt, st⟩ (Bs2.drop (j + 1)) = O ++ Rg.mi ⟨sf, st⟩ Bs2) := by show _ = _; rw [← HM.out, mi_by b1 b2]
                  clear HM
                  go_wp2_with fail
                  go_roundw
                  case rel => exact ⟨j + 1, O2, yt, by omega, by go_num, World.ownsRow.alloc (ownsRow_setCell_other HO2.out (a := ⟨bx, 0, none⟩) hnb.out _) _, hnb, Q.alloc (Below.setCell HQ2.out (p := ⟨bx, 0, none⟩) hwb _) _, (HBK.out.set 0 (.int .i64 yt) ⟨yt, st⟩ rfl).on ((Q.refl _).alloc _), by omega, HM2⟩
                  case measure => simp [intOf]; omega
            · have hjl' : ¬ (j : Int) < (Bs2.length : Int) := by omega
              have HM2 : Hid (O2 ++ fin ⟨f2, st⟩ = O ++ Rg.mi ⟨sf, st⟩ Bs2) := by
                show _ = _
                rw [← HM.out, List.drop_eq_nil_of_le (by omega), mi_end]
              clear HM
              go_wp2_with fail
              go_meet
              exact ⟨O2, f2, HO2.out, HQ2.out, HBK.out, by omega, HM2⟩
        case rest =>
          obtain ⟨O2, f2, hown, hq, hbk, hO2, HM⟩ := hcut
          have HO3 := hid hown
          have HQ3 := hid hq
          have e0 : wc.cell? ⟨bx, 0, none⟩ = some (.int .i64 f2) := hbk.c 0 _ rfl
          have e1 : wc.cell? ⟨bx, 1, none⟩ = some (.int .i64 st) := hbk.c 1 _ rfl
          have hbx : bx < wc.heap.size := hbk.lt
          have HC4 : Hid ((O2 ++ fin ⟨f2, st⟩) ++ Rg.mn (A.drop (n + 1)) Bs2 = T) := by show _ = _; rw [HM.out]; exact HC3.out
          clear hown hq hbk HM HC3
          by_cases hfs : f2 < st
          · have HC5 : Hid ((O2 ++ [⟨f2, st⟩]) ++ Rg.mn (A.drop (n + 1)) Bs2 = T) := by
              have := HC4.out
              unfold fin at this
              rw [if_pos (show (Rg.Sp.mk f2 st).f < (Rg.Sp.mk f2 st).t from hfs)] at this
              exact this
            clear HC4
            go_wp2_with (at_builtin; refine wpList_append_own _ rfl _ _ 161 rfl w.heap.size 160 i0 (.agg #[.int .i64 0, .int .i64 0]) 2 16 Tryz.underlying161 HI.out.1 HI.out.2.1 HI.out.2.2.1 HI.out.2.2.2 rfl (by decide) _ _ _ rfl (HO3.out.alloc _) _ 1 1 [.int .i64 f2, .int .i64 st] rfl rfl (news_at _ [.int .i64 f2, .int .i64 st] 160 _ (by simp)) (sp_one ⟨f2, st⟩) (by unfold maxLen; omega) (by omega) (by have := HQ3.out.size; simp; omega) ?_)
            intro v3 w3 hown' hgrow _
            have HO4 := hid (own_snoc' (enc := sp) (x := ⟨f2, st⟩) hown' rfl)
            have HQ4 : Hid (Q w w3) := Below.grown (HQ3.out.alloc _) hgrow (by have := HQ3.out.size; simp; omega) (HO3.out.blk)
            clear hown' hgrow HO3 HQ3 e0 e1
            go_wp2_with fail
            go_roundw
            case rel => exact ⟨n + 1, _, Bs2, by omega, by go_num, HS2.out, HO4.out, HQ4.out, hbl3, by simp; omega, HC5⟩
            case measure => simp [intOf]; omega
          · have HC5 : Hid (O2 ++ Rg.mn (A.drop (n + 1)) Bs2 = T) := by
              have := HC4.out
              unfold fin at this
              rw [if_neg (show ¬ (Rg.Sp.mk f2 st).f < (Rg.Sp.mk f2 st).t from hfs), List.append_nil] at this
              exact this
            clear HC4
            go_wp2_with fail
            go_roundw
            case rel => exact ⟨n + 1, _, Bs2, by omega, by go_num, HS2.out, HO3.out, HQ3.out, hbl3, by omega, HC5⟩
            case measure => simp [intOf]; omega
    · have hlt' : ¬ (n : Int) < (A.length : Int) := by omega
      have HE : Hid (O = T) := by
        have := HC.out
        rw [List.drop_eq_nil_of_le (by omega)] at this
        rw [Rg.mn, List.append_nil] at this
        exact this
      clear HC
      go_wp2
      go_ret
      exact ⟨_, rfl, own_eq HOW.out HE.out, HQ.out⟩
end Go.Proofs.YtcgddnliiondoaaGreatDoor.R
