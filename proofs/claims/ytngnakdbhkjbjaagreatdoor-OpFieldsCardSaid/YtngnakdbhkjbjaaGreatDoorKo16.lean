/- The columns of a row, of rectangles from the left. -/
import Derived.Test.YtngnakdbhkjbjaaGreatDoorKo06
import Derived.Deep.CutBlock
import Derived.BigRegion
set_option linter.unusedVariables false
set_option linter.unusedSimpArgs false
namespace Go.Proofs.YtngnakdbhkjbjaaGreatDoor.R
open Go.RowKit
/-- the list that is made, and what is still to come -/
def CI (r : Int) (O : List Rg.Sp) (l : List Rg.Rc) (T : List Rg.Sp) : Prop := (O = [] ∧ Rg.col0 r l = T) ∨ ∃ D c, O = D ++ [c] ∧ D ++ Rg.col r c l = T
theorem act_no {a b c d r : Int} (h : r < a ∨ c ≤ r) : Rg.act ⟨a, b, c, d⟩ r = false := by unfold Rg.act; rw [decide_eq_false_iff_not]; simp only; omega
theorem act_yes {a b c d r : Int} (h : ¬ r < a) (h' : ¬ c ≤ r) : Rg.act ⟨a, b, c, d⟩ r = true := by unfold Rg.act; rw [decide_eq_true_eq]; simp only; omega
theorem ci_skip {r : Int} {O : List Rg.Sp} {x : Rg.Rc} {l : List Rg.Rc} {T : List Rg.Sp} (h : CI r O (x :: l) T) (ha : Rg.act x r = false) : CI r O l T := by
  rcases h with ⟨h1, h2⟩ | ⟨D, c, h1, h2⟩
  · rw [Rg.col0, ha] at h2; exact .inl ⟨h1, by simpa using h2⟩
  · rw [Rg.col, ha] at h2; exact .inr ⟨D, c, h1, by simpa using h2⟩
theorem ci_first {r : Int} {x : Rg.Rc} {l : List Rg.Rc} {T : List Rg.Sp} (h : Rg.col0 r (x :: l) = T) (ha : Rg.act x r = true) : CI r [⟨x.b, x.d⟩] l T := by
  rw [Rg.col0, ha] at h
  exact .inr ⟨[], ⟨x.b, x.d⟩, rfl, by simpa using h⟩
theorem ci_on {r : Int} {D : List Rg.Sp} {c : Rg.Sp} {x : Rg.Rc} {l : List Rg.Rc} {T : List Rg.Sp} (h : D ++ Rg.col r c (x :: l) = T) (ha : Rg.act x r = true) (hb : x.b ≤ c.t) : CI r (D ++ [⟨c.f, max c.t x.d⟩]) l T := by
  rw [Rg.col, ha] at h
  simp only [if_true] at h
  rw [if_pos hb] at h
  exact .inr ⟨D, _, rfl, h⟩
theorem ci_new {r : Int} {D : List Rg.Sp} {c : Rg.Sp} {x : Rg.Rc} {l : List Rg.Rc} {T : List Rg.Sp} (h : D ++ Rg.col r c (x :: l) = T) (ha : Rg.act x r = true) (hb : ¬ x.b ≤ c.t) : CI r ((D ++ [c]) ++ [⟨x.b, x.d⟩]) l T := by
  rw [Rg.col, ha] at h
  simp only [if_true] at h
  rw [if_neg hb] at h
  exact .inr ⟨D ++ [c], _, rfl, by simpa using h⟩
theorem ci_end {r : Int} {O T : List Rg.Sp} (h : CI r O [] T) : O = T := by
  rcases h with ⟨h1, h2⟩ | ⟨D, c, h1, h2⟩
  · rw [h1, ← h2]; rfl
  · rw [h1, ← h2]; rfl
theorem set_last (D : List Rg.Sp) (c c' : Rg.Sp) : (D ++ [c]).set D.length c' = D ++ [c'] := by simp
set_option maxRecDepth 100000 in
set_option maxHeartbeats 4000000 in
theorem colsAt_any (v : Value) (L : List Rg.Rc) (row : Int) (w : World) (h : Sl rc 4 w v L) (hL : L.length ≤ 1000000) : Calls Tryz.prog 100 #[v, .int .i64 row] w fun e w' => ∃ v', e = .returned v' ∧ Own sp 107 2 w.heap.size w' v' (Rg.col0 row L) ∧ Q w w' := by
  obtain ⟨i0, HI⟩ := inf_of info40
  have HI := hid HI
  have HS := hid h
  obtain ⟨ao, cap, rfl, h1, h2⟩ := h.len
  clear h
  generalize hT : Rg.col0 row L = T
  have HT := hid hT
  clear hT
  go_enter Tryz.func100, Tryz.ntmps100
  go_wp2
  go_loopw [5, 11] (fun o s W => ∃ (n : Nat) (O : List Rg.Sp), n ≤ L.length ∧ s = .int .i64 n ∧ Own sp 107 2 w.heap.size W o O ∧ Q w W ∧ O.length ≤ n ∧ Hid (CI row O (L.drop n) T)) (fun _ s _ => L.length - (intOf s).toNat)
  case atStart => exact ⟨0, [], Nat.zero_le _, rfl, own_nil _, Q.refl _, Nat.le_refl _, .inl ⟨rfl, by rw [List.drop_zero]; exact HT.out⟩⟩
  case round =>
    obtain ⟨n, O, hn, rfl, hown, hq, hO, HC⟩ := hrel
    have HOW := hid hown
    have HQ := hid hq
    clear hown hq
    by_cases hlt : n < L.length
    · have hlt' : (n : Int) < (L.length : Int) := by omega
      obtain ⟨g, off, cap', e, _, _, hc⟩ := (HS.out.on HQ.out).at hlt
      cases e
      rw [List.drop_eq_getElem_cons hlt] at HC
      generalize L[n] = x at *
      obtain ⟨xa, xb, xc, xd⟩ := x
      have c0 : wr.cell? ⟨g, off + n * 4, none⟩ = some (.int .i64 xa) := hc 0 _ rfl
      have c1 : wr.cell? ⟨g, off + n * 4 + 1, none⟩ = some (.int .i64 xb) := hc 1 _ rfl
      have c2 : wr.cell? ⟨g, off + n * 4 + 2, none⟩ = some (.int .i64 xc) := hc 2 _ rfl
      have c3 : wr.cell? ⟨g, off + n * 4 + 3, none⟩ = some (.int .i64 xd) := hc 3 _ rfl
      clear hc
      by_cases a1 : row < xa
      · have HC2 := hid (ci_skip HC.out (act_no (.inl a1)))
        clear HC
        go_wp2
        go_roundw
        case rel => exact ⟨n + 1, O, by omega, by go_num, HOW.out.alloc _, HQ.out.alloc _, by omega, HC2⟩
        case measure => simp [intOf]; omega
      · by_cases a2 : xc ≤ row
        · have HC2 := hid (ci_skip HC.out (act_no (.inr a2)))
          clear HC
          go_wp2
          go_roundw
          case rel => exact ⟨n + 1, O, by omega, by go_num, HOW.out.alloc _, HQ.out.alloc _, by omega, HC2⟩
          case measure => simp [intOf]; omega
        · have HA := hid (act_yes (b := xb) (d := xd) a1 a2)
          rcases HC.out with ⟨rfl, hT⟩ | ⟨D, c, rfl, hT⟩
          · have HC2 := hid (ci_first hT HA.out)
            clear HC HA hT
            obtain ⟨ao2, cap2, rfl, _, _⟩ := (HOW.out.sl sp_len (by decide)).len
            go_upto_region 7 with fail
            go_quiet (fail)
            rename_i nq
            have B0 := hid ((bx_new rc wr ⟨xa, xb, xc, xd⟩ 49).on ((Q.refl _).drewN nq))
            have HO2 := hid ((HOW.out.alloc (.cells (rc ⟨xa, xb, xc, xd⟩).toArray 49)).on ((Q.refl _).drewN nq))
            have HQ2 := hid ((HQ.out.alloc (.cells (rc ⟨xa, xb, xc, xd⟩).toArray 49)).drewN nq)
            have hbx : wr.heap.size < ((wr.alloc (.cells (rc ⟨xa, xb, xc, xd⟩).toArray 49)).drewN nq).heap.size := by simp
            clear HOW HQ c0 c1 c2 c3
            simp only [rc] at B0 HO2 HQ2 hbx
            generalize (wr.alloc (.cells [Value.int .i64 xa, .int .i64 xb, .int .i64 xc, .int .i64 xd].toArray 49)).drewN nq = W2 at *
            have e0 : W2.cell? ⟨wr.heap.size, 1, none⟩ = some (.int .i64 xb) := B0.out 1 _ rfl
            have e1 : W2.cell? ⟨wr.heap.size, 3, none⟩ = some (.int .i64 xd) := B0.out 3 _ rfl
            clear B0
            generalize wr.heap.size = bx at *
            go_wp2_with (at_builtin; refine wpList_append_own _ rfl _ _ 108 rfl w.heap.size 107 i0 (.agg #[.int .i64 0, .int .i64 0]) 2 16 Tryz.underlying108 HI.out.1 HI.out.2.1 HI.out.2.2.1 HI.out.2.2.2 rfl (by decide) _ _ _ rfl (HO2.out.alloc _) _ 1 1 [.int .i64 xb, .int .i64 xd] rfl rfl (news_at _ [.int .i64 xb, .int .i64 xd] 107 _ (by simp)) (sp_one ⟨xb, xd⟩) (by unfold maxLen; simp only [List.length_append, List.length_nil, List.length_cons]; omega) (by simp only [List.length_append, List.length_nil, List.length_cons]; omega) (by have := HQ2.out.size; simp; omega) ?_)
            · intro v' w3 hown' hgrow _
              have HO4 := hid (own_snoc' (enc := sp) (x := ⟨xb, xd⟩) hown' (by simp))
              have HQ4 : Hid (Q w w3) := Below.grown (HQ2.out.alloc _) hgrow (by have := HQ2.out.size; simp; omega) (HO2.out.blk)
              clear hown' hgrow HO2 HQ2 e0 e1
              go_wp2
              go_roundw
              case rel => exact ⟨n + 1, _, by omega, by go_num, HO4.out, HQ4.out, (by simp <;> omega), HC2⟩
              case measure => simp [intOf]; omega
          · obtain ⟨g2, cap2, hv, hg1, hg2, hg3, hg4⟩ := HOW.out.shape (by simp)
            have hl2 : (D ++ [c]).length = D.length + 1 := by simp
            have HOW1 := HOW.out
            rw [hv] at HOW1
            have HOW1 := hid HOW1
            rw [hl2] at hv hg3 hO
            subst hv
            have HCC := hid (HOW1.out.cell sp_len (i := D.length) (by simp))
            simp only [List.getElem_concat_length] at HCC
            obtain ⟨cf, ct⟩ := c
            have d0 : wr.cell? ⟨g2, D.length * 2, none⟩ = some (.int .i64 cf) := HCC.out 0 _ rfl
            have d1 : wr.cell? ⟨g2, D.length * 2 + 1, none⟩ = some (.int .i64 ct) := HCC.out 1 _ rfl
            have hcap2 : D.length + 1 ≤ 9223372036854775807 := by omega
            by_cases hb : xb ≤ ct
            · have HC2 := hid (ci_on hT HA.out hb)
              clear HC HA hT HCC
              go_upto_region 7 with fail
              have hbd : decide (xb ≤ ct) = true := decide_eq_true hb
              go_quiet (fail)
              rename_i nq
              have B0 := hid ((bx_new rc wr ⟨xa, xb, xc, xd⟩ 49).on ((Q.refl _).drewN nq))
              have HO2 := hid ((HOW.out.alloc (.cells (rc ⟨xa, xb, xc, xd⟩).toArray 49)).on ((Q.refl _).drewN nq))
              have HQ2 := hid ((HQ.out.alloc (.cells (rc ⟨xa, xb, xc, xd⟩).toArray 49)).drewN nq)
              have hbx : wr.heap.size < ((wr.alloc (.cells (rc ⟨xa, xb, xc, xd⟩).toArray 49)).drewN nq).heap.size := by simp
              have HO3 := hid ((HOW1.out.alloc (.cells (rc ⟨xa, xb, xc, xd⟩).toArray 49)).on ((Q.refl _).drewN nq))
              clear HOW HOW1 HQ c0 c1 c2 c3 d0 d1
              simp only [rc] at B0 HO3 HO2 HQ2 hbx
              generalize (wr.alloc (.cells [Value.int .i64 xa, .int .i64 xb, .int .i64 xc, .int .i64 xd].toArray 49)).drewN nq = W2 at *
              have e0 : W2.cell? ⟨wr.heap.size, 1, none⟩ = some (.int .i64 xb) := B0.out 1 _ rfl
              have e1 : W2.cell? ⟨wr.heap.size, 3, none⟩ = some (.int .i64 xd) := B0.out 3 _ rfl
              clear B0
              generalize wr.heap.size = bx at *
              have f0 : W2.cell? ⟨g2, D.length * 2 + 1, none⟩ = some (.int .i64 ct) := by
                have := HO3.out.cell sp_len (i := D.length) (by simp)
                simp only [List.getElem_concat_length] at this
                exact this 1 _ rfl
              have f1 : W2.frozen? ⟨g2, D.length * 2 + 1, none⟩ = false := World.ownsRow.frozenAt HO3.out _
              rw [max_if] at HC2
              have HO5 := hid (HO3.out.set sp_len (i := D.length) (by simp) 1 (by decide) (.int .i64 (if ct < xd then xd else ct)) ⟨cf, if ct < xd then xd else ct⟩ (by simp [sp]))
              rw [set_last] at HO5
              have HQ5 : Hid (Q w (W2.setCell ⟨g2, D.length * 2 + 1, none⟩ (.int .i64 (if ct < xd then xd else ct)))) := Below.setCell HQ2.out hg1 _
              go_wp2_with fail
              rw [hl2] at HO5
              go_region
              go_wp2
              go_roundw
              case rel => exact ⟨n + 1, _, by omega, by go_num, HO5.out.on ((Q.refl _).drew), HQ5.out.drew, (by simp <;> omega), HC2⟩
              case measure => simp [intOf]; omega
            · have HC2 := hid (ci_new hT HA.out hb)
              clear HC HA hT HCC
              go_upto_region 7 with fail
              have hbd : decide (xb ≤ ct) = false := decide_eq_false hb
              go_quiet (fail)
              rename_i nq
              have B0 := hid ((bx_new rc wr ⟨xa, xb, xc, xd⟩ 49).on ((Q.refl _).drewN nq))
              have HO2 := hid ((HOW.out.alloc (.cells (rc ⟨xa, xb, xc, xd⟩).toArray 49)).on ((Q.refl _).drewN nq))
              have HQ2 := hid ((HQ.out.alloc (.cells (rc ⟨xa, xb, xc, xd⟩).toArray 49)).drewN nq)
              have hbx : wr.heap.size < ((wr.alloc (.cells (rc ⟨xa, xb, xc, xd⟩).toArray 49)).drewN nq).heap.size := by simp
              clear HOW HQ HOW1 c0 c1 c2 c3 d0 d1
              simp only [rc] at B0 HO2 HQ2 hbx
              generalize (wr.alloc (.cells [Value.int .i64 xa, .int .i64 xb, .int .i64 xc, .int .i64 xd].toArray 49)).drewN nq = W2 at *
              have e0 : W2.cell? ⟨wr.heap.size, 1, none⟩ = some (.int .i64 xb) := B0.out 1 _ rfl
              have e1 : W2.cell? ⟨wr.heap.size, 3, none⟩ = some (.int .i64 xd) := B0.out 3 _ rfl
              clear B0
              generalize wr.heap.size = bx at *
              go_wp2_with (at_builtin; refine wpList_append_own _ rfl _ _ 108 rfl w.heap.size 107 i0 (.agg #[.int .i64 0, .int .i64 0]) 2 16 Tryz.underlying108 HI.out.1 HI.out.2.1 HI.out.2.2.1 HI.out.2.2.2 rfl (by decide) _ _ _ rfl (HO2.out.alloc _) _ 1 1 [.int .i64 xb, .int .i64 xd] rfl rfl (news_at _ [.int .i64 xb, .int .i64 xd] 107 _ (by simp)) (sp_one ⟨xb, xd⟩) (by unfold maxLen; simp only [List.length_append, List.length_nil, List.length_cons]; omega) (by simp only [List.length_append, List.length_nil, List.length_cons]; omega) (by have := HQ2.out.size; simp; omega) ?_)
              · intro v' w3 hown' hgrow _
                have HO4 := hid (own_snoc' (enc := sp) (x := ⟨xb, xd⟩) hown' (by simp))
                have HQ4 : Hid (Q w w3) := Below.grown (HQ2.out.alloc _) hgrow (by have := HQ2.out.size; simp; omega) (HO2.out.blk)
                clear hown' hgrow HO2 HQ2 e0 e1
                go_wp2
                go_roundw
                case rel => exact ⟨n + 1, _, by omega, by go_num, HO4.out, HQ4.out, (by simp <;> omega), HC2⟩
                case measure => simp [intOf]; omega
    · have hlt' : ¬ (n : Int) < (L.length : Int) := by omega
      have HE : Hid (O = T) := by
        have := HC.out
        rw [List.drop_eq_nil_of_le (by omega)] at this
        exact ci_end this
      clear HC
      go_wp2
      go_ret
      exact ⟨_, rfl, own_eq HOW.out HE.out, HQ.out⟩
end Go.Proofs.YtngnakdbhkjbjaaGreatDoor.R
