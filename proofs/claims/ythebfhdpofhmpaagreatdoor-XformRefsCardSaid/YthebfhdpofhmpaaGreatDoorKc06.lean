/- Where lines and gaps go: what the walks want of it; Package . -/
import Derived.Test.YthebfhdpofhmpaaGreatDoorKc02
import Derived.Deep.CutBlock
import Derived.Deep.RegionHeld3
set_option linter.unusedVariables false
set_option linter.unusedSimpArgs false
set_option maxRecDepth 100000
set_option maxHeartbeats 8000000
namespace Go.Proofs.YthebfhdpofhmpaaGreatDoor.L
open Go.RowKit
theorem ix_no {k a t i : Int} (h : mayB k a t = false) : -1 = ix k a t i := by unfold ix; rw [h, if_neg (by simp)]
theorem ix_far {k a t i : Int} (h : plB i = false) : -1 = ix k a t i := by unfold ix; rw [h, if_neg (by simp)]
theorem ix_yes {k a t i : Int} (h : mayB k a t = true) (g : plB i = true) : ix k a t i = Ax.idx k a t i := by unfold ix; rw [if_pos ⟨h, g⟩]
theorem pl_bd {i : Int} (h : plB i = true) : 0 ≤ i ∧ i ≤ 1152921504606846976 := by unfold plB at h; simpa using h
theorem may_bd {k a t : Int} (h : mayB k a t = true) : (0 ≤ a ∧ a < 2199023255552) ∧ (0 ≤ t ∧ t < 2199023255552) ∧ Ax.okB k a t = true := by unfold mayB at h; exact of_decide_eq_true h
theorem may_k {k a t : Int} (h : mayB k a t = true) : k = 1 ∨ k = 2 ∨ k = 3 := by
  have := (Ax.okB_iff k a t).1 (may_bd h).2.2
  unfold Ax.ok at this
  omega
theorem lf_bd {n a : Int} (h : 0 ≤ n) (ha : 0 ≤ a) : 0 ≤ Ax.lf n a ∧ Ax.lf n a ≤ n := by unfold Ax.lf; split <;> omega
theorem idx1 (a t i : Int) : og i a true = Ax.idx 1 a t i := by unfold og Ax.idx; simp; split <;> split <;> omega
theorem idx2 {a t i : Int} (h : i ≠ a) : Ax.lf i a = Ax.idx 2 a t i := by unfold Ax.idx; simp [h]
theorem idx2e {a t : Int} : -1 = Ax.idx 2 a t a := by unfold Ax.idx; simp
theorem idx3e {a t : Int} : Ax.lf t a = Ax.idx 3 a t a := by unfold Ax.idx; simp
theorem idx3 {a t i : Int} (h : i ≠ a) : og (Ax.lf i a) (Ax.lf t a) true = Ax.idx 3 a t i := by unfold Ax.idx og; simp [h]; split <;> split <;> omega
set_option maxHeartbeats 2000000 in
theorem index_any (k a t i : Int) (w : World) : Calls Tryz.prog 56 #[.agg #[.int .i64 k, .int .i64 a, .int .i64 t], .int .i64 i] w fun e w' => e = .returned (.int .i64 (ix k a t i)) ∧ Q w w' := by
  cases hm : mayB k a t
  · have H := hid (ix_no (i := i) hm)
    go_enter Tryz.func56, Tryz.ntmps56
    go_wp2_with (go_at_call 30; refine (may_any _ _ _ _).mono ?_; rintro e w1 ⟨rfl, rfl⟩)
    go_ret
    exact ⟨ret_int H.out, ((Q.refl _).alloc _).alloc _⟩
  · cases hp : plB i
    · have H := hid (ix_far (k := k) (a := a) (t := t) hp)
      go_enter Tryz.func56, Tryz.ntmps56
      go_wp2_with (first | (go_at_call 30; refine (may_any _ _ _ _).mono ?_; rintro e w1 ⟨rfl, rfl⟩) | (go_at_call 79; refine (mayPlace_any _ _).mono ?_; rintro e w1 ⟨rfl, rfl⟩))
      go_ret
      exact ⟨ret_int H.out, ((Q.refl _).alloc _).alloc _⟩
    · have HY := hid (ix_yes hm hp)
      obtain ⟨p0, p1⟩ := pl_bd hp
      obtain ⟨⟨a0, a1⟩, ⟨t0, t1⟩, -⟩ := may_bd hm
      rcases may_k hm with rfl | rfl | rfl
      · have H := hid ((idx1 a t i).trans HY.out.symm)
        go_enter Tryz.func56, Tryz.ntmps56
        go_wp2_with (first | (go_at_call 30; refine (may_any _ _ _ _).mono ?_; rintro e w1 ⟨rfl, rfl⟩) | (go_at_call 79; refine (mayPlace_any _ _).mono ?_; rintro e w1 ⟨rfl, rfl⟩) | (go_at_call 80; refine (opened_any _ _ _ (by omega) (by omega)).mono ?_; rintro e w1 ⟨rfl, rfl⟩))
        go_ret
        exact ⟨ret_int H.out, ((Q.refl _).alloc _).alloc _⟩
      · by_cases hi : i = a
        · subst hi
          have H := hid ((idx2e (a := i) (t := t)).trans HY.out.symm)
          go_enter Tryz.func56, Tryz.ntmps56
          go_wp2_with (first | (go_at_call 30; refine (may_any _ _ _ _).mono ?_; rintro e w1 ⟨rfl, rfl⟩) | (go_at_call 79; refine (mayPlace_any _ _).mono ?_; rintro e w1 ⟨rfl, rfl⟩))
          go_ret
          exact ⟨ret_int H.out, ((Q.refl _).alloc _).alloc _⟩
        · have hi' : (i == a) = false := by simpa using hi
          have H := hid ((idx2 (t := t) hi).trans HY.out.symm)
          clear hi
          go_enter Tryz.func56, Tryz.ntmps56
          go_wp2_with (first | (go_at_call 30; refine (may_any _ _ _ _).mono ?_; rintro e w1 ⟨rfl, rfl⟩) | (go_at_call 79; refine (mayPlace_any _ _).mono ?_; rintro e w1 ⟨rfl, rfl⟩) | (go_at_call 81; refine (closed_any _ _ _ (by omega) (by omega)).mono ?_; rintro e w1 ⟨rfl, rfl⟩))
          go_ret
          exact ⟨ret_int H.out, ((Q.refl _).alloc _).alloc _⟩
      · by_cases hi : i = a
        · subst hi
          have H := hid ((idx3e (a := i) (t := t)).trans HY.out.symm)
          go_enter Tryz.func56, Tryz.ntmps56
          go_wp2_with (first | (go_at_call 30; refine (may_any _ _ _ _).mono ?_; rintro e w1 ⟨rfl, rfl⟩) | (go_at_call 79; refine (mayPlace_any _ _).mono ?_; rintro e w1 ⟨rfl, rfl⟩) | (go_at_call 82; refine (landing_any _ _ _ _ (by omega) (by omega)).mono ?_; rintro e w1 ⟨rfl, rfl⟩))
          go_ret
          exact ⟨ret_int H.out, (((Q.refl _).alloc _).alloc _).alloc _⟩
        · have hi' : (i == a) = false := by simpa using hi
          have H := hid ((idx3 (t := t) hi).trans HY.out.symm)
          have b1 := lf_bd p0 a0
          clear hi
          go_enter Tryz.func56, Tryz.ntmps56
          go_wp2_with (first | (go_at_call 30; refine (may_any _ _ _ _).mono ?_; rintro e w1 ⟨rfl, rfl⟩) | (go_at_call 79; refine (mayPlace_any _ _).mono ?_; rintro e w1 ⟨rfl, rfl⟩))
          go_region_with (first | (go_at_call 81; refine (closed_any _ _ _ (by omega) (by omega)).mono ?_; rintro e w1 ⟨rfl, rfl⟩) | (go_at_call 82; refine (landing_any _ _ _ _ (by omega) (by omega)).mono ?_; rintro e w1 ⟨rfl, rfl⟩) | (go_at_call 80; refine (opened_any _ _ _ (by omega) (by omega)).mono ?_; rintro e w1 ⟨rfl, rfl⟩))
          all_goals go_wp2
          all_goals go_ret
          all_goals exact ⟨ret_int H.out, by first | exact ((((Q.refl _).alloc _).alloc _).drew).alloc _ | exact ((((Q.refl _).alloc _).alloc _).drewN _).alloc _⟩
set_option maxHeartbeats 1000000 in
theorem rmay_in (k a t : Int) (w : World) (hA : mnB a = true) (hT : mnB t = true) : Calls Tryz.prog 7 #[.agg #[.int .i64 k, .int .i64 a, .int .i64 t]] w fun e w' => e = .returned (.bool (mayB k a t)) ∧ w' = w.alloc (.cells #[.int .i64 k, .int .i64 a, .int .i64 t] 28) := by
  have H := hid (mayB_of (k := k) hA hT)
  have hb : 0 ≤ a ∧ a < 2199023255552 := by unfold mnB at hA; simpa using hA
  have hb' : 0 ≤ t ∧ t < 2199023255552 := by unfold mnB at hT; simpa using hT
  obtain ⟨hb0, hb1⟩ := hb
  obtain ⟨hb2, hb3⟩ := hb'
  clear hA hT
  by_cases h1 : k = 1
  · have HR : Hid ((t == 0) = mayB k a t) := by show _ = _; rw [H.out]; unfold Ax.okB; rw [if_pos h1]; rw [Bool.eq_iff_iff]; simp
    have h1' : (k == 1) = true := by simpa using h1
    clear h1
    go_enter Tryz.func7, Tryz.ntmps7
    go_wp2
    all_goals go_ret
    all_goals exact ⟨ret_bool HR.out, rfl⟩
  · have h1' : (k == 1) = false := by simpa using h1
    by_cases h2 : k = 2
    · have HR : Hid ((t == 0) = mayB k a t) := by show _ = _; rw [H.out]; unfold Ax.okB; rw [if_neg h1, if_pos h2]; rw [Bool.eq_iff_iff]; simp
      have h2' : (k == 2) = true := by simpa using h2
      clear h1 h2
      go_enter Tryz.func7, Tryz.ntmps7
      go_wp2
      all_goals go_ret
      all_goals exact ⟨ret_bool HR.out, rfl⟩
    · have h2' : (k == 2) = false := by simpa using h2
      by_cases h3 : k = 3
      · have h3' : (k == 3) = true := by simpa using h3
        have HE : Hid (mayB k a t = decide (t ≠ a ∧ t ≠ a + 1)) := by show _ = _; rw [H.out]; unfold Ax.okB; rw [if_neg h1, if_neg h2, if_pos h3]
        by_cases h4 : t = a
        · have HR : Hid (false = mayB k a t) := by show _ = _; rw [HE.out]; simp [h4]
          have h4' : (t != a) = false := by simpa using h4
          clear h1 h2 h3 h4
          go_enter Tryz.func7, Tryz.ntmps7
          go_wp2
          all_goals go_ret
          all_goals exact ⟨ret_bool HR.out, rfl⟩
        · have h4' : (t != a) = true := by simpa using h4
          by_cases h5 : t = a + 1
          · have HR : Hid (false = mayB k a t) := by show _ = _; rw [HE.out]; simp [h5]
            have h5' : (t != a + 1) = false := by simpa using h5
            clear h1 h2 h3 h4 h5
            go_enter Tryz.func7, Tryz.ntmps7
            go_wp2
            all_goals go_ret
            all_goals exact ⟨ret_bool HR.out, rfl⟩
          · have HR : Hid (true = mayB k a t) := by show _ = _; rw [HE.out]; simp [h4, h5]
            have h5' : (t != a + 1) = true := by simpa using h5
            clear h1 h2 h3 h4 h5
            go_enter Tryz.func7, Tryz.ntmps7
            go_wp2
            all_goals go_ret
            all_goals exact ⟨ret_bool HR.out, rfl⟩
      · have h3' : (k == 3) = false := by simpa using h3
        have HR : Hid (false = mayB k a t) := by show _ = _; rw [H.out]; unfold Ax.okB; rw [if_neg h1, if_neg h2, if_neg h3]
        clear h1 h2 h3
        go_enter Tryz.func7, Tryz.ntmps7
        go_wp2
        all_goals go_ret
        all_goals exact ⟨ret_bool HR.out, rfl⟩
set_option maxHeartbeats 1000000 in
theorem rmay_any (k a t : Int) (w : World) : Calls Tryz.prog 7 #[.agg #[.int .i64 k, .int .i64 a, .int .i64 t]] w fun e w' => e = .returned (.bool (mayB k a t)) ∧ w' = w.alloc (.cells #[.int .i64 k, .int .i64 a, .int .i64 t] 28) := by
  cases hA : mnB a
  · have H := hid (mayB_noA (k := k) (t := t) hA)
    have hb : a < 0 ∨ 0 ≤ a ∧ 2199023255552 ≤ a := by unfold mnB at hA; simp at hA; omega
    clear hA
    rcases hb with h | ⟨h0, h⟩
    all_goals
      go_enter Tryz.func7, Tryz.ntmps7
      go_wp2
      go_ret
      exact ⟨ret_bool H.out, rfl⟩
  · cases hT : mnB t
    · have H := hid (mayB_noT (k := k) (a := a) hT)
      have ha : 0 ≤ a ∧ a < 2199023255552 := by unfold mnB at hA; simpa using hA
      obtain ⟨ha0, ha1⟩ := ha
      have hb : t < 0 ∨ 0 ≤ t ∧ 2199023255552 ≤ t := by unfold mnB at hT; simp at hT; omega
      clear hA hT
      rcases hb with h | ⟨h0, h⟩
      all_goals
        go_enter Tryz.func7, Tryz.ntmps7
        go_wp2
        go_ret
        exact ⟨ret_bool H.out, rfl⟩
    · exact rmay_in k a t w hA hT
set_option maxHeartbeats 400000 in
theorem out_any (n : Int) (w : World) : Calls Tryz.prog 12 #[.int .i64 n] w fun e w' => e = .returned (.bool (!plB n)) ∧ w' = w := by
  by_cases h0 : 0 ≤ n
  · by_cases h1 : n ≤ 1152921504606846976
    · have H : Hid ((decide (n < 0) || decide (1152921504606846976 < n)) = !plB n) := by
        show _ = _
        rw [Bool.eq_iff_iff]
        simp [plB]
      go_enter Tryz.func12, Tryz.ntmps12
      go_wp2
      go_ret
      exact ⟨ret_bool H.out, rfl⟩
    · have H : Hid (true = !plB n) := by show _ = _; simp [plB, h0, h1]
      go_enter Tryz.func12, Tryz.ntmps12
      go_wp2
      go_ret
      exact ⟨ret_bool H.out, rfl⟩
  · have H : Hid (true = !plB n) := by show _ = _; simp [plB, h0]
    go_enter Tryz.func12, Tryz.ntmps12
    go_wp2
    go_ret
    exact ⟨ret_bool H.out, rfl⟩
set_option maxHeartbeats 400000 in
theorem left_any (n a : Int) (w : World) (ha : 0 ≤ a) (hn : n ≤ 4611686018427387904) : Calls Tryz.prog 13 #[.int .i64 n, .int .i64 a] w fun e w' => e = .returned (.int .i64 (Ax.lf n a)) ∧ w' = w := by
  by_cases h : a < n
  · have H : Hid (n - 1 = Ax.lf n a) := by show _ = _; simp [Ax.lf, h]
    go_enter Tryz.func13, Tryz.ntmps13
    go_wp2
    go_ret
    exact ⟨ret_int H.out, rfl⟩
  · have H : Hid (n = Ax.lf n a) := by show _ = _; simp [Ax.lf, h]
    go_enter Tryz.func13, Tryz.ntmps13
    go_wp2
    go_ret
    exact ⟨ret_int H.out, rfl⟩
set_option maxHeartbeats 2000000 in
theorem rindex_any (k a t i : Int) (w : World) : Calls Tryz.prog 8 #[.agg #[.int .i64 k, .int .i64 a, .int .i64 t], .int .i64 i] w fun e w' => e = .returned (.int .i64 (ix k a t i)) ∧ Q w w' := by
  cases hm : mayB k a t
  · have H := hid (ix_no (i := i) hm)
    go_enter Tryz.func8, Tryz.ntmps8
    go_wp2_with (first | (go_at_call 7; refine (rmay_any _ _ _ _).mono ?_; rintro e w1 ⟨rfl, rfl⟩))
    go_ret
    exact ⟨ret_int H.out, ((Q.refl _).alloc _).alloc _⟩
  · cases hp : plB i
    · have H := hid (ix_far (k := k) (a := a) (t := t) hp)
      go_enter Tryz.func8, Tryz.ntmps8
      go_wp2_with (first | (go_at_call 7; refine (rmay_any _ _ _ _).mono ?_; rintro e w1 ⟨rfl, rfl⟩) | (go_at_call 12; refine (out_any _ _).mono ?_; rintro e w1 ⟨rfl, rfl⟩))
      go_ret
      exact ⟨ret_int H.out, ((Q.refl _).alloc _).alloc _⟩
    · have HY := hid (ix_yes hm hp)
      obtain ⟨p0, p1⟩ := pl_bd hp
      obtain ⟨⟨a0, a1⟩, ⟨t0, t1⟩, -⟩ := may_bd hm
      rcases may_k hm with rfl | rfl | rfl
      · by_cases hi : a ≤ i
        · have H : Hid (i + 1 = ix 1 a t i) := by show _ = _; rw [HY.out]; unfold Ax.idx; simp [hi]
          go_enter Tryz.func8, Tryz.ntmps8
          go_wp2_with (first | (go_at_call 7; refine (rmay_any _ _ _ _).mono ?_; rintro e w1 ⟨rfl, rfl⟩) | (go_at_call 12; refine (out_any _ _).mono ?_; rintro e w1 ⟨rfl, rfl⟩))
          go_ret
          exact ⟨ret_int H.out, ((Q.refl _).alloc _).alloc _⟩
        · have H : Hid (i = ix 1 a t i) := by show _ = _; rw [HY.out]; unfold Ax.idx; simp [hi]
          go_enter Tryz.func8, Tryz.ntmps8
          go_wp2_with (first | (go_at_call 7; refine (rmay_any _ _ _ _).mono ?_; rintro e w1 ⟨rfl, rfl⟩) | (go_at_call 12; refine (out_any _ _).mono ?_; rintro e w1 ⟨rfl, rfl⟩))
          go_ret
          exact ⟨ret_int H.out, ((Q.refl _).alloc _).alloc _⟩
      · by_cases hi : i = a
        · subst hi
          have H := hid ((idx2e (a := i) (t := t)).trans HY.out.symm)
          go_enter Tryz.func8, Tryz.ntmps8
          go_wp2_with (first | (go_at_call 7; refine (rmay_any _ _ _ _).mono ?_; rintro e w1 ⟨rfl, rfl⟩) | (go_at_call 12; refine (out_any _ _).mono ?_; rintro e w1 ⟨rfl, rfl⟩))
          go_ret
          exact ⟨ret_int H.out, ((Q.refl _).alloc _).alloc _⟩
        · have hi' : (i == a) = false := by simpa using hi
          have H := hid ((idx2 (t := t) hi).trans HY.out.symm)
          clear hi
          go_enter Tryz.func8, Tryz.ntmps8
          go_wp2_with (first | (go_at_call 7; refine (rmay_any _ _ _ _).mono ?_; rintro e w1 ⟨rfl, rfl⟩) | (go_at_call 12; refine (out_any _ _).mono ?_; rintro e w1 ⟨rfl, rfl⟩) | (go_at_call 13; refine (left_any _ _ _ (by omega) (by omega)).mono ?_; rintro e w1 ⟨rfl, rfl⟩))
          go_ret
          exact ⟨ret_int H.out, ((Q.refl _).alloc _).alloc _⟩
      · by_cases hi : i = a
        · subst hi
          have H := hid ((idx3e (a := i) (t := t)).trans HY.out.symm)
          go_enter Tryz.func8, Tryz.ntmps8
          go_wp2_with (first | (go_at_call 7; refine (rmay_any _ _ _ _).mono ?_; rintro e w1 ⟨rfl, rfl⟩) | (go_at_call 12; refine (out_any _ _).mono ?_; rintro e w1 ⟨rfl, rfl⟩) | (go_at_call 13; refine (left_any _ _ _ (by omega) (by omega)).mono ?_; rintro e w1 ⟨rfl, rfl⟩))
          go_ret
          exact ⟨ret_int H.out, ((Q.refl _).alloc _).alloc _⟩
        · have hi' : (i == a) = false := by simpa using hi
          have b1 := lf_bd p0 a0
          by_cases hl : Ax.lf t a ≤ Ax.lf i a
          · have H : Hid (Ax.lf i a + 1 = ix 3 a t i) := by show _ = _; rw [HY.out]; unfold Ax.idx; simp [hi, hl]
            clear hi
            go_enter Tryz.func8, Tryz.ntmps8
            go_wp2_with (first | (go_at_call 7; refine (rmay_any _ _ _ _).mono ?_; rintro e w1 ⟨rfl, rfl⟩) | (go_at_call 12; refine (out_any _ _).mono ?_; rintro e w1 ⟨rfl, rfl⟩) | (go_at_call 13; refine (left_any _ _ _ (by omega) (by omega)).mono ?_; rintro e w1 ⟨rfl, rfl⟩))
            go_ret
            exact ⟨ret_int H.out, ((Q.refl _).alloc _).alloc _⟩
          · have H : Hid (Ax.lf i a = ix 3 a t i) := by show _ = _; rw [HY.out]; unfold Ax.idx; simp [hi, hl]
            clear hi
            go_enter Tryz.func8, Tryz.ntmps8
            go_wp2_with (first | (go_at_call 7; refine (rmay_any _ _ _ _).mono ?_; rintro e w1 ⟨rfl, rfl⟩) | (go_at_call 12; refine (out_any _ _).mono ?_; rintro e w1 ⟨rfl, rfl⟩) | (go_at_call 13; refine (left_any _ _ _ (by omega) (by omega)).mono ?_; rintro e w1 ⟨rfl, rfl⟩))
            go_ret
            exact ⟨ret_int H.out, ((Q.refl _).alloc _).alloc _⟩
end Go.Proofs.YthebfhdpofhmpaaGreatDoor.L
