/- Where lines and gaps go: what the walks want of it; Package . -/
import Derived.Test.YthebfhdpofhmpaaGreatDoorKa02
import Derived.Deep.CutBlock
import Derived.Deep.RegionHeld3
set_option linter.unusedVariables false
set_option linter.unusedSimpArgs false
set_option maxRecDepth 100000
set_option maxHeartbeats 8000000
namespace Go.Proofs.YthebfhdpofhmpaaGreatDoor.L
open Go.RowKit
theorem ix_no {k a t i : Int} (h : mayB k a t = false) : -1 = ix k a t i := by unfold ix; rw [h, if_neg (by simp)]
theorem ix_far {k a t i : Int} (h : plB i = false) : -1 = ix k a t i := by unfold ix; rw [h, if_neg (by simp)]
theorem ix_yes {k a t i : Int} (h : mayB k a t = true) (g : plB i = true) : ix k a t i = Ax.idx k a t i := by unfold ix; rw [if_pos ⟨h, g⟩]
theorem pl_bd {i : Int} (h : plB i = true) : 0 ≤ i ∧ i ≤ 1152921504606846976 := by unfold plB at h; simpa using h
theorem may_bd {k a t : Int} (h : mayB k a t = true) : (0 ≤ a ∧ a < 2199023255552) ∧ (0 ≤ t ∧ t < 2199023255552) ∧ Ax.okB k a t = true := by unfold mayB at h; exact of_decide_eq_true h
theorem may_k {k a t : Int} (h : mayB k a t = true) : k = 1 ∨ k = 2 ∨ k = 3 := by
  have := (Ax.okB_iff k a t).1 (may_bd h).2.2
  unfold Ax.ok at this
  omega
theorem lf_bd {n a : Int} (h : 0 ≤ n) (ha : 0 ≤ a) : 0 ≤ Ax.lf n a ∧ Ax.lf n a ≤ n := by unfold Ax.lf; split <;> omega
theorem idx1 (a t i : Int) : og i a true = Ax.idx 1 a t i := by unfold og Ax.idx; simp; split <;> split <;> omega
theorem idx2 {a t i : Int} (h : i ≠ a) : Ax.lf i a = Ax.idx 2 a t i := by unfold Ax.idx; simp [h]
theorem idx2e {a t : Int} : -1 = Ax.idx 2 a t a := by unfold Ax.idx; simp
theorem idx3e {a t : Int} : Ax.lf t a = Ax.idx 3 a t a := by unfold Ax.idx; simp
theorem idx3 {a t i : Int} (h : i ≠ a) : og (Ax.lf i a) (Ax.lf t a) true = Ax.idx 3 a t i := by unfold Ax.idx og; simp [h]; split <;> split <;> omega
set_option maxHeartbeats 2000000 in
theorem index_any (k a t i : Int) (w : World) : Calls Tryz.prog 56 #[.agg #[.int .i64 k, .int .i64 a, .int .i64 t], .int .i64 i] w fun e w' => e = .returned (.int .i64 (ix k a t i)) ∧ Q w w' := by
  cases hm : mayB k a t
  · have H := hid (ix_no (i := i) hm)
    go_enter Tryz.func56, Tryz.ntmps56
    go_wp2_with (go_at_call 30; refine (may_any _ _ _ _).mono ?_; rintro e w1 ⟨rfl, rfl⟩)
    go_ret
    exact ⟨ret_int H.out, ((Q.refl _).alloc _).alloc _⟩
  · cases hp : plB i
    · have H := hid (ix_far (k := k) (a := a) (t := t) hp)
      go_enter Tryz.func56, Tryz.ntmps56
      go_wp2_with (first | (go_at_call 30; refine (may_any _ _ _ _).mono ?_; rintro e w1 ⟨rfl, rfl⟩) | (go_at_call 79; refine (mayPlace_any _ _).mono ?_; rintro e w1 ⟨rfl, rfl⟩))
      go_ret
      exact ⟨ret_int H.out, ((Q.refl _).alloc _).alloc _⟩
    · have HY := hid (ix_yes hm hp)
      obtain ⟨p0, p1⟩ := pl_bd hp
      obtain ⟨⟨a0, a1⟩, ⟨t0, t1⟩, -⟩ := may_bd hm
      rcases may_k hm with rfl | rfl | rfl
      · have H := hid ((idx1 a t i).trans HY.out.symm)
        go_enter Tryz.func56, Tryz.ntmps56
        go_wp2_with (first | (go_at_call 30; refine (may_any _ _ _ _).mono ?_; rintro e w1 ⟨rfl, rfl⟩) | (go_at_call 79; refine (mayPlace_any _ _).mono ?_; rintro e w1 ⟨rfl, rfl⟩) | (go_at_call 80; refine (opened_any _ _ _ (by omega) (by omega)).mono ?_; rintro e w1 ⟨rfl, rfl⟩))
        go_ret
        exact ⟨ret_int H.out, ((Q.refl _).alloc _).alloc _⟩
      · by_cases hi : i = a
        · subst hi
          have H := hid ((idx2e (a := i) (t := t)).trans HY.out.symm)
          go_enter Tryz.func56, Tryz.ntmps56
          go_wp2_with (first | (go_at_call 30; refine (may_any _ _ _ _).mono ?_; rintro e w1 ⟨rfl, rfl⟩) | (go_at_call 79; refine (mayPlace_any _ _).mono ?_; rintro e w1 ⟨rfl, rfl⟩))
          go_ret
          exact ⟨ret_int H.out, ((Q.refl _).alloc _).alloc _⟩
        · have hi' : (i == a) = false := by simpa using hi
          have H := hid ((idx2 (t := t) hi).trans HY.out.symm)
          clear hi
          go_enter Tryz.func56, Tryz.ntmps56
          go_wp2_with (first | (go_at_call 30; refine (may_any _ _ _ _).mono ?_; rintro e w1 ⟨rfl, rfl⟩) | (go_at_call 79; refine (mayPlace_any _ _).mono ?_; rintro e w1 ⟨rfl, rfl⟩) | (go_at_call 81; refine (closed_any _ _ _ (by omega) (by omega)).mono ?_; rintro e w1 ⟨rfl, rfl⟩))
          go_ret
          exact ⟨ret_int H.out, ((Q.refl _).alloc _).alloc _⟩
      · by_cases hi : i = a
        · subst hi
          have H := hid ((idx3e (a := i) (t := t)).trans HY.out.symm)
          go_enter Tryz.func56, Tryz.ntmps56
          go_wp2_with (first | (go_at_call 30; refine (may_any _ _ _ _).mono ?_; rintro e w1 ⟨rfl, rfl⟩) | (go_at_call 79; refine (mayPlace_any _ _).mono ?_; rintro e w1 ⟨rfl, rfl⟩) | (go_at_call 82; refine (landing_any _ _ _ _ (by omega) (by omega)).mono ?_; rintro e w1 ⟨rfl, rfl⟩))
          go_ret
          exact ⟨ret_int H.out, (((Q.refl _).alloc _).alloc _).alloc _⟩
        · have hi' : (i == a) = false := by simpa using hi
          have H := hid ((idx3 (t := t) hi).trans HY.out.symm)
          have b1 := lf_bd p0 a0
          clear hi
          go_enter Tryz.func56, Tryz.ntmps56
          go_wp2_with (first | (go_at_call 30; refine (may_any _ _ _ _).mono ?_; rintro e w1 ⟨rfl, rfl⟩) | (go_at_call 79; refine (mayPlace_any _ _).mono ?_; rintro e w1 ⟨rfl, rfl⟩))
          go_region_with (first | (go_at_call 81; refine (closed_any _ _ _ (by omega) (by omega)).mono ?_; rintro e w1 ⟨rfl, rfl⟩) | (go_at_call 82; refine (landing_any _ _ _ _ (by omega) (by omega)).mono ?_; rintro e w1 ⟨rfl, rfl⟩) | (go_at_call 80; refine (opened_any _ _ _ (by omega) (by omega)).mono ?_; rintro e w1 ⟨rfl, rfl⟩))
          all_goals go_wp2
          all_goals go_ret
          all_goals exact ⟨ret_int H.out, by first | exact ((((Q.refl _).alloc _).alloc _).drew).alloc _ | exact ((((Q.refl _).alloc _).alloc _).drewN _).alloc _⟩
end Go.Proofs.YthebfhdpofhmpaaGreatDoor.L
