/- The reference: Gap: where a gap goes. -/
import Derived.Test.YtkdapaebcjgckaaG
import Derived.Deep.QuietTactic
import Derived.BigQuiet
namespace Go.Proofs.Ytkdapaebcjgckaa
open Go.RowKit
set_option linter.unusedVariables false
set_option linter.unusedSimpArgs false

set_option maxHeartbeats 1000000 in
theorem rgap_any (k a t i : Int) (b : Bool) (w : World) : Calls Try.prog 26 #[.agg #[.int .i64 k, .int .i64 a, .int .i64 t], .int .i64 i, .bool b] w fun e w' => e = .returned (.int .i64 (gp k a t i b)) ∧ Q w w' := by
  cases hm : mayB k a t
  · have H := hid (gp_no (i := i) (b := b) hm)
    go_enter Try.func26, Try.ntmps26
    go_wp2_with (first | (go_at_call 11; refine (rmay_any _ _ _ _).mono ?_; rintro e w1 ⟨rfl, rfl⟩))
    go_ret
    exact ⟨ret_int H.out, ((Q.refl _).alloc _).alloc _⟩
  · cases hp : plB i
    · have H := hid (gp_far (k := k) (a := a) (t := t) (b := b) hp)
      go_enter Try.func26, Try.ntmps26
      go_wp2_with (first | (go_at_call 11; refine (rmay_any _ _ _ _).mono ?_; rintro e w1 ⟨rfl, rfl⟩) | (go_at_call 30; refine (out_any _ _).mono ?_; rintro e w1 ⟨rfl, rfl⟩))
      go_ret
      exact ⟨ret_int H.out, ((Q.refl _).alloc _).alloc _⟩
    · have HY := hid (gp_yes (b := b) hm hp)
      obtain ⟨p0, p1⟩ := pl_bd hp
      obtain ⟨⟨a0, a1⟩, ⟨t0, t1⟩, -⟩ := may_bd hm
      rcases may_k hm with rfl | rfl | rfl
      · have HG := hid ((gap1 a t i b).trans HY.out.symm)
        by_cases h : a < i
        · have H : Hid (i + 1 = gp 1 a t i b) := by show _ = _; rw [← HG.out]; unfold og; simp [h]
          go_enter Try.func26, Try.ntmps26
          go_wp2_with (first | (go_at_call 11; refine (rmay_any _ _ _ _).mono ?_; rintro e w1 ⟨rfl, rfl⟩) | (go_at_call 30; refine (out_any _ _).mono ?_; rintro e w1 ⟨rfl, rfl⟩))
          go_ret
          exact ⟨ret_int H.out, ((Q.refl _).alloc _).alloc _⟩
        · by_cases h2 : i = a
          · subst h2
            cases b
            · have H : Hid (i = gp 1 i t i false) := by show _ = _; rw [← HG.out]; unfold og; simp
              go_enter Try.func26, Try.ntmps26
              go_wp2_with (first | (go_at_call 11; refine (rmay_any _ _ _ _).mono ?_; rintro e w1 ⟨rfl, rfl⟩) | (go_at_call 30; refine (out_any _ _).mono ?_; rintro e w1 ⟨rfl, rfl⟩))
              go_ret
              exact ⟨ret_int H.out, ((Q.refl _).alloc _).alloc _⟩
            · have H : Hid (i + 1 = gp 1 i t i true) := by show _ = _; rw [← HG.out]; unfold og; simp
              go_enter Try.func26, Try.ntmps26
              go_wp2_with (first | (go_at_call 11; refine (rmay_any _ _ _ _).mono ?_; rintro e w1 ⟨rfl, rfl⟩) | (go_at_call 30; refine (out_any _ _).mono ?_; rintro e w1 ⟨rfl, rfl⟩))
              go_ret
              exact ⟨ret_int H.out, ((Q.refl _).alloc _).alloc _⟩
          · have H : Hid (i = gp 1 a t i b) := by show _ = _; rw [← HG.out]; unfold og; simp [h, h2]
            have h3 : (i == a) = false := by simpa using h2
            clear h2
            go_enter Try.func26, Try.ntmps26
            go_wp2_with (first | (go_at_call 11; refine (rmay_any _ _ _ _).mono ?_; rintro e w1 ⟨rfl, rfl⟩) | (go_at_call 30; refine (out_any _ _).mono ?_; rintro e w1 ⟨rfl, rfl⟩))
            go_ret
            exact ⟨ret_int H.out, ((Q.refl _).alloc _).alloc _⟩
      · have H := hid ((gap2 a t i b).trans HY.out.symm)
        go_enter Try.func26, Try.ntmps26
        go_wp2_with (first | (go_at_call 11; refine (rmay_any _ _ _ _).mono ?_; rintro e w1 ⟨rfl, rfl⟩) | (go_at_call 30; refine (out_any _ _).mono ?_; rintro e w1 ⟨rfl, rfl⟩) | (go_at_call 31; refine (left_any _ _ _ (by omega) (by omega)).mono ?_; rintro e w1 ⟨rfl, rfl⟩))
        go_ret
        exact ⟨ret_int H.out, ((Q.refl _).alloc _).alloc _⟩
      · have HG := hid ((gap3 a t i b).trans HY.out.symm)
        have b1 := lf_bd p0 a0
        by_cases h : Ax.lf t a < Ax.lf i a
        · have H : Hid (Ax.lf i a + 1 = gp 3 a t i b) := by show _ = _; rw [← HG.out]; unfold og; simp [h]
          go_enter Try.func26, Try.ntmps26
          go_wp2_with (first | (go_at_call 11; refine (rmay_any _ _ _ _).mono ?_; rintro e w1 ⟨rfl, rfl⟩) | (go_at_call 30; refine (out_any _ _).mono ?_; rintro e w1 ⟨rfl, rfl⟩))
          go_quiet ((go_at_call 31; exact Calls.quiet_of_same (left_any _ _ _ (by omega) (by omega))))
          all_goals go_wp2
          all_goals go_ret
          all_goals exact ⟨ret_int H.out, by first | exact (((Q.refl _).alloc _).alloc _).drew | exact (((Q.refl _).alloc _).alloc _).drewN _⟩
        · by_cases h2 : Ax.lf i a = Ax.lf t a
          · have h3 : (Ax.lf i a == Ax.lf t a) = true := by simpa using h2
            cases b
            · have H : Hid (Ax.lf i a = gp 3 a t i false) := by show _ = _; rw [← HG.out]; unfold og; simp [h]
              clear h2
              go_enter Try.func26, Try.ntmps26
              go_wp2_with (first | (go_at_call 11; refine (rmay_any _ _ _ _).mono ?_; rintro e w1 ⟨rfl, rfl⟩) | (go_at_call 30; refine (out_any _ _).mono ?_; rintro e w1 ⟨rfl, rfl⟩))
              go_quiet ((go_at_call 31; exact Calls.quiet_of_same (left_any _ _ _ (by omega) (by omega))))
              all_goals go_wp2
              all_goals go_ret
              all_goals exact ⟨ret_int H.out, by first | exact (((Q.refl _).alloc _).alloc _).drew | exact (((Q.refl _).alloc _).alloc _).drewN _⟩
            · have H : Hid (Ax.lf i a + 1 = gp 3 a t i true) := by show _ = _; rw [← HG.out]; unfold og; simp [h2]
              clear h2
              go_enter Try.func26, Try.ntmps26
              go_wp2_with (first | (go_at_call 11; refine (rmay_any _ _ _ _).mono ?_; rintro e w1 ⟨rfl, rfl⟩) | (go_at_call 30; refine (out_any _ _).mono ?_; rintro e w1 ⟨rfl, rfl⟩))
              go_quiet ((go_at_call 31; exact Calls.quiet_of_same (left_any _ _ _ (by omega) (by omega))))
              all_goals go_wp2
              all_goals go_ret
              all_goals exact ⟨ret_int H.out, by first | exact (((Q.refl _).alloc _).alloc _).drew | exact (((Q.refl _).alloc _).alloc _).drewN _⟩
          · have H : Hid (Ax.lf i a = gp 3 a t i b) := by show _ = _; rw [← HG.out]; unfold og; simp [h, h2]
            have h3 : (Ax.lf i a == Ax.lf t a) = false := by simpa using h2
            clear h2
            go_enter Try.func26, Try.ntmps26
            go_wp2_with (first | (go_at_call 11; refine (rmay_any _ _ _ _).mono ?_; rintro e w1 ⟨rfl, rfl⟩) | (go_at_call 30; refine (out_any _ _).mono ?_; rintro e w1 ⟨rfl, rfl⟩))
            go_quiet ((go_at_call 31; exact Calls.quiet_of_same (left_any _ _ _ (by omega) (by omega))))
            all_goals go_wp2
            all_goals go_ret
            all_goals exact ⟨ret_int H.out, by first | exact (((Q.refl _).alloc _).alloc _).drew | exact (((Q.refl _).alloc _).alloc _).drewN _⟩
end Go.Proofs.Ytkdapaebcjgckaa
