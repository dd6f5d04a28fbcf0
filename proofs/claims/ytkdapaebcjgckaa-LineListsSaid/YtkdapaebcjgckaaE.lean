/- Package axis: Back: where a line came from. -/
import Derived.Test.YtkdapaebcjgckaaC0
namespace Go.Proofs.Ytkdapaebcjgckaa
open Go.RowKit
set_option linter.unusedVariables false
set_option linter.unusedSimpArgs false

set_option maxHeartbeats 2000000 in
theorem back_any (k a t i : Int) (w : World) : Calls Try.prog 12 #[.agg #[.int .i64 k, .int .i64 a, .int .i64 t], .int .i64 i] w fun e w' => e = .returned (.int .i64 (bk k a t i)) ∧ Q w w' := by
  cases hm : mayB k a t
  · have H := hid (bk_no (i := i) hm)
    go_enter Try.func12, Try.ntmps12
    go_wp2_with (first | (go_at_call 19; refine (may_any _ _ _ _).mono ?_; rintro e w1 ⟨rfl, rfl⟩))
    go_ret
    exact ⟨ret_int H.out, ((Q.refl _).alloc _).alloc _⟩
  · cases hp : plB i
    · have H := hid (bk_far (k := k) (a := a) (t := t) hp)
      go_enter Try.func12, Try.ntmps12
      go_wp2_with (first | (go_at_call 19; refine (may_any _ _ _ _).mono ?_; rintro e w1 ⟨rfl, rfl⟩) | (go_at_call 21; refine (mayPlace_any _ _).mono ?_; rintro e w1 ⟨rfl, rfl⟩))
      go_ret
      exact ⟨ret_int H.out, ((Q.refl _).alloc _).alloc _⟩
    · have HY := hid (bk_yes hm hp)
      obtain ⟨p0, p1⟩ := pl_bd hp
      obtain ⟨⟨a0, a1⟩, ⟨t0, t1⟩, -⟩ := may_bd hm
      rcases may_k hm with rfl | rfl | rfl
      · by_cases hi : i = a
        · subst hi
          have H := hid ((bk1e i t).trans HY.out.symm)
          go_enter Try.func12, Try.ntmps12
          go_wp2_with (first | (go_at_call 19; refine (may_any _ _ _ _).mono ?_; rintro e w1 ⟨rfl, rfl⟩) | (go_at_call 21; refine (mayPlace_any _ _).mono ?_; rintro e w1 ⟨rfl, rfl⟩))
          go_ret
          exact ⟨ret_int H.out, ((Q.refl _).alloc _).alloc _⟩
        · have hi' : (i == a) = false := by simpa using hi
          have H := hid ((bk1 (t := t) hi).trans HY.out.symm)
          clear hi
          go_enter Try.func12, Try.ntmps12
          go_wp2_with (first | (go_at_call 19; refine (may_any _ _ _ _).mono ?_; rintro e w1 ⟨rfl, rfl⟩) | (go_at_call 21; refine (mayPlace_any _ _).mono ?_; rintro e w1 ⟨rfl, rfl⟩) | (go_at_call 23; refine (closed_any _ _ _ (by omega) (by omega)).mono ?_; rintro e w1 ⟨rfl, rfl⟩))
          go_ret
          exact ⟨ret_int H.out, ((Q.refl _).alloc _).alloc _⟩
      · have H := hid ((bk2 a t i).trans HY.out.symm)
        go_enter Try.func12, Try.ntmps12
        go_wp2_with (first | (go_at_call 19; refine (may_any _ _ _ _).mono ?_; rintro e w1 ⟨rfl, rfl⟩) | (go_at_call 21; refine (mayPlace_any _ _).mono ?_; rintro e w1 ⟨rfl, rfl⟩) | (go_at_call 22; refine (opened_any _ _ _ (by omega) (by omega)).mono ?_; rintro e w1 ⟨rfl, rfl⟩))
        go_ret
        exact ⟨ret_int H.out, ((Q.refl _).alloc _).alloc _⟩
      · have b2 := lf_bd t0 a0
        by_cases hi : i = Ax.lf t a
        · have H := hid ((bk3e hi).trans HY.out.symm)
          have hi' : (i == Ax.lf t a) = true := by simpa using hi
          clear hi
          go_enter Try.func12, Try.ntmps12
          go_wp2_with (first | (go_at_call 19; refine (may_any _ _ _ _).mono ?_; rintro e w1 ⟨rfl, rfl⟩) | (go_at_call 21; refine (mayPlace_any _ _).mono ?_; rintro e w1 ⟨rfl, rfl⟩) | (go_at_call 24; refine (landing_any _ _ _ _ (by omega) (by omega)).mono ?_; rintro e w1 ⟨rfl, rfl⟩))
          go_ret
          exact ⟨ret_int H.out, (((Q.refl _).alloc _).alloc _).alloc _⟩
        · have hi' : (i == Ax.lf t a) = false := by simpa using hi
          have H := hid ((bk3 hi).trans HY.out.symm)
          have b1 := lf_bd p0 b2.1
          clear hi
          go_enter Try.func12, Try.ntmps12
          go_wp2_with (first | (go_at_call 19; refine (may_any _ _ _ _).mono ?_; rintro e w1 ⟨rfl, rfl⟩) | (go_at_call 21; refine (mayPlace_any _ _).mono ?_; rintro e w1 ⟨rfl, rfl⟩) | (go_at_call 24; refine (landing_any _ _ _ _ (by omega) (by omega)).mono ?_; rintro e w1 ⟨rfl, rfl⟩))
          go_region_with (first | (go_at_call 24; refine (landing_any _ _ _ _ (by omega) (by omega)).mono ?_; rintro e w1 ⟨rfl, rfl⟩) | (go_at_call 23; refine (closed_any _ _ _ (by omega) (by omega)).mono ?_; rintro e w1 ⟨rfl, rfl⟩) | (go_at_call 22; refine (opened_any _ _ _ (by omega) (by omega)).mono ?_; rintro e w1 ⟨rfl, rfl⟩))
          all_goals go_wp2
          all_goals go_ret
          all_goals exact ⟨ret_int H.out, by first | exact ((((Q.refl _).alloc _).alloc _).drew).alloc _ | exact ((((Q.refl _).alloc _).alloc _).drewN _).alloc _ | exact (((((Q.refl _).alloc _).alloc _).alloc _).drew).alloc _⟩
end Go.Proofs.Ytkdapaebcjgckaa
