/- Package axis: Gap: where a gap goes. -/
import Derived.Test.YtkdapaebcjgckaaC0
namespace Go.Proofs.Ytkdapaebcjgckaa
open Go.RowKit
set_option linter.unusedVariables false
set_option linter.unusedSimpArgs false

set_option maxHeartbeats 2000000 in
theorem gap_any (k a t i : Int) (b : Bool) (w : World) : Calls Try.prog 20 #[.agg #[.int .i64 k, .int .i64 a, .int .i64 t], .int .i64 i, .bool b] w fun e w' => e = .returned (.int .i64 (gp k a t i b)) ∧ Q w w' := by
  cases hm : mayB k a t
  · have H := hid (gp_no (i := i) (b := b) hm)
    go_enter Try.func20, Try.ntmps20
    go_wp2_with (first | (go_at_call 19; refine (may_any _ _ _ _).mono ?_; rintro e w1 ⟨rfl, rfl⟩))
    go_ret
    exact ⟨ret_int H.out, ((Q.refl _).alloc _).alloc _⟩
  · cases hp : plB i
    · have H := hid (gp_far (k := k) (a := a) (t := t) (b := b) hp)
      go_enter Try.func20, Try.ntmps20
      go_wp2_with (first | (go_at_call 19; refine (may_any _ _ _ _).mono ?_; rintro e w1 ⟨rfl, rfl⟩) | (go_at_call 21; refine (mayPlace_any _ _).mono ?_; rintro e w1 ⟨rfl, rfl⟩))
      go_ret
      exact ⟨ret_int H.out, ((Q.refl _).alloc _).alloc _⟩
    · have HY := hid (gp_yes (b := b) hm hp)
      obtain ⟨p0, p1⟩ := pl_bd hp
      obtain ⟨⟨a0, a1⟩, ⟨t0, t1⟩, -⟩ := may_bd hm
      rcases may_k hm with rfl | rfl | rfl
      · have H := hid ((gap1 a t i b).trans HY.out.symm)
        go_enter Try.func20, Try.ntmps20
        go_wp2_with (first | (go_at_call 19; refine (may_any _ _ _ _).mono ?_; rintro e w1 ⟨rfl, rfl⟩) | (go_at_call 21; refine (mayPlace_any _ _).mono ?_; rintro e w1 ⟨rfl, rfl⟩) | (go_at_call 29; refine (openedGap_any _ _ _ _ (by omega) (by omega)).mono ?_; rintro e w1 ⟨rfl, rfl⟩))
        go_ret
        exact ⟨ret_int H.out, ((Q.refl _).alloc _).alloc _⟩
      · have H := hid ((gap2 a t i b).trans HY.out.symm)
        go_enter Try.func20, Try.ntmps20
        go_wp2_with (first | (go_at_call 19; refine (may_any _ _ _ _).mono ?_; rintro e w1 ⟨rfl, rfl⟩) | (go_at_call 21; refine (mayPlace_any _ _).mono ?_; rintro e w1 ⟨rfl, rfl⟩) | (go_at_call 23; refine (closed_any _ _ _ (by omega) (by omega)).mono ?_; rintro e w1 ⟨rfl, rfl⟩))
        go_ret
        exact ⟨ret_int H.out, ((Q.refl _).alloc _).alloc _⟩
      · have H := hid ((gap3 a t i b).trans HY.out.symm)
        have b1 := lf_bd p0 a0
        go_enter Try.func20, Try.ntmps20
        go_wp2_with (first | (go_at_call 19; refine (may_any _ _ _ _).mono ?_; rintro e w1 ⟨rfl, rfl⟩) | (go_at_call 21; refine (mayPlace_any _ _).mono ?_; rintro e w1 ⟨rfl, rfl⟩))
        go_region_with (first | (go_at_call 23; refine (closed_any _ _ _ (by omega) (by omega)).mono ?_; rintro e w1 ⟨rfl, rfl⟩) | (go_at_call 24; refine (landing_any _ _ _ _ (by omega) (by omega)).mono ?_; rintro e w1 ⟨rfl, rfl⟩) | (go_at_call 29; refine (openedGap_any _ _ _ _ (by omega) (by omega)).mono ?_; rintro e w1 ⟨rfl, rfl⟩))
        all_goals go_wp2
        all_goals go_ret
        all_goals exact ⟨ret_int H.out, by first | exact ((((Q.refl _).alloc _).alloc _).drew).alloc _ | exact ((((Q.refl _).alloc _).alloc _).drewN _).alloc _ | exact (((((Q.refl _).alloc _).alloc _).alloc _).drew).alloc _⟩
end Go.Proofs.Ytkdapaebcjgckaa
