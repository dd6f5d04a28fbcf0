/- The reference: Index: where a line goes. -/
import Derived.Test.YtkdapaebcjgckaaG
namespace Go.Proofs.Ytkdapaebcjgckaa
open Go.RowKit
set_option linter.unusedVariables false
set_option linter.unusedSimpArgs false

set_option maxHeartbeats 2000000 in
theorem rindex_any (k a t i : Int) (w : World) : Calls Try.prog 27 #[.agg #[.int .i64 k, .int .i64 a, .int .i64 t], .int .i64 i] w fun e w' => e = .returned (.int .i64 (ix k a t i)) ∧ Q w w' := by
  cases hm : mayB k a t
  · have H := hid (ix_no (i := i) hm)
    go_enter Try.func27, Try.ntmps27
    go_wp2_with (first | (go_at_call 11; refine (rmay_any _ _ _ _).mono ?_; rintro e w1 ⟨rfl, rfl⟩))
    go_ret
    exact ⟨ret_int H.out, ((Q.refl _).alloc _).alloc _⟩
  · cases hp : plB i
    · have H := hid (ix_far (k := k) (a := a) (t := t) hp)
      go_enter Try.func27, Try.ntmps27
      go_wp2_with (first | (go_at_call 11; refine (rmay_any _ _ _ _).mono ?_; rintro e w1 ⟨rfl, rfl⟩) | (go_at_call 30; refine (out_any _ _).mono ?_; rintro e w1 ⟨rfl, rfl⟩))
      go_ret
      exact ⟨ret_int H.out, ((Q.refl _).alloc _).alloc _⟩
    · have HY := hid (ix_yes hm hp)
      obtain ⟨p0, p1⟩ := pl_bd hp
      obtain ⟨⟨a0, a1⟩, ⟨t0, t1⟩, -⟩ := may_bd hm
      rcases may_k hm with rfl | rfl | rfl
      · by_cases hi : a ≤ i
        · have H : Hid (i + 1 = ix 1 a t i) := by show _ = _; rw [HY.out]; unfold Ax.idx; simp [hi]
          go_enter Try.func27, Try.ntmps27
          go_wp2_with (first | (go_at_call 11; refine (rmay_any _ _ _ _).mono ?_; rintro e w1 ⟨rfl, rfl⟩) | (go_at_call 30; refine (out_any _ _).mono ?_; rintro e w1 ⟨rfl, rfl⟩))
          go_ret
          exact ⟨ret_int H.out, ((Q.refl _).alloc _).alloc _⟩
        · have H : Hid (i = ix 1 a t i) := by show _ = _; rw [HY.out]; unfold Ax.idx; simp [hi]
          go_enter Try.func27, Try.ntmps27
          go_wp2_with (first | (go_at_call 11; refine (rmay_any _ _ _ _).mono ?_; rintro e w1 ⟨rfl, rfl⟩) | (go_at_call 30; refine (out_any _ _).mono ?_; rintro e w1 ⟨rfl, rfl⟩))
          go_ret
          exact ⟨ret_int H.out, ((Q.refl _).alloc _).alloc _⟩
      · by_cases hi : i = a
        · subst hi
          have H := hid ((idx2e (a := i) (t := t)).trans HY.out.symm)
          go_enter Try.func27, Try.ntmps27
          go_wp2_with (first | (go_at_call 11; refine (rmay_any _ _ _ _).mono ?_; rintro e w1 ⟨rfl, rfl⟩) | (go_at_call 30; refine (out_any _ _).mono ?_; rintro e w1 ⟨rfl, rfl⟩))
          go_ret
          exact ⟨ret_int H.out, ((Q.refl _).alloc _).alloc _⟩
        · have hi' : (i == a) = false := by simpa using hi
          have H := hid ((idx2 (t := t) hi).trans HY.out.symm)
          clear hi
          go_enter Try.func27, Try.ntmps27
          go_wp2_with (first | (go_at_call 11; refine (rmay_any _ _ _ _).mono ?_; rintro e w1 ⟨rfl, rfl⟩) | (go_at_call 30; refine (out_any _ _).mono ?_; rintro e w1 ⟨rfl, rfl⟩) | (go_at_call 31; refine (left_any _ _ _ (by omega) (by omega)).mono ?_; rintro e w1 ⟨rfl, rfl⟩))
          go_ret
          exact ⟨ret_int H.out, ((Q.refl _).alloc _).alloc _⟩
      · by_cases hi : i = a
        · subst hi
          have H := hid ((idx3e (a := i) (t := t)).trans HY.out.symm)
          go_enter Try.func27, Try.ntmps27
          go_wp2_with (first | (go_at_call 11; refine (rmay_any _ _ _ _).mono ?_; rintro e w1 ⟨rfl, rfl⟩) | (go_at_call 30; refine (out_any _ _).mono ?_; rintro e w1 ⟨rfl, rfl⟩) | (go_at_call 31; refine (left_any _ _ _ (by omega) (by omega)).mono ?_; rintro e w1 ⟨rfl, rfl⟩))
          go_ret
          exact ⟨ret_int H.out, ((Q.refl _).alloc _).alloc _⟩
        · have hi' : (i == a) = false := by simpa using hi
          have b1 := lf_bd p0 a0
          by_cases hl : Ax.lf t a ≤ Ax.lf i a
          · have H : Hid (Ax.lf i a + 1 = ix 3 a t i) := by show _ = _; rw [HY.out]; unfold Ax.idx; simp [hi, hl]
            clear hi
            go_enter Try.func27, Try.ntmps27
            go_wp2_with (first | (go_at_call 11; refine (rmay_any _ _ _ _).mono ?_; rintro e w1 ⟨rfl, rfl⟩) | (go_at_call 30; refine (out_any _ _).mono ?_; rintro e w1 ⟨rfl, rfl⟩) | (go_at_call 31; refine (left_any _ _ _ (by omega) (by omega)).mono ?_; rintro e w1 ⟨rfl, rfl⟩))
            go_ret
            exact ⟨ret_int H.out, ((Q.refl _).alloc _).alloc _⟩
          · have H : Hid (Ax.lf i a = ix 3 a t i) := by show _ = _; rw [HY.out]; unfold Ax.idx; simp [hi, hl]
            clear hi
            go_enter Try.func27, Try.ntmps27
            go_wp2_with (first | (go_at_call 11; refine (rmay_any _ _ _ _).mono ?_; rintro e w1 ⟨rfl, rfl⟩) | (go_at_call 30; refine (out_any _ _).mono ?_; rintro e w1 ⟨rfl, rfl⟩) | (go_at_call 31; refine (left_any _ _ _ (by omega) (by omega)).mono ?_; rintro e w1 ⟨rfl, rfl⟩))
            go_ret
            exact ⟨ret_int H.out, ((Q.refl _).alloc _).alloc _⟩
end Go.Proofs.Ytkdapaebcjgckaa
