/- Package axis: Transform: an operation behind another one. -/
import Derived.Test.YtkdapaebcjgckaaC
import Derived.Test.YtkdapaebcjgckaaD
import Derived.Test.YtkdapaebcjgckaaF0
namespace Go.Proofs.Ytkdapaebcjgckaa
open Go.RowKit
set_option linter.unusedVariables false
set_option linter.unusedSimpArgs false

set_option maxHeartbeats 1000000 in
theorem same_any (k a t k' a' t' : Int) (w : World) : Calls Try.prog 25 #[.agg #[.int .i64 k, .int .i64 a, .int .i64 t], .agg #[.int .i64 k', .int .i64 a', .int .i64 t']] w
    fun e w' => e = .returned (.bool (smB k a k' a')) ∧ w' = (w.alloc (.cells #[.int .i64 k, .int .i64 a, .int .i64 t] 23)).alloc (.cells #[.int .i64 k', .int .i64 a', .int .i64 t'] 23) := by
  by_cases h1 : k = 3
  · have h1' : (k == 3) = true := by simpa using h1
    by_cases h2 : k' = 3
    · have h2' : (k' == 3) = true := by simpa using h2
      have H : Hid ((a == a') = smB k a k' a') := by show _ = _; unfold smB; rw [Bool.eq_iff_iff]; simp [h1, h2]
      clear h1 h2
      go_enter Try.func25, Try.ntmps25
      go_wp2
      go_ret
      exact ⟨ret_bool H.out, rfl⟩
    · have h2' : (k' == 3) = false := by simpa using h2
      have H : Hid (false = smB k a k' a') := by show _ = _; unfold smB; simp [h2]
      clear h1 h2
      go_enter Try.func25, Try.ntmps25
      go_wp2
      go_ret
      exact ⟨ret_bool H.out, rfl⟩
  · have h1' : (k == 3) = false := by simpa using h1
    have H : Hid (false = smB k a k' a') := by show _ = _; unfold smB; simp [h1]
    clear h1
    go_enter Try.func25, Try.ntmps25
    go_wp2
    go_ret
    exact ⟨ret_bool H.out, rfl⟩

set_option maxHeartbeats 4000000 in
theorem transform_no (k a t k' a' t' : Int) (pr : Bool) (w : World) (h : mayB k a t = false ∨ mayB k a t = true ∧ mayB k' a' t' = false ∨ mayB k a t = true ∧ mayB k' a' t' = true ∧ pr = true ∧ smB k a k' a' = true) : Calls Try.prog 13 #[.agg #[.int .i64 k, .int .i64 a, .int .i64 t], .agg #[.int .i64 k', .int .i64 a', .int .i64 t'], .bool pr] w
    fun e w' => e = .returned (trV k a t k' a' t' pr) ∧ Q w w' := by
  rcases h with hm | ⟨hm, hm'⟩ | ⟨hm, hm', rfl, hs⟩
  · have H := hid (trV_m (k' := k') (a' := a') (t' := t') (pr := pr) hm)
    go_enter Try.func13, Try.ntmps13
    go_wp2_with (go_at_call 19; refine (may_any _ _ _ _).mono ?_; rintro e w1 ⟨rfl, rfl⟩)
    refine bodyPost_ret (v := (.tuple #[.agg #[.int .i64 0, .int .i64 0, .int .i64 0], .bool false])) (by simp [results, Try.results13, go_sem]) rfl ⟨ret_val H.out.symm, ?_⟩
    repeat' (first | with_reducible exact Q.refl _ | with_reducible refine Q.alloc ?_ _ | with_reducible refine Q.setCell ?_ (by omega) _ | with_reducible refine Q.trans ?_ (by assumption))
  · have H := hid (trV_m' (k := k) (a := a) (t := t) (pr := pr) hm')
    go_enter Try.func13, Try.ntmps13
    go_wp2_with (go_at_call 19; refine (may_any _ _ _ _).mono ?_; rintro e w1 ⟨rfl, rfl⟩)
    refine bodyPost_ret (v := (.tuple #[.agg #[.int .i64 0, .int .i64 0, .int .i64 0], .bool false])) (by simp [results, Try.results13, go_sem]) rfl ⟨ret_val H.out.symm, ?_⟩
    repeat' (first | with_reducible exact Q.refl _ | with_reducible refine Q.alloc ?_ _ | with_reducible refine Q.setCell ?_ (by omega) _ | with_reducible refine Q.trans ?_ (by assumption))
  · have H := hid (trV_s (t := t) (t' := t') (pr := true) (by rw [hs]; rfl))
    go_enter Try.func13, Try.ntmps13
    go_wp2_with (first
      | (go_at_call 19; refine (may_any _ _ _ _).mono ?_; rintro e w1 ⟨rfl, rfl⟩)
      | (go_at_call 25; refine (same_any _ _ _ _ _ _ _).mono ?_; rintro e w1 ⟨rfl, rfl⟩))
    refine bodyPost_ret (v := (.tuple #[.agg #[.int .i64 0, .int .i64 0, .int .i64 0], .bool false])) (by simp [results, Try.results13, go_sem]) rfl ⟨ret_val H.out.symm, ?_⟩
    repeat' (first | with_reducible exact Q.refl _ | with_reducible refine Q.alloc ?_ _ | with_reducible refine Q.setCell ?_ (by omega) _ | with_reducible refine Q.trans ?_ (by assumption))
end Go.Proofs.Ytkdapaebcjgckaa
