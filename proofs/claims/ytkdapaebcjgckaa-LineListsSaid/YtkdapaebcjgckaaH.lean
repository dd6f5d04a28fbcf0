/- The reference: Transform, where nothing is to be done. -/
import Derived.Test.YtkdapaebcjgckaaG1
import Derived.Test.YtkdapaebcjgckaaG2
import Derived.Test.YtkdapaebcjgckaaF0
namespace Go.Proofs.Ytkdapaebcjgckaa
open Go.RowKit
set_option linter.unusedVariables false
set_option linter.unusedSimpArgs false

theorem may_neg {k X Y : Int} (h : X < 0) : mayB k X Y = false := by unfold mayB; simp; omega
theorem may_t0 {k a t : Int} (h : mayB k a t = true) (hk : k ≠ 3) : t = 0 := by
  have := (Ax.okB_iff k a t).1 (may_bd h).2.2
  unfold Ax.ok at this
  omega
set_option maxHeartbeats 4000000 in
theorem rtransform_no (k a t k' a' t' : Int) (pr : Bool) (w : World) (h : mayB k a t = false ∨ mayB k a t = true ∧ mayB k' a' t' = false) : Calls Try.prog 14 #[.agg #[.int .i64 k, .int .i64 a, .int .i64 t], .agg #[.int .i64 k', .int .i64 a', .int .i64 t'], .bool pr] w
    fun e w' => e = .returned (trV k a t k' a' t' pr) ∧ Q w w' := by
  rcases h with hm | ⟨hm, hm'⟩
  · have H := hid (trV_m (k' := k') (a' := a') (t' := t') (pr := pr) hm)
    go_enter Try.func14, Try.ntmps14
    go_wp2_with (go_at_call 11; refine (rmay_any _ _ _ _).mono ?_; rintro e w1 ⟨rfl, rfl⟩)
    refine bodyPost_ret (v := (.tuple #[.agg #[.int .i64 0, .int .i64 0, .int .i64 0], .bool false])) (by simp [results, Try.results14, go_sem]) rfl ⟨ret_val H.out.symm, ?_⟩
    repeat' (first | with_reducible exact Q.refl _ | with_reducible refine Q.alloc ?_ _ | with_reducible refine Q.setCell ?_ (by omega) _ | with_reducible refine Q.trans ?_ (by assumption))
  · have H := hid (trV_m' (k := k) (a := a) (t := t) (pr := pr) hm')
    go_enter Try.func14, Try.ntmps14
    go_wp2_with (go_at_call 11; refine (rmay_any _ _ _ _).mono ?_; rintro e w1 ⟨rfl, rfl⟩)
    refine bodyPost_ret (v := (.tuple #[.agg #[.int .i64 0, .int .i64 0, .int .i64 0], .bool false])) (by simp [results, Try.results14, go_sem]) rfl ⟨ret_val H.out.symm, ?_⟩
    repeat' (first | with_reducible exact Q.refl _ | with_reducible refine Q.alloc ?_ _ | with_reducible refine Q.setCell ?_ (by omega) _ | with_reducible refine Q.trans ?_ (by assumption))
set_option maxHeartbeats 4000000 in
theorem rtransform_same (a t t' : Int) (pr : Bool) (w : World) (hm : mayB 3 a t = true) (hm' : mayB 3 a t' = true) (hp : pr = true) : Calls Try.prog 14 #[.agg #[.int .i64 3, .int .i64 a, .int .i64 t], .agg #[.int .i64 3, .int .i64 a, .int .i64 t'], .bool pr] w
    fun e w' => e = .returned (trV 3 a t 3 a t' pr) ∧ Q w w' := by
  subst hp
  have H := hid (trV_s (k := 3) (a := a) (k' := 3) (a' := a) (t := t) (t' := t') (pr := true) (by unfold smB; simp))
  go_enter Try.func14, Try.ntmps14
  go_wp2_with (go_at_call 11; refine (rmay_any _ _ _ _).mono ?_; rintro e w1 ⟨rfl, rfl⟩)
  refine bodyPost_ret (v := (.tuple #[.agg #[.int .i64 0, .int .i64 0, .int .i64 0], .bool false])) (by simp [results, Try.results14, go_sem]) rfl ⟨ret_val H.out.symm, ?_⟩
  repeat' (first | with_reducible exact Q.refl _ | with_reducible refine Q.alloc ?_ _ | with_reducible refine Q.setCell ?_ (by omega) _ | with_reducible refine Q.trans ?_ (by assumption))
end Go.Proofs.Ytkdapaebcjgckaa
