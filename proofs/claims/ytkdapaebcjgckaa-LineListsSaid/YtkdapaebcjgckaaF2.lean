/- Package axis: Transform, of kind 2. -/
import Derived.Test.YtkdapaebcjgckaaF
namespace Go.Proofs.Ytkdapaebcjgckaa
open Go.RowKit
set_option linter.unusedVariables false
set_option linter.unusedSimpArgs false

set_option maxHeartbeats 4000000 in
theorem transform_k2 (a t k' a' t' : Int) (pr : Bool) (w : World) (hm : mayB 2 a t = true) (hm' : mayB k' a' t' = true) (hs : (pr && smB 2 a k' a') = false) : Calls Try.prog 13 #[.agg #[.int .i64 2, .int .i64 a, .int .i64 t], .agg #[.int .i64 k', .int .i64 a', .int .i64 t'], .bool pr] w
    fun e w' => e = .returned (trV 2 a t k' a' t' pr) ∧ Q w w' := by
  cases pr
  · obtain ⟨X, hX⟩ : ∃ X, ix k' a' t' a = X := ⟨_, rfl⟩
    have HX := hid (fun W => index_any k' a' t' a W)
    rw [hX] at HX
    have eA : Hid (tA 2 a t k' a' t' false = X) := by show _ = _; rw [← hX]; rfl
    have eT : Hid (tT 2 a t k' a' t' false = t) := by show _ = _; rfl
    clear hX
    cases hx : mayB 2 X t
    · have H := hid (trV_x (k := 2) (a := a) (t := t) (k' := k') (a' := a') (t' := t') (pr := false) (by rw [eA.out, eT.out]; exact hx))
      clear hs
      go_enter Try.func13, Try.ntmps13
      go_wp2_with (first
      | (go_at_call 19; refine (may_any _ _ _ _).mono ?_; rintro e w1 ⟨rfl, rfl⟩)
      | (go_at_call 10; refine (HX.out _).mono ?_; rintro e w2 ⟨rfl, q2⟩; obtain ⟨hc, hf⟩ := bcell q2; have hz := q2.size; simp only [World.size_alloc] at hz; have z0 : w.heap.size < w2.heap.size := (by omega); have z1 : w.heap.size + 1 < w2.heap.size := (by omega); have z2 : w.heap.size + 1 + 1 < w2.heap.size := (by omega); have z3 : w.heap.size + 1 + 1 + 1 + 1 + 1 < w2.heap.size := (by omega)))
      refine bodyPost_ret (v := (.tuple #[.agg #[.int .i64 0, .int .i64 0, .int .i64 0], .bool false])) (by simp [results, Try.results13, go_sem, hc, hf, z0, z1, z2, z3]) rfl ⟨ret_val H.out.symm, ?_⟩
      repeat' (first | with_reducible exact Q.refl _ | with_reducible refine Q.alloc ?_ _ | with_reducible refine Q.setCell ?_ (by omega) _ | with_reducible refine Q.trans ?_ (by assumption))
    · have H := hid (trV_o (k := 2) (a := a) (t := t) (k' := k') (a' := a') (t' := t') (pr := false) hm hm' hs (by rw [eA.out, eT.out]; exact hx))
      rw [eA.out, eT.out] at H
      clear hs
      go_enter Try.func13, Try.ntmps13
      go_wp2_with (first
      | (go_at_call 19; refine (may_any _ _ _ _).mono ?_; rintro e w1 ⟨rfl, rfl⟩)
      | (go_at_call 10; refine (HX.out _).mono ?_; rintro e w2 ⟨rfl, q2⟩; obtain ⟨hc, hf⟩ := bcell q2; have hz := q2.size; simp only [World.size_alloc] at hz; have z0 : w.heap.size < w2.heap.size := (by omega); have z1 : w.heap.size + 1 < w2.heap.size := (by omega); have z2 : w.heap.size + 1 + 1 < w2.heap.size := (by omega); have z3 : w.heap.size + 1 + 1 + 1 + 1 + 1 < w2.heap.size := (by omega)))
      refine bodyPost_ret (v := (.tuple #[.agg #[.int .i64 2, .int .i64 X, .int .i64 t], .bool true])) (by simp [results, Try.results13, go_sem, hc, hf, z0, z1, z2, z3]) rfl ⟨ret_val H.out.symm, ?_⟩
      repeat' (first | with_reducible exact Q.refl _ | with_reducible refine Q.alloc ?_ _ | with_reducible refine Q.setCell ?_ (by omega) _ | with_reducible refine Q.trans ?_ (by assumption))
  · obtain ⟨X, hX⟩ : ∃ X, ix k' a' t' a = X := ⟨_, rfl⟩
    have HX := hid (fun W => index_any k' a' t' a W)
    rw [hX] at HX
    have eA : Hid (tA 2 a t k' a' t' true = X) := by show _ = _; rw [← hX]; rfl
    have eT : Hid (tT 2 a t k' a' t' true = t) := by show _ = _; rfl
    have hs' : smB 2 a k' a' = false := by simpa using hs
    clear hX
    cases hx : mayB 2 X t
    · have H := hid (trV_x (k := 2) (a := a) (t := t) (k' := k') (a' := a') (t' := t') (pr := true) (by rw [eA.out, eT.out]; exact hx))
      clear hs
      go_enter Try.func13, Try.ntmps13
      go_wp2_with (first
      | (go_at_call 19; refine (may_any _ _ _ _).mono ?_; rintro e w1 ⟨rfl, rfl⟩)
      | (go_at_call 25; refine (same_any _ _ _ _ _ _ _).mono ?_; rintro e w1 ⟨rfl, rfl⟩)
      | (go_at_call 10; refine (HX.out _).mono ?_; rintro e w2 ⟨rfl, q2⟩; obtain ⟨hc, hf⟩ := bcell q2; have hz := q2.size; simp only [World.size_alloc] at hz; have z0 : w.heap.size < w2.heap.size := (by omega); have z1 : w.heap.size + 1 < w2.heap.size := (by omega); have z2 : w.heap.size + 1 + 1 < w2.heap.size := (by omega); have z3 : w.heap.size + 1 + 1 + 1 + 1 + 1 + 1 + 1 < w2.heap.size := (by omega)))
      refine bodyPost_ret (v := (.tuple #[.agg #[.int .i64 0, .int .i64 0, .int .i64 0], .bool false])) (by simp [results, Try.results13, go_sem, hc, hf, z0, z1, z2, z3]) rfl ⟨ret_val H.out.symm, ?_⟩
      repeat' (first | with_reducible exact Q.refl _ | with_reducible refine Q.alloc ?_ _ | with_reducible refine Q.setCell ?_ (by omega) _ | with_reducible refine Q.trans ?_ (by assumption))
    · have H := hid (trV_o (k := 2) (a := a) (t := t) (k' := k') (a' := a') (t' := t') (pr := true) hm hm' hs (by rw [eA.out, eT.out]; exact hx))
      rw [eA.out, eT.out] at H
      clear hs
      go_enter Try.func13, Try.ntmps13
      go_wp2_with (first
      | (go_at_call 19; refine (may_any _ _ _ _).mono ?_; rintro e w1 ⟨rfl, rfl⟩)
      | (go_at_call 25; refine (same_any _ _ _ _ _ _ _).mono ?_; rintro e w1 ⟨rfl, rfl⟩)
      | (go_at_call 10; refine (HX.out _).mono ?_; rintro e w2 ⟨rfl, q2⟩; obtain ⟨hc, hf⟩ := bcell q2; have hz := q2.size; simp only [World.size_alloc] at hz; have z0 : w.heap.size < w2.heap.size := (by omega); have z1 : w.heap.size + 1 < w2.heap.size := (by omega); have z2 : w.heap.size + 1 + 1 < w2.heap.size := (by omega); have z3 : w.heap.size + 1 + 1 + 1 + 1 + 1 + 1 + 1 < w2.heap.size := (by omega)))
      refine bodyPost_ret (v := (.tuple #[.agg #[.int .i64 2, .int .i64 X, .int .i64 t], .bool true])) (by simp [results, Try.results13, go_sem, hc, hf, z0, z1, z2, z3]) rfl ⟨ret_val H.out.symm, ?_⟩
      repeat' (first | with_reducible exact Q.refl _ | with_reducible refine Q.alloc ?_ _ | with_reducible refine Q.setCell ?_ (by omega) _ | with_reducible refine Q.trans ?_ (by assumption))
end Go.Proofs.Ytkdapaebcjgckaa
