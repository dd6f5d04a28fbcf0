/- counterpanelaw3.LineApart: what it asks, plainly. -/
import Derived.Test.YtkdapaebcjgckaaK
namespace Go.Proofs.Ytkdapaebcjgckaa
open Go.RowKit
set_option linter.unusedVariables false

/-- what is asked of an operation and two lines, where they may be asked: the places A, B, the line C that came to i -/
structure Ap (k a t i j A B C : Int) : Prop where
  apart : i ≠ j → 0 ≤ A → A ≠ B
  back : 0 ≤ A → bk k a t A = i
  fore : 0 ≤ C → ix k a t C = i
  stays : 0 ≤ A ↔ (k ≠ 2 ∨ i ≠ a)
  from_ : 0 ≤ C ↔ (k ≠ 1 ∨ i ≠ a)
theorem ap_of {k a t i j : Int} (hm : mayB k a t = true) (hi : 0 ≤ i) (hj : 0 ≤ j) (hi' : i ≤ 576460752303423488) (hj' : j ≤ 576460752303423488) : Ap k a t i j (ix k a t i) (ix k a t j) (bk k a t i) := by
  obtain ⟨⟨a0, a1⟩, ⟨t0, t1⟩, ho⟩ := may_bd hm
  replace ho := (Ax.okB_iff k a t).1 ho
  have e1 := ix_yes hm (pl_mk hi (by omega))
  have e2 := ix_yes hm (pl_mk hj (by omega))
  have e3 := bk_yes hm (pl_mk hi (by omega))
  rw [e1, e2, e3]
  have u := Ax.idx_hi k a t i 576460752303423488 ho a0 t0 hi hi' (by omega)
  have v := Ax.bk_hi k a t i 576460752303423488 ho a0 t0 hi hi' (by omega)
  refine ⟨fun hne h0 => Ax.idx_apart k a t i j ho a0 t0 hi hj hne h0, fun h0 => ?_, fun h0 => ?_, Ax.idx_stays k a t i ho a0 t0 hi, Ax.bk_from k a t i ho a0 t0 hi⟩
  · rw [bk_yes hm (pl_mk h0 (by omega))]
    exact Ax.bk_idx k a t i ho a0 t0 hi h0
  · rw [ix_yes hm (pl_mk h0 (by omega))]
    exact Ax.idx_bk k a t i ho a0 t0 hi h0
end Go.Proofs.Ytkdapaebcjgckaa
