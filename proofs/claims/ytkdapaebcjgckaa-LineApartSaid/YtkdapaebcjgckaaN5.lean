/- counterpanelaw3.LineApart: the walk, whole. -/
import Derived.Test.YtkdapaebcjgckaaN2
import Derived.Test.YtkdapaebcjgckaaN3
import Derived.Test.YtkdapaebcjgckaaN4
namespace Go.Proofs.Ytkdapaebcjgckaa
open Go.RowKit
set_option linter.unusedVariables false
set_option linter.unusedSimpArgs false

theorem apart_walk (k a t i j : Int) (w : World) : Calls Try.prog 3 #[.agg #[.int .i64 k, .int .i64 a, .int .i64 t], .int .i64 i, .int .i64 j] w fun e w' => e = .returned (.bool true) ∧ Q w w' := by
  cases hm : mayB k a t
  · exact apart_out k a t i j w (.inl hm)
  · by_cases h : 0 ≤ i ∧ 0 ≤ j ∧ i ≤ 576460752303423488 ∧ j ≤ 576460752303423488
    · obtain ⟨g0, g1, g2, g3⟩ := h
      have hp := ap_of (j := j) hm g0 g1 g2 g3
      rcases may_k hm with rfl | rfl | rfl
      · exact apart_k1 a t i j _ _ _ w hm g0 g1 g2 g3 rfl rfl rfl hp
      · exact apart_k2 a t i j _ _ _ w hm g0 g1 g2 g3 rfl rfl rfl hp
      · exact apart_k3 a t i j _ _ _ w hm g0 g1 g2 g3 rfl rfl rfl hp
    · exact apart_out k a t i j w (.inr ⟨hm, by omega⟩)
end Go.Proofs.Ytkdapaebcjgckaa
