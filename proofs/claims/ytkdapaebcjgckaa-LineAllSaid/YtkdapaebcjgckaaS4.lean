/- counterpanelaw3.LineSides: the walk, whole. -/
import Derived.Test.YtkdapaebcjgckaaS3
namespace Go.Proofs.Ytkdapaebcjgckaa
open Go.RowKit
set_option linter.unusedVariables false

theorem sides_walk (k a t k' a' t' i : Int) (w : World) : Calls Try.prog 5 #[.agg #[.int .i64 k, .int .i64 a, .int .i64 t], .agg #[.int .i64 k', .int .i64 a', .int .i64 t'], .int .i64 i] w fun e w' => e = .returned (.bool true) ∧ Q w w' := by
  cases hm : mayB k a t
  · exact sides_out k a t k' a' t' i w (.inl hm)
  · cases hm' : mayB k' a' t'
    · exact sides_out k a t k' a' t' i w (.inr ⟨hm, .inl hm'⟩)
    · by_cases h : a ≤ 1099511627776 ∧ t ≤ 1099511627776 ∧ a' ≤ 1099511627776 ∧ t' ≤ 1099511627776 ∧ 0 ≤ i ∧ i ≤ 1125899906842624
      · obtain ⟨h2, h3, h4, h5, h0, h1⟩ := h
        refine sides_in k a t k' a' t' i _ _ _ _ _ _ _ _ w hm hm' h0 h1 h2 h3 h4 h5 rfl rfl rfl rfl rfl rfl rfl rfl ?_ ?_ ?_
        · intro n n0 n1
          exact en_eq hm hm' h2 h3 h4 h5 (by decide) n0 n1
        · rintro rfl
          exact md_eq true hm hm' h2 h3 h4 h5 (by decide) rfl
        · rintro rfl
          exact md_eq' hm' hm h4 h5 h2 h3 (by decide)
      · exact sides_out k a t k' a' t' i w (.inr ⟨hm, .inr ⟨hm', by omega⟩⟩)
end Go.Proofs.Ytkdapaebcjgckaa
