/- BuiltinWorst: the walk, of any slice of values and any number. -/
import Derived.Test.YtfjpdopmojfchaaGreatDoorKr53
import Derived.Test.YtfjpdopmojfchaaGreatDoorKr55
import Derived.Test.YtfjpdopmojfchaaGreatDoorKr57
import Derived.Test.YtfjpdopmojfchaaGreatDoorKr52
import Derived.Test.YtfjpdopmojfchaaGreatDoorKr51
import Derived.Test.YtfjpdopmojfchaaGreatDoorKr54
set_option linter.unusedVariables false
set_option linter.unusedSimpArgs false
namespace Go.Proofs.YtfjpdopmojfchaaGreatDoor
open Go.RowKit
theorem wor_any (k : Int) (X0 : List Cv) (v : Value) (w : World) (hw : Std2 w) (h : Sl Cv.cells 5 w v X0) (hf0 : ∀ x ∈ X0, Fx x.n) : Calls Tryz.prog 5 #[v, .int .i64 k] w fun r w' => r = .returned (.bool true) ∧ Q w w' := by
  rcases Nat.eq_zero_or_pos X0.length with h0 | h0
  · obtain ⟨ao, cap, rfl, _, _⟩ := h.len
    rw [h0]
    by_cases h1 : k < 0
    · exact wor_en k h1 ao cap w hw
    by_cases h2 : 0 < k
    · exact wor_eg k h1 h2 ao cap w hw
    obtain rfl : k = 0 := by omega
    exact wor_e0 ao cap w hw
  · obtain ⟨n, hn⟩ : ∃ n, (X0.length ≤ 12 ∧ n = X0.length) ∨ (12 < X0.length ∧ n = 12) := by
      rcases Nat.lt_or_ge 12 X0.length with h | h
      · exact ⟨12, .inr ⟨h, rfl⟩⟩
      · exact ⟨X0.length, .inl ⟨h, rfl⟩⟩
    obtain ⟨X, hX⟩ : ∃ X, (X0.take n).map Cv.cut = X := ⟨_, rfl⟩
    have hpos : 0 < X.length := by rw [← hX]; simp; omega
    have hfx : ∀ x ∈ X, Fx x.n := by
      intro x hx
      rw [← hX] at hx
      obtain ⟨y, hy, rfl⟩ := List.mem_map.1 hx
      exact hf0 y (List.mem_of_mem_take hy)
    by_cases h1 : k < 0
    · exact wor_neg k h1 X0 n hn X hX hpos v w hw h hfx
    by_cases h2 : (X.length : Int) < k
    · exact wor_big k h1 X0 n hn X hX h2 hpos v w hw h hfx
    obtain ⟨c, rfl⟩ : ∃ c : Nat, k = (c : Int) := ⟨k.toNat, by omega⟩
    exact wor_in c X0 n hn X hX (by omega) hpos v w hw h hfx
end Go.Proofs.YtfjpdopmojfchaaGreatDoor
