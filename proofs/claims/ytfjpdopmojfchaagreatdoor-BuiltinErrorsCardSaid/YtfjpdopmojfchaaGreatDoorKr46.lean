/- BuiltinErrors: the walk, of any slice of values and any number. -/
import Derived.Test.YtfjpdopmojfchaaGreatDoorKr38
import Derived.Test.YtfjpdopmojfchaaGreatDoorKr39
import Derived.Test.YtfjpdopmojfchaaGreatDoorKr40
import Derived.Test.YtfjpdopmojfchaaGreatDoorKr41
import Derived.Test.YtfjpdopmojfchaaGreatDoorKr34
import Derived.Test.YtfjpdopmojfchaaGreatDoorKr42
set_option linter.unusedVariables false
set_option linter.unusedSimpArgs false
namespace Go.Proofs.YtfjpdopmojfchaaGreatDoor
open Go.RowKit
theorem err_any_k (k : Int) (X0 : List Cv) (v : Value) (w : World) (hw : Std2 w) (h : Sl Cv.cells 5 w v X0) (hF : ∀ x ∈ X0, Fx x.n) : Calls Tryz.prog 8 #[v, .int .i64 k] w fun r w' => r = .returned (.bool true) ∧ Q w w' := by
  obtain ⟨n, hn⟩ : ∃ n, (X0.length ≤ 5 ∧ n = X0.length) ∨ (5 < X0.length ∧ n = 5) := by
    rcases Nat.lt_or_ge 5 X0.length with h | h
    · exact ⟨5, .inr ⟨h, rfl⟩⟩
    · exact ⟨X0.length, .inl ⟨h, rfl⟩⟩
  by_cases h0 : k < 0
  · exact err_walk_n k h0 X0 n hn v w hw h hF
  by_cases h5 : 5 < k
  · exact err_walk_g k h5 X0 n hn v w hw h hF
  rcases (by omega : k = 0 ∨ k = 1 ∨ k = 2 ∨ k = 3 ∨ k = 4 ∨ k = 5) with rfl | rfl | rfl | rfl | rfl | rfl
  · exact err_walk_0 0 X0 n hn v w hw h hF
  · exact err_walk_1 0 X0 n hn v w hw h hF
  · exact err_walk_2 0 X0 n hn v w hw h hF
  · rcases Nat.lt_or_ge 1 ((X0.take n).map Cv.cut).length with hx | hx
    · exact err_walk_3c 0 X0 n hn hx v w hw h hF
    · exact err_walk_3p 0 X0 n hn hx v w hw h hF
  · rcases Nat.lt_or_ge 1 ((X0.take n).map Cv.cut).length with hx | hx
    · exact err_walk_4c 0 X0 n hn hx v w hw h hF
    · exact err_walk_4p 0 X0 n hn hx v w hw h hF
  · rcases Nat.lt_or_ge 1 ((X0.take n).map Cv.cut).length with hx | hx
    · exact err_walk_5c 0 X0 n hn hx v w hw h hF
    · exact err_walk_5p 0 X0 n hn hx v w hw h hF
end Go.Proofs.YtfjpdopmojfchaaGreatDoor
