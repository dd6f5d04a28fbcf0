/- counterpaneref1.Parse of any t. -/
import Derived.Test.YtfjpdopmojfchaaGreatDoorKc08
set_option linter.unusedVariables false
set_option linter.unusedSimpArgs false
set_option maxRecDepth 100000
set_option maxHeartbeats 8000000
namespace Go.Proofs.YtfjpdopmojfchaaGreatDoor
open Go.RowKit
theorem list_head (s : ByteArray) (h : 0 < s.size) : s.data.toList = s[0] :: s.data.toList.drop 1 := by
  have h' : 0 < s.data.toList.length := by simpa using h
  have e : s[0] = s.data.toList[0]'h' := rfl
  rw [e]
  have := List.drop_eq_getElem_cons h'
  rw [List.drop_zero] at this
  exact this
theorem rparse_any (s : ByteArray) (w : World) (hs : (s.size : Int) ≤ 1000000) :
    Calls Tryz.prog 97 #[.string s] w fun e w' => RP (parseO s.data.toList) e ∧ Q w w' := by
  rw [parseO_eq]
  rcases Nat.eq_zero_or_pos s.size with h | h
  · have e : s.data.toList = [] := List.eq_nil_of_length_eq_zero (by simpa using h)
    have h1 : Lib.hasPrefix s.data.toList [45] = false := by rw [e]; rfl
    have h2 : Lib.trimPrefix s.data.toList [45] = s.data.toList := by unfold Lib.trimPrefix; rw [h1]; rfl
    rw [h1, h2]
    exact rparse_core s s false w hs (.inl ⟨h, rfl, rfl⟩)
  · by_cases hc : s[0] = 45
    · have h1 : Lib.hasPrefix s.data.toList [45] = true := by
        rw [list_head s h, hc]
        unfold Lib.hasPrefix
        simp
      have h2 : Lib.trimPrefix s.data.toList [45] = (s.extract 1 s.size).data.toList := by
        unfold Lib.trimPrefix
        rw [h1, Lib.extract_data, List.take_of_length_le (by simp)]
        rfl
      rw [h1, h2]
      exact rparse_core s (s.extract 1 s.size) true w (by simp only [ByteArray.size_extract]; omega) (.inr (.inl ⟨h, hc, rfl, rfl⟩))
    · have h1 : Lib.hasPrefix s.data.toList [45] = false := by
        rw [list_head s h]
        unfold Lib.hasPrefix
        rw [List.isPrefixOf_cons_cons, List.isPrefixOf_nil_left, Bool.and_true, beq_eq_false_iff_ne]
        exact Ne.symm hc
      have h2 : Lib.trimPrefix s.data.toList [45] = s.data.toList := by unfold Lib.trimPrefix; rw [h1]; rfl
      rw [h1, h2]
      exact rparse_core s s false w hs (.inr (.inr ⟨h, hc, rfl, rfl⟩))
end Go.Proofs.YtfjpdopmojfchaaGreatDoor
