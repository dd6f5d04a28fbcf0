/- How long a word is, plainly. -/
import Derived.Test.YtkipbcimjmialaaDoorLz
namespace Go.Proofs.YtkipbcimjmialaaDoor
open Go.RowKit
set_option linter.unusedVariables false
set_option linter.unusedSimpArgs false


theorem quoF_le : ∀ (l acc : List UInt8) (n : Nat) (t : List UInt8) (m : Nat), quoF l acc n = some (t, m) → n < m ∧ m ≤ n + l.length
  | [], _, _, _, _, h => by simp [quoF] at h
  | [c], acc, n, t, m, h => by
    unfold quoF at h
    split at h
    · simp only [Option.some.injEq, Prod.mk.injEq] at h
      simp
      omega
    · cases h
  | c :: d :: r, acc, n, t, m, h => by
    unfold quoF at h
    split at h
    · split at h
      · have := quoF_le r _ _ _ _ h
        simp
        omega
      · simp only [Option.some.injEq, Prod.mk.injEq] at h
        simp
        omega
    · have := quoF_le (d :: r) _ _ _ _ h
      simp at this ⊢
      omega
theorem prefix_len {l p : List UInt8} (h : Lib.hasPrefix l p = true) : p.length ≤ l.length := by
  unfold Lib.hasPrefix at h
  rw [List.isPrefixOf_iff_prefix] at h
  exact h.length_le
theorem len_tw (l : List UInt8) (p : UInt8 → Bool) : (l.takeWhile p).length ≤ l.length := (List.takeWhile_prefix _).length_le
theorem word_len (l : List UInt8) : (wordF l).2.2 ≤ l.length := by
  unfold wordF
  split
  · rename_i h
    have hl : 0 < l.length := by
      cases l with
      | nil => exact absurd h (by decide)
      | cons c r => simp
    unfold quoW
    cases hq : quoF (l.drop 1) [] 1 with
    | none => simp [quoP, bad]
    | some p =>
      obtain ⟨t, m⟩ := p
      have := quoF_le _ _ _ _ _ hq
      simp only [quoP]
      split
      · rw [List.length_drop] at this
        simp only
        omega
      · simp [bad]
  · split
    · unfold errW
      cases he : errF l with
      | none => simp [errP, bad]
      | some e =>
        unfold errF at he
        have h2 := List.find?_some he
        exact prefix_len h2
    · split
      · unfold joinW
        split
        · simp [bad]
        · exact len_tw _ _
      · unfold sigW
        cases he : sigF l with
        | none => simp [sigP, bad]
        | some e =>
          unfold sigF at he
          have h2 := List.find?_some he
          exact prefix_len h2
end Go.Proofs.YtkipbcimjmialaaDoor
