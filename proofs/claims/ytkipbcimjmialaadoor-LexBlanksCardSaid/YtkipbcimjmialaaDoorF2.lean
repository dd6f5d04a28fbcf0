/- a1.Parse: what it returns. -/
import Derived.Test.YtkipbcimjmialaaDoorF1
namespace Go.Proofs.YtkipbcimjmialaaDoor
open Go.RowKit
set_option linter.unusedVariables false
set_option linter.unusedSimpArgs false

set_option maxHeartbeats 1000000 in
theorem parse_any (s : ByteArray) (w : World) (hw : Std w) (hs : s.size ≤ 4000000000) :
    Calls Tryd.prog 41 #[.string s] w fun e w' => e = .returned (.tuple #[refA (refT s.data.toList), .bool (refF s.data.toList)]) ∧ Q w w' := by
  have HC : ∀ W, Q w W → Calls Tryd.prog 48 #[.string s, .string ⟨#[33]⟩] W fun e w' => e = .returned (.tuple #[.string ⟨(Lib.cut s.data.toList [33]).1.toArray⟩, .string ⟨(Lib.cut s.data.toList [33]).2.1.toArray⟩, .bool (Lib.cut s.data.toList [33]).2.2]) ∧ ∃ n, w' = W.drewN n := by
    intro W q
    obtain ⟨m, hm⟩ := (hw.on q).len
    exact Tryd.strings_Cut s ⟨#[33]⟩ m W (by omega) hm
  have hcl := cut_le 33 s.data.toList
  rw [len_data] at hcl
  obtain ⟨p, ec⟩ : ∃ p, Lib.cut s.data.toList [33] = p := ⟨_, rfl⟩
  rw [ec] at HC hcl
  obtain ⟨a, b, f⟩ := p
  simp only at HC hcl
  cases f
  · obtain ⟨e1, e2⟩ := ref_free ec
    rw [e1, e2]
    obtain ⟨T, E, R, G, ht⟩ := tail_of s (by first | omega | (rw [size_mk]; omega))
    cases hcf : colF ((Lib.trimPrefix s.data.toList [36]).takeWhile let1)
    · have e : tailF s.data.toList = false := by unfold tailF; rw [hcf]; rfl
      rw [e]
      rw [hcf] at ht
      exact (parse_f1 s _ _ _ _ _ _ _ _ _ _ _ _ w HC ht).mono fun e w' h => h
    cases hnf : numF (Lib.trimPrefix ((Lib.trimPrefix s.data.toList [36]).dropWhile let1) [36]) 2199023255552
    · have e : tailF s.data.toList = false := by unfold tailF; rw [hcf, hnf]; rfl
      rw [e]
      rw [hcf, hnf] at ht
      exact (parse_f2 s _ _ _ _ _ _ _ _ _ _ _ w HC ht).mono fun e w' h => h
    have hrow : numK (Lib.trimPrefix ((Lib.trimPrefix s.data.toList [36]).dropWhile let1) [36]) 2199023255552 = (val (Lib.trimPrefix ((Lib.trimPrefix s.data.toList [36]).dropWhile let1) [36]) : Int) := by unfold numK; rw [hnf]; rfl
    have hcol : colK ((Lib.trimPrefix s.data.toList [36]).takeWhile let1) = (colV ((Lib.trimPrefix s.data.toList [36]).takeWhile let1) : Int) - 1 := by unfold colK; rw [hcf]; rfl
    rw [hcf, hnf, hrow, hcol] at ht
    by_cases h0 : val (Lib.trimPrefix ((Lib.trimPrefix s.data.toList [36]).dropWhile let1) [36]) = 0
    · have e : tailF s.data.toList = false := by unfold tailF; rw [hcf, hnf, h0]; rfl
      rw [e]
      exact (parse_f3 s _ _ _ _ _ _ _ _ _ _ _ w HC ht (by rw [h0]; rfl)).mono fun e w' h => h
    · have e : tailF s.data.toList = true := by unfold tailF; rw [hcf, hnf, decide_eq_true h0]; rfl
      rw [e]
      exact (parse_f4 s _ _ _ _ _ _ _ _ _ _ _ w HC ht (fun W => clone_any ⟨#[]⟩ W (by first | decide | (rw [size_mk]; omega))) (by rw [beq_eq_false_iff_ne]; omega)).mono fun e w' h => h
  · obtain ⟨e1, e2⟩ := ref_other ec
    rw [e1, e2]
    have HI := fun W (q : Q w W) => id_any ⟨a.toArray⟩ W (hw.on q) (by rw [size_mk]; omega)
    simp only at HI
    cases hi : idB a
    · rw [hi] at HI
      exact (parse_n s ⟨b.toArray⟩ _ ⟨#[]⟩ ⟨#[]⟩ ⟨#[]⟩ ⟨#[]⟩ 0 false false 0 0 w HC HI).mono fun e w' h => h
    rw [hi] at HI
    rw [Bool.true_and]
    obtain ⟨T, E, R, G, ht⟩ := tail_of ⟨b.toArray⟩ (by first | omega | (rw [size_mk]; omega))
    cases hcf : colF ((Lib.trimPrefix b [36]).takeWhile let1)
    · have e : tailF b = false := by unfold tailF; rw [hcf]; rfl
      rw [e]
      rw [hcf] at ht
      exact (parse_o1 s _ _ _ _ _ _ _ _ _ _ _ _ w HC HI ht).mono fun e w' h => h
    cases hnf : numF (Lib.trimPrefix ((Lib.trimPrefix b [36]).dropWhile let1) [36]) 2199023255552
    · have e : tailF b = false := by unfold tailF; rw [hcf, hnf]; rfl
      rw [e]
      rw [hcf, hnf] at ht
      exact (parse_o2 s _ _ _ _ _ _ _ _ _ _ _ w HC HI ht).mono fun e w' h => h
    have hrow : numK (Lib.trimPrefix ((Lib.trimPrefix b [36]).dropWhile let1) [36]) 2199023255552 = (val (Lib.trimPrefix ((Lib.trimPrefix b [36]).dropWhile let1) [36]) : Int) := by unfold numK; rw [hnf]; rfl
    have hcol : colK ((Lib.trimPrefix b [36]).takeWhile let1) = (colV ((Lib.trimPrefix b [36]).takeWhile let1) : Int) - 1 := by unfold colK; rw [hcf]; rfl
    rw [hcf, hnf, hrow, hcol] at ht
    by_cases h0 : val (Lib.trimPrefix ((Lib.trimPrefix b [36]).dropWhile let1) [36]) = 0
    · have e : tailF b = false := by unfold tailF; rw [hcf, hnf, h0]; rfl
      rw [e]
      exact (parse_o3 s _ _ _ _ _ _ _ _ _ _ _ w HC HI ht (by rw [h0]; rfl)).mono fun e w' h => h
    · have e : tailF b = true := by unfold tailF; rw [hcf, hnf, decide_eq_true h0]; rfl
      rw [e]
      exact (parse_o4 s _ _ _ _ _ _ _ _ _ _ _ w HC HI ht (fun W => clone_any ⟨a.toArray⟩ W (by first | decide | (rw [size_mk]; omega))) (by rw [beq_eq_false_iff_ne]; omega)).mono fun e w' h => h
end Go.Proofs.YtkipbcimjmialaaDoor
