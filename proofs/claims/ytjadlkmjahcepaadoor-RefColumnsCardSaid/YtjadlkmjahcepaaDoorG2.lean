/- a1.Print: what it returns. -/
import Derived.Test.YtjadlkmjahcepaaDoorG1
namespace Go.Proofs.YtjadlkmjahcepaaDoor
open Go.RowKit
set_option linter.unusedVariables false
set_option linter.unusedSimpArgs false

set_option maxHeartbeats 1000000 in
theorem print_no (sh : ByteArray) (row col : Int) (ra ca f1 f2 fi : Bool) (w : World)
    (HM1 : Hid (∀ W, Calls Tryd.prog 28 #[.int .i64 row] W fun e w' => e = .returned (.bool f1) ∧ w' = W))
    (HM2 : Hid (∀ W, Calls Tryd.prog 28 #[.int .i64 col] W fun e w' => e = .returned (.bool f2) ∧ w' = W))
    (HI : Hid (∀ W, Q w W → Calls Tryd.prog 13 #[.string sh] W fun e w' => e = .returned (.bool fi) ∧ Q W w'))
    (h : f1 = false ∨ f2 = false ∨ ((sh.toList == []) = false ∧ fi = false)) :
    Calls Tryd.prog 17 #[rv sh row col ra ca] w fun e w' => e = .returned (.string ⟨#[]⟩) ∧ Q w w' := by
  cases f1
  · clear h
    go_enter Tryd.func17, Tryd.ntmps17
    go_wp2_with (first | (go_at_call_of 28 row; refine (HM1.out _).mono ?_; rintro e w1 ⟨rfl, rfl⟩) | (go_at_call_of 28 col; refine (HM2.out _).mono ?_; rintro e w1 ⟨rfl, rfl⟩))
    go_ret
    exact ⟨rfl, (Q.refl _).alloc _⟩
  cases f2
  · clear h
    go_enter Tryd.func17, Tryd.ntmps17
    go_wp2_with (first | (go_at_call_of 28 row; refine (HM1.out _).mono ?_; rintro e w1 ⟨rfl, rfl⟩) | (go_at_call_of 28 col; refine (HM2.out _).mono ?_; rintro e w1 ⟨rfl, rfl⟩))
    go_ret
    exact ⟨rfl, (Q.refl _).alloc _⟩
  obtain ⟨hE, rfl⟩ : (sh.toList == []) = false ∧ fi = false := by
    rcases h with h | h | h
    · cases h
    · cases h
    · exact h
  go_enter Tryd.func17, Tryd.ntmps17
  go_wp2_with (first | (go_at_call_of 28 row; refine (HM1.out _).mono ?_; rintro e w1 ⟨rfl, rfl⟩) | (go_at_call_of 28 col; refine (HM2.out _).mono ?_; rintro e w1 ⟨rfl, rfl⟩) | (go_at_call 13; refine (HI.out _ (by repeat (first | exact Q.refl _ | refine Q.drewN ?_ _ | refine Q.alloc ?_ _))).mono ?_; rintro e w3 ⟨rfl, q3⟩))
  go_ret
  exact ⟨rfl, ((Q.refl _).alloc _).trans q3⟩

theorem print_any (sh : ByteArray) (row col : Int) (ra ca : Bool) (w : World) (hw : Std w) (hs : sh.size ≤ 1000) :
    Calls Tryd.prog 17 #[rv sh row col ra ca] w fun e w' => e = .returned (.string ⟨(prR sh.data.toList row col ra ca).toArray⟩) ∧ Q w w' := by
  have HM1 := fun W => may_any row W
  have HM2 := fun W => may_any col W
  have HI := fun W (q : Q w W) => id_any sh W (hw.on q) (by omega)
  have et := Lib.toList_data sh
  unfold prR mayR
  cases h1 : decide (0 ≤ row ∧ row < 2199023255552)
  · rw [h1] at HM1
    refine (print_no sh row col ra ca _ _ _ w HM1 HM2 HI (.inl rfl)).mono fun e w' g => ⟨?_, g.2⟩
    rw [g.1, Bool.false_and, Bool.and_false]
    rfl
  cases h2 : decide (0 ≤ col ∧ col < 2199023255552)
  · rw [h2] at HM2
    refine (print_no sh row col ra ca _ _ _ w HM1 HM2 HI (.inr (.inl rfl))).mono fun e w' g => ⟨?_, g.2⟩
    rw [g.1, Bool.and_false, Bool.and_false]
    rfl
  rw [h1] at HM1
  rw [h2] at HM2
  have b1 := of_decide_eq_true h1
  have b2 := of_decide_eq_true h2
  obtain ⟨X1, X2, X3, hc⟩ := cat_of sh.data.toList row col ra ca (by rw [len_data]; exact hs) b1.1 b1.2
  have HF := fun W (q : Q w W) => fmt_any (row + 1) W (hw.on q) (by omega) (by omega)
  by_cases he : sh.toList = []
  · have he2 : sh.data.toList = [] := by rw [← et, he]
    rw [he2] at hc ⊢
    refine (print_plain sh ⟨#[]⟩ _ _ _ _ X1 X2 X3 _ row col ra ca w hs HM1 HM2 (by rw [he]; rfl) (fun W => sign_any ca W) (fun W => sign_any ra W) (fun W => name_any col W) HF b1.1 b1.2 hc).mono fun e w' g => ⟨?_, g.2⟩
    rw [g.1]
    rfl
  · have hei : sh.data.toList.isEmpty = false := by
      rw [← et]
      cases hh : sh.toList
      · exact absurd hh he
      · rfl
    cases hi : idB sh.data.toList
    · rw [hi] at HI
      refine (print_no sh row col ra ca _ _ _ w HM1 HM2 HI (.inr (.inr ⟨by simpa using he, rfl⟩))).mono fun e w' g => ⟨?_, g.2⟩
      rw [g.1, hei]
      rfl
    · rw [hi] at HI
      have eS : sh ++ ⟨#[33]⟩ = ⟨(shX sh.data.toList).toArray⟩ := by
        unfold shX
        rw [hei]
        have e := bytes_cat sh.data.toList [33]
        exact e
      refine (print_sheet sh _ _ _ _ _ X1 X2 X3 _ row col ra ca w hs HM1 HM2 (by simpa using he) HI eS (fun W => sign_any ca W) (fun W => sign_any ra W) (fun W => name_any col W) HF b1.1 b1.2 hc).mono fun e w' g => ⟨?_, g.2⟩
      rw [g.1, Bool.or_true]
      rfl
end Go.Proofs.YtjadlkmjahcepaaDoor
