/- counterpanelaw5.begun returns true. -/
import Derived.Test.YtjadlkmjahcepaaDoorG2
import Derived.Test.YtjadlkmjahcepaaDoorF2
namespace Go.Proofs.YtjadlkmjahcepaaDoor
open Go.RowKit
set_option linter.unusedVariables false
set_option linter.unusedSimpArgs false

theorem lit_refF : refF [99, 49, 110, 50, 33, 36, 65, 66, 55] = true := by decide +kernel
theorem lit_refT : refT [99, 49, 110, 50, 33, 36, 65, 66, 55] = ([99, 49, 110, 50], 6, 27, false, true) := by decide +kernel
theorem lit_col : colF [65, 65] = true ∧ colK [65, 65] = 26 := by decide +kernel
theorem lit_own : ownK [99, 49, 53, 110, 51] = 15 ∧ idB [99, 48, 110, 48] = true := by decide +kernel
theorem lit_cn (l : List UInt8) (n : Int) (h : allL l = true) (h0 : 0 ≤ n) (h1 : n < 2199023255552) (e : (n + 1).toNat = colV l) : cnL n = l := by
  unfold cnL
  rw [if_pos ⟨h0, h1⟩, e]
  exact nm_colV l h
theorem lit_pr : prR [99, 49, 110, 50] 6 27 false true = [99, 49, 110, 50, 33, 36, 65, 66, 55] := by
  unfold prR
  rw [show mayR [99, 49, 110, 50] 6 27 = true by decide +kernel]
  unfold prL
  rw [lit_cn [65, 66] 27 (by decide +kernel) (by omega) (by omega) (by decide +kernel), show ((6 : Int) + 1).toNat = 7 from rfl, Lib.decDigits_one (by omega)]
  decide +kernel
set_option maxRecDepth 100000 in
set_option maxHeartbeats 2000000 in
theorem begun_any (w : World) (hw : Std w) :
    Calls Tryd.prog 6 #[] w fun e w' => e = .returned (.bool true) ∧ Q w w' := by
  have HP : Hid (∀ W, Q w W → Calls Tryd.prog 8 #[.string ⟨#[99, 49, 110, 50, 33, 36, 65, 66, 55]⟩] W fun e w' => e = .returned (.tuple #[rv ⟨#[99, 49, 110, 50]⟩ 6 27 false true, .bool true]) ∧ Q W w') := fun W q => by
    have h := parse_any ⟨#[99, 49, 110, 50, 33, 36, 65, 66, 55]⟩ W (hw.on q) (by decide +kernel)
    rw [show (⟨#[99, 49, 110, 50, 33, 36, 65, 66, 55]⟩ : ByteArray).data.toList = [99, 49, 110, 50, 33, 36, 65, 66, 55] from rfl, lit_refF, lit_refT] at h
    exact h
  have HC : Hid (∀ W, Calls Tryd.prog 10 #[.string ⟨#[65, 65]⟩] W fun e w' => e = .returned (.tuple #[.int .i64 26, .bool true]) ∧ w' = W) := fun W => by
    have h := col_any ⟨#[65, 65]⟩ W (by decide +kernel)
    rw [show (⟨#[65, 65]⟩ : ByteArray).data.toList = [65, 65] from rfl, lit_col.1, lit_col.2] at h
    exact h
  have HR : Hid (∀ W, Q w W → Calls Tryd.prog 17 #[rv ⟨#[99, 49, 110, 50]⟩ 6 27 false true] W fun e w' => e = .returned (.string ⟨#[99, 49, 110, 50, 33, 36, 65, 66, 55]⟩) ∧ Q W w') := fun W q => by
    have h := print_any ⟨#[99, 49, 110, 50]⟩ 6 27 false true W (hw.on q) (by decide +kernel)
    rw [show (⟨#[99, 49, 110, 50]⟩ : ByteArray).data.toList = [99, 49, 110, 50] from rfl, lit_pr] at h
    exact h
  have HN : Hid (∀ W, Calls Tryd.prog 19 #[.int .i64 26] W fun e w' => e = .returned (.string ⟨#[65, 65]⟩) ∧ Q W w') := fun W => by
    have h := name_any 26 W
    rw [lit_cn [65, 65] 26 (by decide +kernel) (by omega) (by omega) (by decide +kernel)] at h
    exact h
  have HI : Hid (∀ W, Q w W → Calls Tryd.prog 13 #[.string ⟨#[99, 48, 110, 48]⟩] W fun e w' => e = .returned (.bool true) ∧ Q W w') := fun W q => by
    have h := id_any ⟨#[99, 48, 110, 48]⟩ W (hw.on q) (by decide +kernel)
    rw [show (⟨#[99, 48, 110, 48]⟩ : ByteArray).data.toList = [99, 48, 110, 48] from rfl, lit_own.2] at h
    exact h
  have HO : Hid (∀ W, Q w W → Calls Tryd.prog 15 #[.string ⟨#[99, 49, 53, 110, 51]⟩] W fun e w' => e = .returned (.int .i64 15) ∧ Q W w') := fun W q => by
    have h := owner_any ⟨#[99, 49, 53, 110, 51]⟩ W (hw.on q) (by decide +kernel)
    rw [show (⟨#[99, 49, 53, 110, 51]⟩ : ByteArray).data.toList = [99, 49, 53, 110, 51] from rfl, lit_own.1] at h
    exact h
  clear hw
  go_enter Tryd.func6, Tryd.ntmps6
  go_wp2_with (first
    | (go_at_call 8; refine (HP.out _ (Q.refl _)).mono ?_; rintro e w1 ⟨rfl, q1⟩; have J := hid (q1.alloc (.cells #[.string ⟨#[99, 49, 110, 50]⟩, .int .i64 6, .int .i64 27, .bool false, .bool true] 25)))
    | (go_at_call 10; refine (HC.out _).mono ?_; rintro e w2 ⟨rfl, rfl⟩)
    | (go_at_call 17; refine (HR.out _ J.out).mono ?_; rintro e w3 ⟨rfl, q3⟩; replace J := hid (J.out.trans q3))
    | (go_at_call 19; refine (HN.out _).mono ?_; rintro e w4 ⟨rfl, q4⟩; replace J := hid (J.out.trans q4))
    | (go_at_call 13; refine (HI.out _ J.out).mono ?_; rintro e w5 ⟨rfl, q5⟩; replace J := hid (J.out.trans q5))
    | (go_at_call 15; refine (HO.out _ J.out).mono ?_; rintro e w6 ⟨rfl, q6⟩; replace J := hid (J.out.trans q6)))
  go_ret
  exact ⟨rfl, J.out⟩
end Go.Proofs.YtjadlkmjahcepaaDoor
