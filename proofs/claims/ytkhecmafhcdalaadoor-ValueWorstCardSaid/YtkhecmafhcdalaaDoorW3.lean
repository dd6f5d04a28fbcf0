/- What every statement of this layer asks first: some values are told. -/
import Derived.Test.YtkhecmafhcdalaaDoorW2
import Derived.Test.YtkhecmafhcdalaaDoorV6
namespace Go.Proofs.YtkhecmafhcdalaaDoor
open Go.RowKit
set_option linter.unusedVariables false
set_option linter.unusedSimpArgs false

theorem txt_list (a : Array UInt8) : (⟨a⟩ : ByteArray).toList = a.toList := Lib.toList_data _

theorem b2_number (w : World) (hw : Std2 w) :
    Calls Tryd.prog 15 #[.agg #[.int .i64 2, .int .i64 0, .string ⟨#[50, 46, 53]⟩, .bool false, .int .i64 0]] w fun e w' => e = .returned (.tuple #[.int .i64 25000, .int .i64 0]) ∧ Q w w' := by
  refine (number_vk 2 0 ⟨#[50, 46, 53]⟩ false 0 w hw (by decide) (Vk.text _ ?_)).mono ?_
  · rw [txt_list]; decide +kernel
  · rintro e w' ⟨rfl, q⟩
    refine ⟨vret_ii ?_ ?_, q⟩
    · rw [txt_list]; decide +kernel
    · rw [txt_list]; decide +kernel

theorem b2_text (w : World) (hw : Std2 w) :
    Calls Tryd.prog 17 #[.agg #[.int .i64 3, .int .i64 0, .string ⟨#[]⟩, .bool true, .int .i64 0]] w fun e w' => e = .returned (.tuple #[.string ⟨#[84, 82, 85, 69]⟩, .int .i64 0]) ∧ Q w w' := by
  refine (text_vk 3 0 ⟨#[]⟩ true 0 w hw (by decide) ⟨by decide, by decide⟩ (Vk.bool true)).mono ?_
  rintro e w' ⟨rfl, q⟩
  exact ⟨rfl, q⟩

theorem b2_cmp (w : World) (hw : Std2 w) :
    Calls Tryd.prog 23 #[.agg #[.int .i64 1, .int .i64 1, .string ⟨#[]⟩, .bool false, .int .i64 0], .agg #[.int .i64 2, .int .i64 0, .string ⟨#[]⟩, .bool false, .int .i64 0]] w fun e w' => e = .returned (.int .i64 (-1)) ∧ Q w w' := by
  refine (compare_any 1 1 ⟨#[]⟩ false 0 2 0 ⟨#[]⟩ false 0 w hw (by decide) (by decide)).mono ?_
  rintro e w' ⟨rfl, q⟩
  refine ⟨ret_int ?_, q⟩
  rw [nil_list]
  decide +kernel

theorem b2_may (w : World) (hw : Std2 w) :
    Calls Tryd.prog 21 #[.agg #[.int .i64 0, .int .i64 0, .string ⟨#[]⟩, .bool false, .int .i64 0]] w fun e w' => e = .returned (.bool true) ∧ Q w w' := by
  refine (may_any 0 0 ⟨#[]⟩ false 0 w hw (by decide)).mono ?_
  rintro e w' ⟨rfl, q⟩
  exact ⟨vret_bool (Vk.may Vk.blank), q⟩

theorem b2_name (w : World) (hw : Std2 w) :
    Calls Tryd.prog 27 #[.int .i64 1] w fun e w' => e = .returned (.string ⟨#[35, 82, 69, 70, 33]⟩) ∧ w' = w := by
  refine (name_any 1 w hw.nam).mono ?_
  rintro e w' ⟨rfl, q⟩
  exact ⟨rfl, q⟩

theorem b2_worst (w : World) (b : Nat) (hw : Std2 w) (h0 : At5 w b 0 ⟨4, 0, ⟨#[]⟩, false, 4⟩) (h1 : At5 w b 5 ⟨4, 0, ⟨#[]⟩, false, 2⟩) :
    Calls Tryd.prog 30 #[.slice (some ⟨b, 0, none⟩) 2 2] w fun e w' => e = .returned (.int .i64 2) ∧ Q w w' := by
  refine (worst_row b 0 2 2 [⟨4, 0, ⟨#[]⟩, false, 4⟩, ⟨4, 0, ⟨#[]⟩, false, 2⟩] w hw rfl (by decide) ?_ ?_).mono ?_
  · intro i hi
    match i, hi with
    | 0, _ => decide
    | 1, _ => decide
  · intro i hi
    match i, hi with
    | 0, _ => exact h0
    | 1, _ => exact h1
  · rintro e w' ⟨rfl, q⟩
    refine ⟨ret_int ?_, q⟩
    have m4 : Cv.may ⟨4, 0, ⟨#[]⟩, false, 4⟩ = true := Vk.may (Vk.err 4 (by decide) (by decide))
    have m2 : Cv.may ⟨4, 0, ⟨#[]⟩, false, 2⟩ = true := Vk.may (Vk.err 2 (by decide) (by decide))
    unfold worst
    simp only [List.foldl_cons, List.foldl_nil]
    unfold wstep
    rw [m4, m2]
    simp

set_option maxHeartbeats 2000000 in
theorem begun2_any (w : World) (hw : Std2 w) :
    Calls Tryd.prog 13 #[] w fun e w' => e = .returned (.bool true) ∧ Q w w' := by
  have HW := hid hw
  clear hw
  have R : Q w w := Q.refl w
  go_enter Tryd.func13, Tryd.ntmps13
  go_wp2_with (first
    | (go_at_call 50; refine (txt_any _ _).mono ?_; rintro e w1 ⟨rfl, q1⟩; unfold vv; replace R := R.trans q1; clear q1)
    | (go_at_call 15; refine (b2_number _ (HW.out.on R)).mono ?_; rintro e w1 ⟨rfl, q1⟩; replace R := R.trans q1; clear q1)
    | (go_at_call 51; refine (boo_any _ _).mono ?_; rintro e w1 ⟨rfl, q1⟩; unfold vv; replace R := R.trans q1; clear q1)
    | (go_at_call 17; refine (b2_text _ (HW.out.on R)).mono ?_; rintro e w1 ⟨rfl, q1⟩; replace R := R.trans q1; clear q1)
    | (go_at_call 52; refine (num_any _ _).mono ?_; rintro e w1 ⟨rfl, q1⟩; unfold vv; replace R := R.trans q1; clear q1)
    | (go_at_call 23; refine (b2_cmp _ (HW.out.on R)).mono ?_; rintro e w1 ⟨rfl, q1⟩; replace R := R.trans q1; clear q1)
    | (go_at_call 53; refine (err_any _ _).mono ?_; rintro e w1 ⟨rfl, q1⟩; unfold vv; replace R := R.trans q1; clear q1)
    | (go_at_call 27; refine (b2_name _ (HW.out.on R)).mono ?_; rintro e w1 ⟨rfl, rfl⟩)
    | (go_at_call 21; refine (b2_may _ (HW.out.on R)).mono ?_; rintro e w1 ⟨rfl, q1⟩; replace R := R.trans q1; clear q1))
  refine (b2_worst _ w1.heap.size (HW.out.on (R.alloc _)) ?_ ?_).mono ?_
  · constructor <;> simp [World.cell?_alloc_new]
  · constructor <;> simp [World.cell?_alloc_new]
  rintro e w2 ⟨rfl, q2⟩
  replace R := (R.alloc _).trans q2
  clear q2
  go_wp2_with (first
    | (go_at_call 27; refine (b2_name _ (HW.out.on R)).mono ?_; rintro e w3 ⟨rfl, rfl⟩)
    | (go_at_call 21; refine (b2_may _ (HW.out.on R)).mono ?_; rintro e w3 ⟨rfl, q1⟩; replace R := R.trans q1; clear q1))
  go_ret
  exact ⟨rfl, R⟩
end Go.Proofs.YtkhecmafhcdalaaDoor
