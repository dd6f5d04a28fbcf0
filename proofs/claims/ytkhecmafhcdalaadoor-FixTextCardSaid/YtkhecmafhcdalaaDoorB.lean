/- What every statement of this layer asks first: some numbers are told. -/
import Derived.Test.YtkhecmafhcdalaaDoorF
import Derived.Test.YtkhecmafhcdalaaDoorS
namespace Go.Proofs.YtkhecmafhcdalaaDoor
open Go.RowKit

theorem fx_of (a : Int) (h0 : -9223372036854775808 ≤ a) (h1 : a ≤ 9223372036854775807) : Fx a := ⟨h0, h1⟩

theorem b_parse (w : World) (hw : Std w) :
    Calls Tryd.prog 8 #[.string ⟨#[45, 49, 50, 46, 53]⟩] w fun e w' => e = .returned (.tuple #[.int .i64 (-125000), .bool true]) ∧ Q w w' := by
  refine (parse_any ⟨#[45, 49, 50, 46, 53]⟩ w hw (by decide)).mono ?_
  rintro e w' ⟨rfl, hq⟩
  exact ⟨ret_two (by decide +kernel) (by decide +kernel), hq⟩

theorem b_mul (w : World) :
    Calls Tryd.prog 32 #[.int .i64 (-125000), .int .i64 20000] w fun e w' => e = .returned (.tuple #[.int .i64 (-250000), .bool true]) ∧ Q w w' := by
  refine (mul_any (-125000) 20000 w ⟨by omega, by omega⟩ ⟨by omega, by omega⟩).mono ?_
  rintro e w' ⟨rfl, hq⟩
  exact ⟨ret_two (by decide +kernel) (by decide +kernel), hq⟩

theorem b_div (w : World) :
    Calls Tryd.prog 33 #[.int .i64 10000, .int .i64 30000] w fun e w' => e = .returned (.tuple #[.int .i64 3333, .bool true]) ∧ Q w w' := by
  refine (div_any 10000 30000 w ⟨by omega, by omega⟩ ⟨by omega, by omega⟩ (by decide)).mono ?_
  rintro e w' ⟨rfl, hq⟩
  exact ⟨ret_two (by decide +kernel) (by decide +kernel), hq⟩

theorem b_print (w : World) (hw : Std w) :
    Calls Tryd.prog 10 #[.int .i64 (-250000)] w fun e w' => e = .returned (.string ⟨#[45, 50, 53]⟩) ∧ Q w w' := by
  refine (print_any (-250000) w hw ⟨by omega, by omega⟩ (by decide)).mono ?_
  rintro e w' ⟨rfl, hq⟩
  refine ⟨ret_str ?_, hq⟩
  have : printL (-250000) = [45, 50, 53] := by
    unfold printL magL partL
    rw [if_pos (by omega), if_pos (by decide)]
    show 45 :: (Lib.decDigits 25 ++ []) = _
    rw [Lib.decDigits_two (by omega) (by omega)]
    rfl
  rw [this]

theorem b_sum (w : World) (b : Nat) (hc : ∀ i, i < 3 → w.cell? ⟨b, 0 + i, none⟩ = some (.int .i64 (([1, 2, 3] : List Int).getD i 0))) :
    Calls Tryd.prog 34 #[.slice (some ⟨b, 0, none⟩) 3 3] w fun e w' => e = .returned (.tuple #[.int .i64 6, .bool true]) ∧ Q w w' := by
  refine (sum_row b 0 3 3 [1, 2, 3] w rfl (by omega) ?_ hc).mono ?_
  · intro i hi
    match i, hi with
    | 0, _ => exact ⟨by decide, by decide⟩
    | 1, _ => exact ⟨by decide, by decide⟩
    | 2, _ => exact ⟨by decide, by decide⟩
  · rintro e w' ⟨rfl, hq⟩
    exact ⟨ret_two (by decide +kernel) (by decide +kernel), hq⟩

set_option maxHeartbeats 400000 in
theorem begun_any (w : World) (hw : Std w) :
    Calls Tryd.prog 7 #[] w fun e w' => e = .returned (.bool true) ∧ Q w w' := by
  go_enter Tryd.func7, Tryd.ntmps7
  go_wp2_with (first
    | (go_at_call 8; refine (b_parse _ hw).mono ?_; rintro e w1 ⟨rfl, q1⟩)
    | (go_at_call 32; refine (b_mul _).mono ?_; rintro e w2 ⟨rfl, q2⟩)
    | (go_at_call 33; refine (b_div _).mono ?_; rintro e w3 ⟨rfl, q3⟩))
  refine (b_sum _ w3.heap.size ?_).mono ?_
  · intro i hi
    match i, hi with
    | 0, _ => simp [World.cell?_alloc_new]
    | 1, _ => simp [World.cell?_alloc_new]
    | 2, _ => simp [World.cell?_alloc_new]
  rintro e w4 ⟨rfl, q4⟩
  have Q3 := ((q1.trans q2).trans q3).trans (((Q.refl w3).alloc _).trans q4)
  go_wp2_with (go_at_call 10; refine (b_print _ (hw.on Q3)).mono ?_; rintro e w5 ⟨rfl, q5⟩)
  go_ret
  exact ⟨rfl, Q3.trans q5⟩
end Go.Proofs.YtkhecmafhcdalaaDoor
