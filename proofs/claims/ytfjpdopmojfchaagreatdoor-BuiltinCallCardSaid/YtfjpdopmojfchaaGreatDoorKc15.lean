/- counterpaneref1.Add and Sub; t. -/
import Derived.Test.YtfjpdopmojfchaaGreatDoorKc14
import Derived.Test.YtfjpdopmojfchaaGreatDoorKc12
import Derived.Test.YtfjpdopmojfchaaGreatDoorKc05
set_option linter.unusedVariables false
set_option linter.unusedSimpArgs false
set_option maxRecDepth 100000
set_option maxHeartbeats 8000000
namespace Go.Proofs.YtfjpdopmojfchaaGreatDoor
open Go.RowKit
theorem rsum_two (a b : Int) (w : World) (ha : Fx a) (hb : Fx b) :
    Calls Tryz.prog 77 #[.slice (some ⟨w.heap.size, 0, none⟩) 2 2] (w.alloc (.cells #[.int .i64 a, .int .i64 b] 35)) fun e w' => e = .returned (.tuple #[.int .i64 (keep (a + b)), .bool (fitB (a + b))]) ∧ Q (w.alloc (.cells #[.int .i64 a, .int .i64 b] 35)) w' := by
  have e : ([a, b] : List Int).sum = a + b := by simp
  rw [← e]
  refine rsum_row w.heap.size 0 2 2 [a, b] _ rfl (by omega) ?_ ?_
  · intro i hi
    match i, hi with
    | 0, _ => exact ha
    | 1, _ => exact hb
  · intro i hi
    match i, hi with
    | 0, _ => simp [World.cell?_alloc_new]
    | 1, _ => simp [World.cell?_alloc_new]
set_option maxHeartbeats 400000 in
theorem radd_any (a b : Int) (w : World) (ha : Fx a) (hb : Fx b) :
    Calls Tryz.prog 50 #[.int .i64 a, .int .i64 b] w fun e w' => e = .returned (.tuple #[.int .i64 (keep (a + b)), .bool (fitB (a + b))]) ∧ Q w w' := by
  have HS := hid (rsum_two a b w ha hb)
  generalize keep (a + b) = s at *
  generalize fitB (a + b) = f at *
  go_enter Tryz.func50, Tryz.ntmps50
  go_wp2_with (go_at_call 77; refine HS.out.mono ?_; rintro e w1 ⟨rfl, q1⟩)
  go_ret2
  exact ⟨rfl, ((Q.refl w).alloc _).trans q1⟩
set_option maxHeartbeats 400000 in
theorem rsub_plain (a b : Int) (w : World) (ha : Fx a) (hb : Fx b) (hne : (b == -9223372036854775808) = false) :
    Calls Tryz.prog 51 #[.int .i64 a, .int .i64 b] w fun e w' => e = .returned (.tuple #[.int .i64 (keep (a - b)), .bool (fitB (a - b))]) ∧ Q w w' := by
  have h1 : b ≠ -9223372036854775808 := beq_eq_false_iff_ne.1 hne
  have hb' : Fx (-b) := ⟨by have := hb.hi; omega, by have := hb.lo; omega⟩
  have HS := hid (fun W => radd_any a (-b) W ha hb')
  have e : a + -b = a - b := by omega
  rw [e] at HS
  have l := hb.lo
  have u := hb.hi
  have l2 : -9223372036854775807 ≤ b := by omega
  clear e h1 l
  generalize keep (a - b) = s at *
  generalize fitB (a - b) = f at *
  go_enter Tryz.func51, Tryz.ntmps51
  go_wp2_with (go_at_call 50; refine (HS.out _).mono ?_; rintro e w1 ⟨rfl, q1⟩)
  go_ret2
  exact ⟨rfl, q1⟩
set_option maxHeartbeats 400000 in
theorem rsub_least (a : Int) (w : World) (ha : Fx a) :
    Calls Tryz.prog 51 #[.int .i64 a, .int .i64 (-9223372036854775808)] w fun e w' => e = .returned (.tuple #[.int .i64 (keep (a - (-9223372036854775808))), .bool (fitB (a - (-9223372036854775808)))]) ∧ Q w w' := by
  have hm : Fx 9223372036854775807 := ⟨by omega, by omega⟩
  have H1 := hid (fun W => radd_any a 9223372036854775807 W ha hm)
  have l := ha.lo
  have u := ha.hi
  by_cases h0 : 0 < a
  · have f1 : fitB (a + 9223372036854775807) = false := fitB_no (by omega)
    have f2 : fitB (a - (-9223372036854775808)) = false := fitB_no (by omega)
    rw [f1, keep_no f1] at H1
    rw [f2, keep_no f2]
    clear f1 f2 h0 l u hm
    go_enter Tryz.func51, Tryz.ntmps51
    go_wp2_with (go_at_call 50; refine (H1.out _).mono ?_; rintro e w1 ⟨rfl, q1⟩)
    go_ret2
    exact ⟨rfl, q1⟩
  · have f1 : fitB (a + 9223372036854775807) = true := fitB_yes (by omega) (by omega)
    rw [f1, keep_yes f1] at H1
    have H2 := hid (fun W => radd_any (a + 9223372036854775807) 1 W (fit_of f1) ⟨by omega, by omega⟩)
    have e : a + 9223372036854775807 + 1 = a - (-9223372036854775808) := by omega
    rw [e] at H2
    clear f1 e h0 l u hm
    generalize keep (a - (-9223372036854775808)) = s at *
    generalize fitB (a - (-9223372036854775808)) = f at *
    generalize a + 9223372036854775807 = x at *
    go_enter Tryz.func51, Tryz.ntmps51
    go_wp2_with fail
    refine (H1.out _).mono ?_
    rintro e w1 ⟨rfl, q1⟩
    go_wp2_with fail
    refine (H2.out _).mono ?_
    rintro e w2 ⟨rfl, q2⟩
    go_wp2
    go_ret2
    exact ⟨rfl, q1.trans q2⟩
theorem rsub_any (a b : Int) (w : World) (ha : Fx a) (hb : Fx b) :
    Calls Tryz.prog 51 #[.int .i64 a, .int .i64 b] w fun e w' => e = .returned (.tuple #[.int .i64 (keep (a - b)), .bool (fitB (a - b))]) ∧ Q w w' := by
  by_cases h : b = -9223372036854775808
  · subst h; exact rsub_least a w ha
  · exact rsub_plain a b w ha hb (beq_eq_false_iff_ne.2 h)
end Go.Proofs.YtfjpdopmojfchaaGreatDoor
