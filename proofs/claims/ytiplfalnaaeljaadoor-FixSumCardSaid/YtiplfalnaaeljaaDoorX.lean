/- counterpaneref1.Add and Sub; the law FixSums, walked: it returns true. -/
import Derived.Test.YtiplfalnaaeljaaDoorU
import Derived.Test.YtiplfalnaaeljaaDoorT
import Derived.Test.YtiplfalnaaeljaaDoorB
namespace Go.Proofs.YtiplfalnaaeljaaDoor
open Go.RowKit
set_option linter.unusedVariables false

theorem rsum_two (a b : Int) (w : World) (ha : Fx a) (hb : Fx b) :
    Calls Tryd.prog 19 #[.slice (some ⟨w.heap.size, 0, none⟩) 2 2] (w.alloc (.cells #[.int .i64 a, .int .i64 b] 22)) fun e w' => e = .returned (.tuple #[.int .i64 (keep (a + b)), .bool (fitB (a + b))]) ∧ Q (w.alloc (.cells #[.int .i64 a, .int .i64 b] 22)) w' := by
  have e : ([a, b] : List Int).sum = a + b := by simp
  rw [← e]
  refine rsum_row w.heap.size 0 2 2 [a, b] _ rfl (by omega) ?_ ?_
  · intro i hi
    match i, hi with
    | 0, _ => exact ha
    | 1, _ => exact hb
  · intro i hi
    match i, hi with
    | 0, _ => simp [World.cell?_alloc_new]
    | 1, _ => simp [World.cell?_alloc_new]

set_option maxHeartbeats 400000 in
theorem radd_any (a b : Int) (w : World) (ha : Fx a) (hb : Fx b) :
    Calls Tryd.prog 11 #[.int .i64 a, .int .i64 b] w fun e w' => e = .returned (.tuple #[.int .i64 (keep (a + b)), .bool (fitB (a + b))]) ∧ Q w w' := by
  have HS := hid (rsum_two a b w ha hb)
  generalize keep (a + b) = s at *
  generalize fitB (a + b) = f at *
  go_enter Tryd.func11, Tryd.ntmps11
  go_wp2_with (go_at_call 19; refine HS.out.mono ?_; rintro e w1 ⟨rfl, q1⟩)
  go_ret2
  exact ⟨rfl, ((Q.refl w).alloc _).trans q1⟩

set_option maxHeartbeats 400000 in
theorem rsub_plain (a b : Int) (w : World) (ha : Fx a) (hb : Fx b) (hne : (b == -9223372036854775808) = false) :
    Calls Tryd.prog 13 #[.int .i64 a, .int .i64 b] w fun e w' => e = .returned (.tuple #[.int .i64 (keep (a - b)), .bool (fitB (a - b))]) ∧ Q w w' := by
  have h1 : b ≠ -9223372036854775808 := beq_eq_false_iff_ne.1 hne
  have hb' : Fx (-b) := ⟨by have := hb.hi; omega, by have := hb.lo; omega⟩
  have HS := hid (fun W => radd_any a (-b) W ha hb')
  have e : a + -b = a - b := by omega
  rw [e] at HS
  have l := hb.lo
  have u := hb.hi
  have l2 : -9223372036854775807 ≤ b := by omega
  clear e h1 l
  generalize keep (a - b) = s at *
  generalize fitB (a - b) = f at *
  go_enter Tryd.func13, Tryd.ntmps13
  go_wp2_with (go_at_call 11; refine (HS.out _).mono ?_; rintro e w1 ⟨rfl, q1⟩)
  go_ret2
  exact ⟨rfl, q1⟩

set_option maxHeartbeats 400000 in
theorem rsub_least (a : Int) (w : World) (ha : Fx a) :
    Calls Tryd.prog 13 #[.int .i64 a, .int .i64 (-9223372036854775808)] w fun e w' => e = .returned (.tuple #[.int .i64 (keep (a - (-9223372036854775808))), .bool (fitB (a - (-9223372036854775808)))]) ∧ Q w w' := by
  have hm : Fx 9223372036854775807 := ⟨by omega, by omega⟩
  have H1 := hid (fun W => radd_any a 9223372036854775807 W ha hm)
  have l := ha.lo
  have u := ha.hi
  by_cases h0 : 0 < a
  · have f1 : fitB (a + 9223372036854775807) = false := fitB_no (by omega)
    have f2 : fitB (a - (-9223372036854775808)) = false := fitB_no (by omega)
    rw [f1, keep_no f1] at H1
    rw [f2, keep_no f2]
    clear f1 f2 h0 l u hm
    go_enter Tryd.func13, Tryd.ntmps13
    go_wp2_with (go_at_call 11; refine (H1.out _).mono ?_; rintro e w1 ⟨rfl, q1⟩)
    go_ret2
    exact ⟨rfl, q1⟩
  · have f1 : fitB (a + 9223372036854775807) = true := fitB_yes (by omega) (by omega)
    rw [f1, keep_yes f1] at H1
    have H2 := hid (fun W => radd_any (a + 9223372036854775807) 1 W (fit_of f1) ⟨by omega, by omega⟩)
    have e : a + 9223372036854775807 + 1 = a - (-9223372036854775808) := by omega
    rw [e] at H2
    clear f1 e h0 l u hm
    generalize keep (a - (-9223372036854775808)) = s at *
    generalize fitB (a - (-9223372036854775808)) = f at *
    generalize a + 9223372036854775807 = x at *
    go_enter Tryd.func13, Tryd.ntmps13
    go_wp2_with fail
    refine (H1.out _).mono ?_
    rintro e w1 ⟨rfl, q1⟩
    go_wp2_with fail
    refine (H2.out _).mono ?_
    rintro e w2 ⟨rfl, q2⟩
    go_wp2
    go_ret2
    exact ⟨rfl, q1.trans q2⟩

theorem rsub_any (a b : Int) (w : World) (ha : Fx a) (hb : Fx b) :
    Calls Tryd.prog 13 #[.int .i64 a, .int .i64 b] w fun e w' => e = .returned (.tuple #[.int .i64 (keep (a - b)), .bool (fitB (a - b))]) ∧ Q w w' := by
  by_cases h : b = -9223372036854775808
  · subst h; exact rsub_least a w ha
  · exact rsub_plain a b w ha hb (beq_eq_false_iff_ne.2 h)

/-- both Divs answer the same -/
theorem div_both (a b : Int) (ha : Fx a) (hb : Fx b) : ∃ (q : Int) (ok : Bool),
    (∀ w, Calls Tryd.prog 16 #[.int .i64 a, .int .i64 b] w fun e w' => e = .returned (.tuple #[.int .i64 q, .bool ok]) ∧ Q w w') ∧
    (∀ w, Calls Tryd.prog 17 #[.int .i64 a, .int .i64 b] w fun e w' => e = .returned (.tuple #[.int .i64 q, .bool ok]) ∧ Q w w') := by
  by_cases h : b = 0
  · subst h
    exact ⟨0, false, fun w => div_none a w, fun w => rdiv_none a w⟩
  · have hz : (b == 0) = false := beq_eq_false_iff_ne.2 h
    exact ⟨_, _, fun w => div_any a b w ha hb hz, fun w => rdiv_any a b w ha hb hz⟩

set_option maxHeartbeats 2000000 in
theorem sums_walk (a b : Int) (w : World) (hw : Std w) (ha : Fx a) (hb : Fx b) :
    Calls Tryd.prog 3 #[.int .i64 a, .int .i64 b] w fun e w' => e = .returned (.bool true) ∧ Q w w' := by
  have A1 := hid (fun W => add_any a b W ha hb)
  have A2 := hid (fun W => radd_any a b W ha hb)
  have S1 := hid (fun W => sub_any a b W ha hb)
  have S2 := hid (fun W => rsub_any a b W ha hb)
  have M1 := hid (fun W => mul_any a b W ha hb)
  have M2 := hid (fun W => rmul_any a b W ha hb)
  obtain ⟨q, ok, d1, d2⟩ := div_both a b ha hb
  have D1 := hid d1
  have D2 := hid d2
  have HB := hid (fun W hW => begun_any W hW)
  clear d1 d2 ha hb
  generalize keep (a + b) = s1 at *
  generalize fitB (a + b) = f1 at *
  generalize keep (a - b) = s2 at *
  generalize fitB (a - b) = f2 at *
  generalize keep (mulV a b) = s3 at *
  generalize fitB (mulV a b) = f3 at *
  go_enter Tryd.func3, Tryd.ntmps3
  go_wp2_with (first
    | (go_at_call 9; refine (HB.out _ hw).mono ?_; rintro e w1 ⟨rfl, q1⟩)
    | (go_at_call 10; refine (A1.out _).mono ?_; rintro e w2 ⟨rfl, rfl⟩)
    | (go_at_call 11; refine (A2.out _).mono ?_; rintro e w3 ⟨rfl, q3⟩)
    | (go_at_call 12; refine (S1.out _).mono ?_; rintro e w4 ⟨rfl, rfl⟩)
    | (go_at_call 13; refine (S2.out _).mono ?_; rintro e w5 ⟨rfl, q5⟩)
    | (go_at_call 14; refine (M1.out _).mono ?_; rintro e w6 ⟨rfl, q6⟩)
    | (go_at_call 15; refine (M2.out _).mono ?_; rintro e w7 ⟨rfl, q7⟩)
    | (go_at_call 16; refine (D1.out _).mono ?_; rintro e w8 ⟨rfl, q8⟩)
    | (go_at_call 17; refine (D2.out _).mono ?_; rintro e w9 ⟨rfl, q9⟩))
  go_ret
  exact ⟨rfl, ((((((q1.trans q3).trans q5).trans q6).trans q7).trans q8).trans q9)⟩
end Go.Proofs.YtiplfalnaaeljaaDoor
