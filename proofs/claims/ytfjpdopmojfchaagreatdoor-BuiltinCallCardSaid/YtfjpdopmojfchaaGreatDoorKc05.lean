/- math/bits.Div64 whole; fixnum'. -/
import Derived.Test.YtfjpdopmojfchaaGreatDoorKc00
import Derived.Test.YtfjpdopmojfchaaGreatDoorKc04
import Derived.Test.YtfjpdopmojfchaaGreatDoorKc01
set_option linter.unusedVariables false
set_option linter.unusedSimpArgs false
set_option maxRecDepth 100000
set_option maxHeartbeats 8000000
namespace Go.Proofs.YtfjpdopmojfchaaGreatDoor
open Go.RowKit
set_option maxHeartbeats 400000 in
theorem div64_zero (lo y : Int) (w : World) (h2 : 0 < y) (h3 : 0 ≤ lo) (h4 : lo < 18446744073709551616) (h5 : y < 18446744073709551616) :
    Calls Tryz.prog 142 #[.int .u64 0, .int .u64 lo, .int .u64 y] w fun e w' => e = .returned (.tuple #[.int .u64 (lo / y), .int .u64 (lo % y)]) ∧ Q w w' := by
  have z : (y == 0) = false := beq_eq_false_iff_ne.2 (by omega)
  go_enter Tryz.func142, Tryz.ntmps142
  go_wp2
  go_region
  go_wp2
  go_ret2
  exact ⟨rfl, (Q.refl _).drew⟩
theorem div64_any (hi lo y : Nat) (w : World) (h1 : hi < y) (h3 : lo < 18446744073709551616) (h4 : y < 18446744073709551616) :
    Calls Tryz.prog 142 #[.int .u64 (hi : Int), .int .u64 (lo : Int), .int .u64 (y : Int)] w fun e w' => e = .returned (.tuple #[.int .u64 (((hi * 18446744073709551616 + lo) / y : Nat) : Int), .int .u64 (((hi * 18446744073709551616 + lo) % y : Nat) : Int)]) ∧ Q w w' := by
  rcases Nat.eq_zero_or_pos hi with rfl | hpos
  · refine (div64_zero (lo : Int) (y : Int) w (by omega) (by omega) (by omega) (by omega)).mono ?_
    rintro e w' ⟨rfl, hq⟩
    refine ⟨?_, hq⟩
    rw [Nat.zero_mul, Nat.zero_add]
    rfl
  · obtain ⟨s, U, L, Y, Y1, Y0, L1, L0, Q1, U2, Q0, R, rfl, a1, a2, a3, a4, a5, a6, a7, a8, a9, b1, b2, b3, b4, b5, b6, b7⟩ := div64_all hi lo y h1 h3 h4
    refine (div64_walk (hi : Int) (lo : Int) (y : Int) _ U L Y Y1 Y0 L1 L0 Q1 U2 Q0 R w (by omega) (by omega) (by omega) (by omega) (by omega) a1 a2 (fun w => Tryz.bits_LeadingZeros64 (y : Int) w (by omega) (by omega)) a3 a4 a5 a6 a7 a8 a9 b1 b2 b3 b4 b5).mono ?_
    rintro e w' ⟨rfl, rfl⟩
    rw [b6, b7]
    exact ⟨rfl, Q.refl _⟩
theorem quot_ge (hi lo y : Int) (neg : Bool) (w : World) (h : y ≤ hi) :
    Calls Tryz.prog 125 #[.int .u64 hi, .int .u64 lo, .int .u64 y, .bool neg] w fun e w' => e = .returned (.tuple #[.int .i64 0, .bool false]) ∧ Q w w' := by
  go_enter Tryz.func125, Tryz.ntmps125
  go_wp2
  go_ret2
  exact ⟨rfl, Q.refl _⟩
theorem big_div (hi lo y : Nat) (h : y ≤ hi) (h0 : 0 < y) : 18446744073709551616 ≤ (hi * 18446744073709551616 + lo) / y :=
  (Nat.le_div_iff_mul_le h0).2 (by omega)
theorem small_div (hi lo y : Nat) (h : hi < y) (hl : lo < 18446744073709551616) : (hi * 18446744073709551616 + lo) / y < 18446744073709551616 :=
  Nat.div_lt_of_lt_mul (by omega)
theorem sgn_big {n : Nat} {neg : Bool} (h : 18446744073709551616 ≤ n) : fitB (sgn n neg) = false := by
  apply fitB_no
  cases neg
  · show (n : Int) < _ ∨ _ < (n : Int)
    omega
  · show -(n : Int) < _ ∨ _ < -(n : Int)
    omega
set_option maxHeartbeats 400000 in
theorem quot_any (hi lo y : Nat) (neg : Bool) (w : World) (h0 : 0 < y) (h3 : lo < 18446744073709551616) (h4 : y < 18446744073709551616) :
    Calls Tryz.prog 125 #[.int .u64 (hi : Int), .int .u64 (lo : Int), .int .u64 (y : Int), .bool neg] w fun e w' =>
      e = .returned (.tuple #[.int .i64 (keep (sgn (((hi * 18446744073709551616 + lo) / y : Nat) : Int) neg)), .bool (fitB (sgn (((hi * 18446744073709551616 + lo) / y : Nat) : Int) neg))]) ∧ Q w w' := by
  by_cases h : y ≤ hi
  · have hb := sgn_big (neg := neg) (big_div hi lo y h h0)
    rw [keep_no hb, hb]
    exact quot_ge _ _ _ _ _ (by omega)
  · have h1 : hi < y := by omega
    have hlt := small_div hi lo y h1 h3
    have HC := hid (div64_any hi lo y w h1 h3 h4)
    generalize (hi * 18446744073709551616 + lo) / y = n at *
    generalize (hi * 18446744073709551616 + lo) % y = r at *
    go_enter Tryz.func125, Tryz.ntmps125
    go_wp2_with (first | (go_at_call 142; refine HC.out.mono ?_; rintro e w1 ⟨rfl, hq1⟩) | (go_at_call 143; refine (signed_any (n : Int) neg _ (by omega) (by omega)).mono ?_; rintro e w2 ⟨rfl, rfl⟩))
    go_ret2
    exact ⟨rfl, hq1⟩
def mulV (a b : Int) : Int := sgn ((a.natAbs * b.natAbs / 10000 : Nat) : Int) (decide (a < 0) != decide (b < 0))
def divV (a b : Int) : Int := sgn ((a.natAbs * 10000 / b.natAbs : Nat) : Int) (decide (a < 0) != decide (b < 0))
theorem natAbs_lt {a : Int} (h : Fx a) : a.natAbs < 18446744073709551616 := by have := h.lo; have := h.hi; omega
set_option maxHeartbeats 400000 in
theorem mul_any (a b : Int) (w : World) (ha : Fx a) (hb : Fx b) :
    Calls Tryz.prog 84 #[.int .i64 a, .int .i64 b] w fun e w' => e = .returned (.tuple #[.int .i64 (keep (mulV a b)), .bool (fitB (mulV a b))]) ∧ Q w w' := by
  have la := natAbs_lt ha
  have lb := natAbs_lt hb
  have HM := hid (Tryz.bits_Mul64 a.natAbs b.natAbs la lb w)
  have HQ := hid (quot_any (a.natAbs * b.natAbs / 18446744073709551616) (a.natAbs * b.natAbs % 18446744073709551616) 10000 (decide (a < 0) != decide (b < 0)) w (by omega) (Nat.mod_lt _ (by omega)) (by omega))
  have e := Nat.div_add_mod' (a.natAbs * b.natAbs) 18446744073709551616
  rw [e] at HQ
  clear la lb e
  unfold mulV
  generalize a.natAbs * b.natAbs / 10000 = n at *
  generalize a.natAbs * b.natAbs / 18446744073709551616 = hi at *
  generalize a.natAbs * b.natAbs % 18446744073709551616 = lo at *
  go_enter Tryz.func84, Tryz.ntmps84
  go_wp2_with (first | (go_at_call_of 124 a; refine (size_any a _ ha).mono ?_; rintro e w1 ⟨rfl, rfl⟩) | (go_at_call_of 124 b; refine (size_any b _ hb).mono ?_; rintro e w1 ⟨rfl, rfl⟩) | (go_at_call 123; refine HM.out.mono ?_; rintro e w1 ⟨rfl, rfl⟩) | (go_at_call 125; go_must (refine HQ.out.mono ?_; rintro e w1 ⟨rfl, hq1⟩)))
  go_ret2
  exact ⟨rfl, hq1⟩
set_option maxHeartbeats 400000 in
theorem div_any (a b : Int) (w : World) (ha : Fx a) (hb : Fx b) (hz : (b == 0) = false) :
    Calls Tryz.prog 85 #[.int .i64 a, .int .i64 b] w fun e w' => e = .returned (.tuple #[.int .i64 (keep (divV a b)), .bool (fitB (divV a b))]) ∧ Q w w' := by
  have la := natAbs_lt ha
  have lb := natAbs_lt hb
  have hne : b ≠ 0 := beq_eq_false_iff_ne.1 hz
  have HM := hid (Tryz.bits_Mul64 a.natAbs 10000 la (by omega) w)
  have HQ := hid (quot_any (a.natAbs * 10000 / 18446744073709551616) (a.natAbs * 10000 % 18446744073709551616) b.natAbs (decide (a < 0) != decide (b < 0)) w (by omega) (Nat.mod_lt _ (by omega)) lb)
  have e := Nat.div_add_mod' (a.natAbs * 10000) 18446744073709551616
  rw [e] at HQ
  clear la lb e hne
  unfold divV
  generalize a.natAbs * 10000 / b.natAbs = n at *
  generalize a.natAbs * 10000 / 18446744073709551616 = hi at *
  generalize a.natAbs * 10000 % 18446744073709551616 = lo at *
  go_enter Tryz.func85, Tryz.ntmps85
  go_wp2_with (first | (go_at_call_of 124 a; refine (size_any a _ ha).mono ?_; rintro e w1 ⟨rfl, rfl⟩) | (go_at_call_of 124 b; refine (size_any b _ hb).mono ?_; rintro e w1 ⟨rfl, rfl⟩) | (go_at_call 123; refine HM.out.mono ?_; rintro e w1 ⟨rfl, rfl⟩) | (go_at_call 125; go_must (refine HQ.out.mono ?_; rintro e w1 ⟨rfl, hq1⟩)))
  go_ret2
  exact ⟨rfl, hq1⟩
end Go.Proofs.YtfjpdopmojfchaaGreatDoor
