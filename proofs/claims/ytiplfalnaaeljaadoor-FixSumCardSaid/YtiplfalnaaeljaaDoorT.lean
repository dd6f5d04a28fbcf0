/- counterpaneref1.Mul and Div: the products and quotients of the reference are those of the document. -/
import Derived.Test.YtiplfalnaaeljaaDoorO
import Derived.Test.YtiplfalnaaeljaaDoorF
namespace Go.Proofs.YtiplfalnaaeljaaDoor
open Go.RowKit
set_option linter.unusedVariables false

theorem one_dg (n : Int) (h0 : 0 ≤ n) (h1 : n < 18446744073709551616) : Dg (n % 4294967296) (n / 4294967296) 0 0 0 0 n :=
  ⟨by omega, by omega, by omega, by omega, by omega, by omega, by omega, by omega, by omega, by omega, by omega, by omega, by omega⟩

theorem abs_prod (a b : Int) (ha : Fx a) (hb : Fx b) : (a.natAbs : Int) * (b.natAbs : Int) < 6277101735386680763835789423207666416102355444464034512896 := by
  have h1 := ha.lo; have h2 := ha.hi; have h3 := hb.lo; have h4 := hb.hi
  have h := Int.mul_le_mul (show (a.natAbs : Int) ≤ 9223372036854775808 by omega) (show (b.natAbs : Int) ≤ 9223372036854775808 by omega) (by omega) (by omega)
  omega

set_option maxHeartbeats 1000000 in
theorem rmul_any (a b : Int) (w : World) (ha : Fx a) (hb : Fx b) :
    Calls Tryd.prog 15 #[.int .i64 a, .int .i64 b] w fun e w' => e = .returned (.tuple #[.int .i64 (keep (mulV a b)), .bool (fitB (mulV a b))]) ∧ Q w w' := by
  have la := natAbs_lt ha
  have lb := natAbs_lt hb
  have HA := hid (fun W => abs_any a W ha)
  have HB := hid (fun W => abs_any b W hb)
  have HP := hid (abs_prod a b ha hb)
  have HO := hid (fun W => one_any (a.natAbs : Int) W (by omega) (by omega))
  have hE : Hid (((a.natAbs * b.natAbs / 10000 : Nat) : Int) = (a.natAbs : Int) * (b.natAbs : Int) / 10000) := by show _ = _; rw [Int.natCast_ediv, Int.natCast_mul]; rfl
  have hM : Hid (mulV a b = sgn ((a.natAbs : Int) * (b.natAbs : Int) / 10000) (decide (a < 0) != decide (b < 0))) := by show _ = _; unfold mulV; rw [hE.out]
  rw [hM.out]
  have l2 : Hid ((b.natAbs : Int) < 18446744073709551616) := by show _ < _; omega
  clear la lb hE hM
  go_enter Tryd.func15, Tryd.ntmps15
  go_wp2_with (first
    | (go_at_call_of 32 a; refine (HA.out _).mono ?_; rintro e w1 ⟨rfl, rfl⟩)
    | (go_at_call 31; refine (HO.out _).mono ?_; rintro e w2 ⟨⟨x0, x1, x2, x3, x4, x5, rfl, dx⟩, q2⟩)
    | (go_at_call_of 32 b; refine (HB.out _).mono ?_; rintro e w3 ⟨rfl, rfl⟩)
    | (go_at_call 30; refine (times_any x0 x1 x2 x3 x4 x5 (a.natAbs : Int) (b.natAbs : Int) _ dx (by omega) l2.out HP.out).mono ?_; rintro e w4 ⟨⟨y0, y1, y2, y3, y4, y5, rfl, dy⟩, q4⟩)
    | (go_at_call 29; refine (quo_any y0 y1 y2 y3 y4 y5 _ 10000 _ dy (by omega) (by omega)).mono ?_; rintro e w5 ⟨⟨z0, z1, z2, z3, z4, z5, rfl, dz⟩, q5⟩)
    | (go_at_call 28; refine (fix_any z0 z1 z2 z3 z4 z5 _ (decide (a < 0) != decide (b < 0)) _ dz).mono ?_; rintro e w6 ⟨rfl, q6⟩))
  go_ret2
  exact ⟨rfl, ((q2.trans q4).trans q5).trans q6⟩

theorem ten_prod (a : Int) (ha : Fx a) : (a.natAbs : Int) * 10000 < 6277101735386680763835789423207666416102355444464034512896 := by
  have h1 := ha.lo; have h2 := ha.hi
  omega

set_option maxHeartbeats 1000000 in
theorem rdiv_any (a b : Int) (w : World) (ha : Fx a) (hb : Fx b) (hz : (b == 0) = false) :
    Calls Tryd.prog 17 #[.int .i64 a, .int .i64 b] w fun e w' => e = .returned (.tuple #[.int .i64 (keep (divV a b)), .bool (fitB (divV a b))]) ∧ Q w w' := by
  have la := natAbs_lt ha
  have lb := natAbs_lt hb
  have hne : b ≠ 0 := beq_eq_false_iff_ne.1 hz
  have HA := hid (fun W => abs_any a W ha)
  have HB := hid (fun W => abs_any b W hb)
  have HP := hid (ten_prod a ha)
  have HO := hid (fun W => one_any (a.natAbs : Int) W (by omega) (by omega))
  have hE : Hid (((a.natAbs * 10000 / b.natAbs : Nat) : Int) = (a.natAbs : Int) * 10000 / (b.natAbs : Int)) := by show _ = _; rw [Int.natCast_ediv, Int.natCast_mul]; rfl
  have hM : Hid (divV a b = sgn ((a.natAbs : Int) * 10000 / (b.natAbs : Int)) (decide (a < 0) != decide (b < 0))) := by show _ = _; unfold divV; rw [hE.out]
  rw [hM.out]
  have l2 : Hid ((b.natAbs : Int) < 18446744073709551616) := by show _ < _; omega
  have p2 : Hid (0 < (b.natAbs : Int)) := by show _ < _; omega
  clear la lb hE hM hne
  go_enter Tryd.func17, Tryd.ntmps17
  go_wp2_with (first
    | (go_at_call_of 32 a; refine (HA.out _).mono ?_; rintro e w1 ⟨rfl, rfl⟩)
    | (go_at_call 31; refine (HO.out _).mono ?_; rintro e w2 ⟨⟨x0, x1, x2, x3, x4, x5, rfl, dx⟩, q2⟩)
    | (go_at_call_of 32 b; refine (HB.out _).mono ?_; rintro e w3 ⟨rfl, rfl⟩)
    | (go_at_call 30; refine (times_any x0 x1 x2 x3 x4 x5 (a.natAbs : Int) 10000 _ dx (by omega) (by omega) HP.out).mono ?_; rintro e w4 ⟨⟨y0, y1, y2, y3, y4, y5, rfl, dy⟩, q4⟩)
    | (go_at_call 29; refine (quo_any y0 y1 y2 y3 y4 y5 _ (b.natAbs : Int) _ dy p2.out l2.out).mono ?_; rintro e w5 ⟨⟨z0, z1, z2, z3, z4, z5, rfl, dz⟩, q5⟩)
    | (go_at_call 28; refine (fix_any z0 z1 z2 z3 z4 z5 _ (decide (a < 0) != decide (b < 0)) _ dz).mono ?_; rintro e w6 ⟨rfl, q6⟩))
  go_ret2
  exact ⟨rfl, ((q2.trans q4).trans q5).trans q6⟩

theorem rdiv_none (a : Int) (w : World) :
    Calls Tryd.prog 17 #[.int .i64 a, .int .i64 0] w fun e w' => e = .returned (.tuple #[.int .i64 0, .bool false]) ∧ Q w w' := by
  go_enter Tryd.func17, Tryd.ntmps17
  go_wp2
  go_ret2
  exact ⟨rfl, Q.refl _⟩
end Go.Proofs.YtiplfalnaaeljaaDoor
