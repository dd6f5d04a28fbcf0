/- counterpaneref1.times, walked: a number of six digits by a magnitude. -/
import Derived.Test.YtkipbcimjmialaaDoorVK
namespace Go.Proofs.YtkipbcimjmialaaDoor.V
open Go.RowKit
set_option linter.unusedVariables false

/-- the product so far: of the lowest k digits -/
def tsum (k : Nat) (N0 N1 N2 N3 N4 N5 : Int) : Int :=
  match k with
  | 0 => 0
  | 1 => 0 + N0 * 1
  | 2 => 0 + N0 * 1 + N1 * 4294967296
  | 3 => 0 + N0 * 1 + N1 * 4294967296 + N2 * 18446744073709551616
  | 4 => 0 + N0 * 1 + N1 * 4294967296 + N2 * 18446744073709551616 + N3 * 79228162514264337593543950336
  | 5 => 0 + N0 * 1 + N1 * 4294967296 + N2 * 18446744073709551616 + N3 * 79228162514264337593543950336 + N4 * 340282366920938463463374607431768211456
  | _ => 0 + N0 * 1 + N1 * 4294967296 + N2 * 18446744073709551616 + N3 * 79228162514264337593543950336 + N4 * 340282366920938463463374607431768211456 + N5 * 1461501637330902918203684832716283019655932542976

/-- what holds at the head of round k of 'times' -/
structure TI (k : Nat) (N0 N1 N2 N3 N4 N5 r0 r1 r2 r3 r4 r5 : Int) : Prop where
  l0 : 0 ≤ r0
  u0 : r0 < 4294967296
  l1 : 0 ≤ r1
  u1 : r1 < 4294967296
  l2 : 0 ≤ r2
  u2 : r2 < 4294967296
  l3 : 0 ≤ r3
  u3 : r3 < 4294967296
  l4 : 0 ≤ r4
  u4 : r4 < 4294967296
  l5 : 0 ≤ r5
  u5 : r5 < 4294967296
  z0 : k = 0 → r0 = 0
  z1 : k + 2 ≤ 1 → r1 = 0
  z2 : k + 2 ≤ 2 → r2 = 0
  z3 : k + 2 ≤ 3 → r3 = 0
  z4 : k + 2 ≤ 4 → r4 = 0
  z5 : k + 2 ≤ 5 → r5 = 0
  e : r0 + r1 * 4294967296 + r2 * 18446744073709551616 + r3 * 79228162514264337593543950336 + r4 * 340282366920938463463374607431768211456 + r5 * 1461501637330902918203684832716283019655932542976 = tsum k N0 N1 N2 N3 N4 N5

theorem step_of (x : Int) (h : 0 ≤ x ∧ x < 18446744073709551616) : ∃ r c : Int, x % 4294967296 = r ∧ x / 4294967296 = c ∧ 0 ≤ r ∧ r < 4294967296 ∧ 0 ≤ c ∧ c < 4294967296 ∧ x = r + c * 4294967296 :=
  ⟨_, _, rfl, rfl, by omega, by omega, by omega, by omega, by omega⟩
theorem room2 {r p : Int} (h : 0 ≤ p ∧ p ≤ 18446744065119617025) (r0 : 0 ≤ r) (r1 : r < 4294967296) : 0 ≤ r + p ∧ r + p < 18446744073709551616 := by omega
theorem room3 {c r p : Int} (h : 0 ≤ p ∧ p ≤ 18446744065119617025) (r0 : 0 ≤ r) (r1 : r < 4294967296) (c0 : 0 ≤ c) (c1 : c < 4294967296) : 0 ≤ c + (r + p) ∧ c + (r + p) < 18446744073709551616 := by omega
theorem wrap_in {p : Int} (h : 0 ≤ p ∧ p ≤ 18446744065119617025) : IntKind.u64.wrap p = p := by rw [IntKind.wrap_u64]; omega

theorem ti_next0 (N0 N1 N2 N3 N4 N5 r0 r1 r2 r3 r4 r5 x p q c y d T : Int) (h : TI 0 N0 N1 N2 N3 N4 N5 r0 r1 r2 r3 r4 r5) (e0 : r0 + p = x + c * 4294967296) (lx : 0 ≤ x) (ux : x < 4294967296) (lc : 0 ≤ c) (e1 : c + (r1 + q) = y + d * 4294967296) (ly : 0 ≤ y) (uy : y < 4294967296) (ld : 0 ≤ d) (ud : d < 4294967296) (hN : N0 = p + q * 4294967296) (lq : 0 ≤ q)
    (hT : T = tsum 6 N0 N1 N2 N3 N4 N5) (hlt : T < 6277101735386680763835789423207666416102355444464034512896) (n0 : 0 ≤ N0) (n1 : 0 ≤ N1) (n2 : 0 ≤ N2) (n3 : 0 ≤ N3) (n4 : 0 ≤ N4) (n5 : 0 ≤ N5) : TI 1 N0 N1 N2 N3 N4 N5 x y (r2 + d) r3 r4 r5 := by
  obtain ⟨l0, u0, l1, u1, l2, u2, l3, u3, l4, u4, l5, u5, z0, z1, z2, z3, z4, z5, e⟩ := h
  simp only [tsum] at e hT
  have zz := z2 (by omega)
  constructor
  all_goals first | omega | (intro hk; omega) | (simp only [tsum]; omega)

theorem ti_next1 (N0 N1 N2 N3 N4 N5 r0 r1 r2 r3 r4 r5 x p q c y d T : Int) (h : TI 1 N0 N1 N2 N3 N4 N5 r0 r1 r2 r3 r4 r5) (e0 : r1 + p = x + c * 4294967296) (lx : 0 ≤ x) (ux : x < 4294967296) (lc : 0 ≤ c) (e1 : c + (r2 + q) = y + d * 4294967296) (ly : 0 ≤ y) (uy : y < 4294967296) (ld : 0 ≤ d) (ud : d < 4294967296) (hN : N1 = p + q * 4294967296) (lq : 0 ≤ q)
    (hT : T = tsum 6 N0 N1 N2 N3 N4 N5) (hlt : T < 6277101735386680763835789423207666416102355444464034512896) (n0 : 0 ≤ N0) (n1 : 0 ≤ N1) (n2 : 0 ≤ N2) (n3 : 0 ≤ N3) (n4 : 0 ≤ N4) (n5 : 0 ≤ N5) : TI 2 N0 N1 N2 N3 N4 N5 r0 x y (r3 + d) r4 r5 := by
  obtain ⟨l0, u0, l1, u1, l2, u2, l3, u3, l4, u4, l5, u5, z0, z1, z2, z3, z4, z5, e⟩ := h
  simp only [tsum] at e hT
  have zz := z3 (by omega)
  constructor
  all_goals first | omega | (intro hk; omega) | (simp only [tsum]; omega)

theorem ti_next2 (N0 N1 N2 N3 N4 N5 r0 r1 r2 r3 r4 r5 x p q c y d T : Int) (h : TI 2 N0 N1 N2 N3 N4 N5 r0 r1 r2 r3 r4 r5) (e0 : r2 + p = x + c * 4294967296) (lx : 0 ≤ x) (ux : x < 4294967296) (lc : 0 ≤ c) (e1 : c + (r3 + q) = y + d * 4294967296) (ly : 0 ≤ y) (uy : y < 4294967296) (ld : 0 ≤ d) (ud : d < 4294967296) (hN : N2 = p + q * 4294967296) (lq : 0 ≤ q)
    (hT : T = tsum 6 N0 N1 N2 N3 N4 N5) (hlt : T < 6277101735386680763835789423207666416102355444464034512896) (n0 : 0 ≤ N0) (n1 : 0 ≤ N1) (n2 : 0 ≤ N2) (n3 : 0 ≤ N3) (n4 : 0 ≤ N4) (n5 : 0 ≤ N5) : TI 3 N0 N1 N2 N3 N4 N5 r0 r1 x y (r4 + d) r5 := by
  obtain ⟨l0, u0, l1, u1, l2, u2, l3, u3, l4, u4, l5, u5, z0, z1, z2, z3, z4, z5, e⟩ := h
  simp only [tsum] at e hT
  have zz := z4 (by omega)
  constructor
  all_goals first | omega | (intro hk; omega) | (simp only [tsum]; omega)

theorem ti_next3 (N0 N1 N2 N3 N4 N5 r0 r1 r2 r3 r4 r5 x p q c y d T : Int) (h : TI 3 N0 N1 N2 N3 N4 N5 r0 r1 r2 r3 r4 r5) (e0 : r3 + p = x + c * 4294967296) (lx : 0 ≤ x) (ux : x < 4294967296) (lc : 0 ≤ c) (e1 : c + (r4 + q) = y + d * 4294967296) (ly : 0 ≤ y) (uy : y < 4294967296) (ld : 0 ≤ d) (ud : d < 4294967296) (hN : N3 = p + q * 4294967296) (lq : 0 ≤ q)
    (hT : T = tsum 6 N0 N1 N2 N3 N4 N5) (hlt : T < 6277101735386680763835789423207666416102355444464034512896) (n0 : 0 ≤ N0) (n1 : 0 ≤ N1) (n2 : 0 ≤ N2) (n3 : 0 ≤ N3) (n4 : 0 ≤ N4) (n5 : 0 ≤ N5) : TI 4 N0 N1 N2 N3 N4 N5 r0 r1 r2 x y (r5 + d) := by
  obtain ⟨l0, u0, l1, u1, l2, u2, l3, u3, l4, u4, l5, u5, z0, z1, z2, z3, z4, z5, e⟩ := h
  simp only [tsum] at e hT
  have zz := z5 (by omega)
  constructor
  all_goals first | omega | (intro hk; omega) | (simp only [tsum]; omega)

theorem ti_next4 (N0 N1 N2 N3 N4 N5 r0 r1 r2 r3 r4 r5 x p q c y d T : Int) (h : TI 4 N0 N1 N2 N3 N4 N5 r0 r1 r2 r3 r4 r5) (e0 : r4 + p = x + c * 4294967296) (lx : 0 ≤ x) (ux : x < 4294967296) (lc : 0 ≤ c) (e1 : c + (r5 + q) = y + d * 4294967296) (ly : 0 ≤ y) (uy : y < 4294967296) (ld : 0 ≤ d) (ud : d < 4294967296) (hN : N4 = p + q * 4294967296) (lq : 0 ≤ q)
    (hT : T = tsum 6 N0 N1 N2 N3 N4 N5) (hlt : T < 6277101735386680763835789423207666416102355444464034512896) (n0 : 0 ≤ N0) (n1 : 0 ≤ N1) (n2 : 0 ≤ N2) (n3 : 0 ≤ N3) (n4 : 0 ≤ N4) (n5 : 0 ≤ N5) : TI 5 N0 N1 N2 N3 N4 N5 r0 r1 r2 r3 x y := by
  obtain ⟨l0, u0, l1, u1, l2, u2, l3, u3, l4, u4, l5, u5, z0, z1, z2, z3, z4, z5, e⟩ := h
  simp only [tsum] at e hT
  constructor
  all_goals first | omega | (intro hk; omega) | (simp only [tsum]; omega)

theorem ti_next5 (N0 N1 N2 N3 N4 N5 r0 r1 r2 r3 r4 r5 x p q c T : Int) (h : TI 5 N0 N1 N2 N3 N4 N5 r0 r1 r2 r3 r4 r5) (e0 : r5 + p = x + c * 4294967296) (lx : 0 ≤ x) (ux : x < 4294967296) (lc : 0 ≤ c) (hN : N5 = p + q * 4294967296) (lq : 0 ≤ q)
    (hT : T = tsum 6 N0 N1 N2 N3 N4 N5) (hlt : T < 6277101735386680763835789423207666416102355444464034512896) (n0 : 0 ≤ N0) (n1 : 0 ≤ N1) (n2 : 0 ≤ N2) (n3 : 0 ≤ N3) (n4 : 0 ≤ N4) (n5 : 0 ≤ N5) : TI 6 N0 N1 N2 N3 N4 N5 r0 r1 r2 r3 r4 x := by
  obtain ⟨l0, u0, l1, u1, l2, u2, l3, u3, l4, u4, l5, u5, z0, z1, z2, z3, z4, z5, e⟩ := h
  simp only [tsum] at e hT
  constructor
  all_goals first | omega | (intro hk; omega) | (simp only [tsum]; omega)
end Go.Proofs.YtkipbcimjmialaaDoor.V
