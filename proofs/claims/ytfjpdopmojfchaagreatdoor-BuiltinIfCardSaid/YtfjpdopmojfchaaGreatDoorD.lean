/- math/bits.Div64: the quotient and the rest. -/
import Derived.Test.YtfjpdopmojfchaaGreatDoorA
import Derived.Test.YtfjpdopmojfchaaGreatDoorNum
import Derived.Laws.Bits64b
namespace Go.Proofs.YtfjpdopmojfchaaGreatDoor
open Go.RowKit
/-- One digit over Int: u < y, a digit d behind it. -/
structure Dig (u d Y Y1 Y0 Q : Int) : Prop where
  ey : Y1 * 4294967296 + Y0 = Y
  y1a : 2147483648 ≤ Y1
  y1b : Y1 < 4294967296
  y0a : 0 ≤ Y0
  y0b : Y0 < 4294967296
  ua : 0 ≤ u
  ub : u < Y
  da : 0 ≤ d
  db : d < 4294967296
  eq : Q = (u * 4294967296 + d) / Y
theorem Dig.start {u d Y Y1 Y0 Q : Int} (h : Dig u d Y Y1 Y0 Q) : Q ≤ u / Y1 ∧ 0 ≤ u / Y1 ∧ u / Y1 ≤ 4294967297 ∧ 0 ≤ u % Y1 ∧ u % Y1 < 4294967296 ∧ u / Y1 * Y1 + u % Y1 = u ∧ 0 ≤ Q ∧ Q < 4294967296 := by
  obtain ⟨rfl, h1, h2, h3, h4, h5, h6, h7, h8, rfl⟩ := h
  obtain ⟨u, rfl⟩ := Int.eq_ofNat_of_zero_le h5
  obtain ⟨d, rfl⟩ := Int.eq_ofNat_of_zero_le h7
  obtain ⟨y1, rfl⟩ := Int.eq_ofNat_of_zero_le (show 0 ≤ Y1 by omega)
  obtain ⟨y0, rfl⟩ := Int.eq_ofNat_of_zero_le h3
  have a := digit_guess (B := 4294967296) (y1 := y1) (y0 := y0) (u := u) (d := d) (by omega) (by omega)
  have b := guess_le (B := 4294967296) (y1 := y1) (y0 := y0) (u := u) (by omega) (by omega)
  have c := digit_lt_B (B := 4294967296) (y := y1 * 4294967296 + y0) (u := u) (d := d) (by omega) (by omega)
  have e := Nat.div_add_mod u y1
  have f : u % y1 < y1 := Nat.mod_lt _ (by omega)
  have g : ((u * 4294967296 + d : Nat) : Int) / ((y1 * 4294967296 + y0 : Nat) : Int) = ((u * 4294967296 + d) / (y1 * 4294967296 + y0) : Nat) := rfl
  have g' : ((u : Int) * 4294967296 + d) / ((y1 : Int) * 4294967296 + y0) = ((u * 4294967296 + d) / (y1 * 4294967296 + y0) : Nat) := g
  rw [g']
  have k1 : (u : Int) / (y1 : Int) = ((u / y1 : Nat) : Int) := rfl
  have k2 : (u : Int) % (y1 : Int) = ((u % y1 : Nat) : Int) := rfl
  rw [k1, k2]
  generalize (u * 4294967296 + d) / (y1 * 4294967296 + y0) = q at *
  rw [Nat.mul_comm] at e
  have e' : ((u / y1 : Nat) : Int) * (y1 : Int) = ((u / y1 * y1 : Nat) : Int) := rfl
  rw [e']
  generalize u / y1 * y1 = p at *
  generalize u / y1 = qq at *
  generalize u % y1 = rr at *
  omega
theorem Dig.gt {u d Y Y1 Y0 Q q r : Int} (h : Dig u d Y Y1 Y0 Q) (hu : q * Y1 + r = u) (ht : 4294967296 * r + d < q * Y0) : Q < q := by
  obtain ⟨rfl, h1, h2, h3, h4, h5, h6, h7, h8, rfl⟩ := h
  have e : q * (Y1 * 4294967296 + Y0) = q * Y1 * 4294967296 + q * Y0 := by rw [Int.mul_add, Int.mul_assoc]
  refine Int.ediv_lt_of_lt_mul (by omega) ?_
  rw [e]
  generalize q * Y1 = p at *
  generalize q * Y0 = t at *
  omega
theorem Dig.le {u d Y Y1 Y0 Q q r : Int} (h : Dig u d Y Y1 Y0 Q) (hu : q * Y1 + r = u) (ht : q * Y0 ≤ 4294967296 * r + d) : q ≤ Q := by
  obtain ⟨rfl, h1, h2, h3, h4, h5, h6, h7, h8, rfl⟩ := h
  have e : q * (Y1 * 4294967296 + Y0) = q * Y1 * 4294967296 + q * Y0 := by rw [Int.mul_add, Int.mul_assoc]
  refine Int.le_ediv_of_mul_le (by omega) ?_
  rw [e]
  generalize q * Y1 = p at *
  generalize q * Y0 = t at *
  omega
/-- the loop ends by its break: the rest is no digit any more -/
theorem Dig.brk {u d Y Y1 Y0 Q q r : Int} (h : Dig u d Y Y1 Y0 Q) (hq' : q ≤ 4294967296) (hr : 4294967296 ≤ r) (hu : q * Y1 + r = u) : q ≤ Q := by
  refine h.le hu ?_
  have h0 := h.y0a
  have h1 := h.y0b
  have h2 : q * Y0 ≤ 4294967296 * Y0 := Int.mul_le_mul_of_nonneg_right hq' h0
  have := h.da
  omega
/-- products in the loop have room -/
theorem Dig.room {u d Y Y1 Y0 Q q : Int} (h : Dig u d Y Y1 Y0 Q) (hq : 0 ≤ q) (hq' : q ≤ 4294967297) : 0 ≤ q * Y0 ∧ q * Y0 < 18446744073709551616 := by
  have h0 := h.y0a
  have h1 := h.y0b
  refine ⟨Int.mul_nonneg hq h0, ?_⟩
  have h2 : q * Y0 ≤ 4294967297 * Y0 := Int.mul_le_mul_of_nonneg_right hq' h0
  omega
/-- what is left behind one digit -/
theorem Dig.rest {u d Y Y1 Y0 Q : Int} (h : Dig u d Y Y1 Y0 Q) : u * 4294967296 + d = Q * Y + (u * 4294967296 + d) % Y ∧ 0 ≤ (u * 4294967296 + d) % Y ∧ (u * 4294967296 + d) % Y < Y := by
  have hY : 0 < Y := by have := h.ua; have := h.ub; omega
  have e := Int.mul_ediv_add_emod (u * 4294967296 + d) Y
  rw [← h.eq, Int.mul_comm] at e
  exact ⟨e.symm, Int.emod_nonneg _ (by omega), Int.emod_lt_of_pos _ hY⟩
end Go.Proofs.YtfjpdopmojfchaaGreatDoor
