/- counterpaneref1.quo, walked: a number of six digits by a magnitude: the quotient. -/
import Derived.Test.YtiplfalnaaeljaaDoorO0
import Derived.Deep.RegionHeld3
namespace Go.Proofs.YtiplfalnaaeljaaDoor
open Go.RowKit
set_option linter.unusedVariables false

theorem pow_cast2 (s : Nat) : ((2 : Int) ^ s) = ((2 ^ s : Nat) : Int) := by simp

theorem bit0 (a0 a1 a2 a3 a4 a5 a : Int) (s : Nat) (ha : Dg a0 a1 a2 a3 a4 a5 a) (hs : s < 32) : a / 2 ^ (0 + s) % 2 = a0 / 2 ^ s % 2 := by
  obtain ⟨x0, y0, x1, y1, x2, y2, x3, y3, x4, y4, x5, y5, ea⟩ := ha
  obtain ⟨a0, rfl⟩ := Int.eq_ofNat_of_zero_le x0
  obtain ⟨a1, rfl⟩ := Int.eq_ofNat_of_zero_le x1
  obtain ⟨a2, rfl⟩ := Int.eq_ofNat_of_zero_le x2
  obtain ⟨a3, rfl⟩ := Int.eq_ofNat_of_zero_le x3
  obtain ⟨a4, rfl⟩ := Int.eq_ofNat_of_zero_le x4
  obtain ⟨a5, rfl⟩ := Int.eq_ofNat_of_zero_le x5
  have h := nat_bit (0) (0 + a1 * 1 + a2 * 4294967296 + a3 * 18446744073709551616 + a4 * 79228162514264337593543950336 + a5 * 340282366920938463463374607431768211456) a0 0 s (by simp only [Nat.reduceMul, Nat.reducePow]; omega) hs
  have e : a = ((0 + a0 * 2 ^ (32 * 0) + (0 + a1 * 1 + a2 * 4294967296 + a3 * 18446744073709551616 + a4 * 79228162514264337593543950336 + a5 * 340282366920938463463374607431768211456) * 2 ^ (32 * (0 + 1)) : Nat) : Int) := by simp only [Nat.reduceMul, Nat.reduceAdd, Nat.reducePow]; omega
  rw [e, pow_cast2, pow_cast2]
  exact congrArg (fun n : Nat => (n : Int)) h

theorem bit1 (a0 a1 a2 a3 a4 a5 a : Int) (s : Nat) (ha : Dg a0 a1 a2 a3 a4 a5 a) (hs : s < 32) : a / 2 ^ (32 + s) % 2 = a1 / 2 ^ s % 2 := by
  obtain ⟨x0, y0, x1, y1, x2, y2, x3, y3, x4, y4, x5, y5, ea⟩ := ha
  obtain ⟨a0, rfl⟩ := Int.eq_ofNat_of_zero_le x0
  obtain ⟨a1, rfl⟩ := Int.eq_ofNat_of_zero_le x1
  obtain ⟨a2, rfl⟩ := Int.eq_ofNat_of_zero_le x2
  obtain ⟨a3, rfl⟩ := Int.eq_ofNat_of_zero_le x3
  obtain ⟨a4, rfl⟩ := Int.eq_ofNat_of_zero_le x4
  obtain ⟨a5, rfl⟩ := Int.eq_ofNat_of_zero_le x5
  have h := nat_bit (0 + a0 * 1) (0 + a2 * 1 + a3 * 4294967296 + a4 * 18446744073709551616 + a5 * 79228162514264337593543950336) a1 1 s (by simp only [Nat.reduceMul, Nat.reducePow]; omega) hs
  have e : a = ((0 + a0 * 1 + a1 * 2 ^ (32 * 1) + (0 + a2 * 1 + a3 * 4294967296 + a4 * 18446744073709551616 + a5 * 79228162514264337593543950336) * 2 ^ (32 * (1 + 1)) : Nat) : Int) := by simp only [Nat.reduceMul, Nat.reduceAdd, Nat.reducePow]; omega
  rw [e, pow_cast2, pow_cast2]
  exact congrArg (fun n : Nat => (n : Int)) h

theorem bit2 (a0 a1 a2 a3 a4 a5 a : Int) (s : Nat) (ha : Dg a0 a1 a2 a3 a4 a5 a) (hs : s < 32) : a / 2 ^ (64 + s) % 2 = a2 / 2 ^ s % 2 := by
  obtain ⟨x0, y0, x1, y1, x2, y2, x3, y3, x4, y4, x5, y5, ea⟩ := ha
  obtain ⟨a0, rfl⟩ := Int.eq_ofNat_of_zero_le x0
  obtain ⟨a1, rfl⟩ := Int.eq_ofNat_of_zero_le x1
  obtain ⟨a2, rfl⟩ := Int.eq_ofNat_of_zero_le x2
  obtain ⟨a3, rfl⟩ := Int.eq_ofNat_of_zero_le x3
  obtain ⟨a4, rfl⟩ := Int.eq_ofNat_of_zero_le x4
  obtain ⟨a5, rfl⟩ := Int.eq_ofNat_of_zero_le x5
  have h := nat_bit (0 + a0 * 1 + a1 * 4294967296) (0 + a3 * 1 + a4 * 4294967296 + a5 * 18446744073709551616) a2 2 s (by simp only [Nat.reduceMul, Nat.reducePow]; omega) hs
  have e : a = ((0 + a0 * 1 + a1 * 4294967296 + a2 * 2 ^ (32 * 2) + (0 + a3 * 1 + a4 * 4294967296 + a5 * 18446744073709551616) * 2 ^ (32 * (2 + 1)) : Nat) : Int) := by simp only [Nat.reduceMul, Nat.reduceAdd, Nat.reducePow]; omega
  rw [e, pow_cast2, pow_cast2]
  exact congrArg (fun n : Nat => (n : Int)) h

theorem bit3 (a0 a1 a2 a3 a4 a5 a : Int) (s : Nat) (ha : Dg a0 a1 a2 a3 a4 a5 a) (hs : s < 32) : a / 2 ^ (96 + s) % 2 = a3 / 2 ^ s % 2 := by
  obtain ⟨x0, y0, x1, y1, x2, y2, x3, y3, x4, y4, x5, y5, ea⟩ := ha
  obtain ⟨a0, rfl⟩ := Int.eq_ofNat_of_zero_le x0
  obtain ⟨a1, rfl⟩ := Int.eq_ofNat_of_zero_le x1
  obtain ⟨a2, rfl⟩ := Int.eq_ofNat_of_zero_le x2
  obtain ⟨a3, rfl⟩ := Int.eq_ofNat_of_zero_le x3
  obtain ⟨a4, rfl⟩ := Int.eq_ofNat_of_zero_le x4
  obtain ⟨a5, rfl⟩ := Int.eq_ofNat_of_zero_le x5
  have h := nat_bit (0 + a0 * 1 + a1 * 4294967296 + a2 * 18446744073709551616) (0 + a4 * 1 + a5 * 4294967296) a3 3 s (by simp only [Nat.reduceMul, Nat.reducePow]; omega) hs
  have e : a = ((0 + a0 * 1 + a1 * 4294967296 + a2 * 18446744073709551616 + a3 * 2 ^ (32 * 3) + (0 + a4 * 1 + a5 * 4294967296) * 2 ^ (32 * (3 + 1)) : Nat) : Int) := by simp only [Nat.reduceMul, Nat.reduceAdd, Nat.reducePow]; omega
  rw [e, pow_cast2, pow_cast2]
  exact congrArg (fun n : Nat => (n : Int)) h

theorem bit4 (a0 a1 a2 a3 a4 a5 a : Int) (s : Nat) (ha : Dg a0 a1 a2 a3 a4 a5 a) (hs : s < 32) : a / 2 ^ (128 + s) % 2 = a4 / 2 ^ s % 2 := by
  obtain ⟨x0, y0, x1, y1, x2, y2, x3, y3, x4, y4, x5, y5, ea⟩ := ha
  obtain ⟨a0, rfl⟩ := Int.eq_ofNat_of_zero_le x0
  obtain ⟨a1, rfl⟩ := Int.eq_ofNat_of_zero_le x1
  obtain ⟨a2, rfl⟩ := Int.eq_ofNat_of_zero_le x2
  obtain ⟨a3, rfl⟩ := Int.eq_ofNat_of_zero_le x3
  obtain ⟨a4, rfl⟩ := Int.eq_ofNat_of_zero_le x4
  obtain ⟨a5, rfl⟩ := Int.eq_ofNat_of_zero_le x5
  have h := nat_bit (0 + a0 * 1 + a1 * 4294967296 + a2 * 18446744073709551616 + a3 * 79228162514264337593543950336) (0 + a5 * 1) a4 4 s (by simp only [Nat.reduceMul, Nat.reducePow]; omega) hs
  have e : a = ((0 + a0 * 1 + a1 * 4294967296 + a2 * 18446744073709551616 + a3 * 79228162514264337593543950336 + a4 * 2 ^ (32 * 4) + (0 + a5 * 1) * 2 ^ (32 * (4 + 1)) : Nat) : Int) := by simp only [Nat.reduceMul, Nat.reduceAdd, Nat.reducePow]; omega
  rw [e, pow_cast2, pow_cast2]
  exact congrArg (fun n : Nat => (n : Int)) h

theorem bit5 (a0 a1 a2 a3 a4 a5 a : Int) (s : Nat) (ha : Dg a0 a1 a2 a3 a4 a5 a) (hs : s < 32) : a / 2 ^ (160 + s) % 2 = a5 / 2 ^ s % 2 := by
  obtain ⟨x0, y0, x1, y1, x2, y2, x3, y3, x4, y4, x5, y5, ea⟩ := ha
  obtain ⟨a0, rfl⟩ := Int.eq_ofNat_of_zero_le x0
  obtain ⟨a1, rfl⟩ := Int.eq_ofNat_of_zero_le x1
  obtain ⟨a2, rfl⟩ := Int.eq_ofNat_of_zero_le x2
  obtain ⟨a3, rfl⟩ := Int.eq_ofNat_of_zero_le x3
  obtain ⟨a4, rfl⟩ := Int.eq_ofNat_of_zero_le x4
  obtain ⟨a5, rfl⟩ := Int.eq_ofNat_of_zero_le x5
  have h := nat_bit (0 + a0 * 1 + a1 * 4294967296 + a2 * 18446744073709551616 + a3 * 79228162514264337593543950336 + a4 * 340282366920938463463374607431768211456) (0) a5 5 s (by simp only [Nat.reduceMul, Nat.reducePow]; omega) hs
  have e : a = ((0 + a0 * 1 + a1 * 4294967296 + a2 * 18446744073709551616 + a3 * 79228162514264337593543950336 + a4 * 340282366920938463463374607431768211456 + a5 * 2 ^ (32 * 5) + (0) * 2 ^ (32 * (5 + 1)) : Nat) : Int) := by simp only [Nat.reduceMul, Nat.reduceAdd, Nat.reducePow]; omega
  rw [e, pow_cast2, pow_cast2]
  exact congrArg (fun n : Nat => (n : Int)) h

end Go.Proofs.YtiplfalnaaeljaaDoor
