/- Numbers for counterpaneref1.qu. -/
import Derived.Test.YtfjpdopmojfchaaGreatDoorKc06
import Derived.Deep.RegionHeld3
set_option linter.unusedVariables false
set_option linter.unusedSimpArgs false
set_option maxRecDepth 100000
set_option maxHeartbeats 8000000
namespace Go.Proofs.YtfjpdopmojfchaaGreatDoor
open Go.RowKit
theorem nat_bit (lo hi x c s : Nat) (hlo : lo < 2 ^ (32 * c)) (hs : s < 32) : (lo + x * 2 ^ (32 * c) + hi * 2 ^ (32 * (c + 1))) / 2 ^ (32 * c + s) % 2 = x / 2 ^ s % 2 := by
  have e1 : lo + x * 2 ^ (32 * c) + hi * 2 ^ (32 * (c + 1)) = lo + (x + hi * 2 ^ 32) * 2 ^ (32 * c) := by
    rw [Nat.add_mul, Nat.mul_assoc, ← Nat.pow_add, show 32 * (c + 1) = 32 + 32 * c by omega]
    omega
  have e2 : (lo + (x + hi * 2 ^ 32) * 2 ^ (32 * c)) / 2 ^ (32 * c) = x + hi * 2 ^ 32 := by
    rw [Nat.add_mul_div_right _ _ (Nat.two_pow_pos _), Nat.div_eq_of_lt hlo, Nat.zero_add]
  rw [Nat.pow_add, ← Nat.div_div_eq_div_mul, e1, e2]
  have e3 : hi * 2 ^ 32 = hi * 2 ^ (32 - s) * 2 ^ s := by
    rw [Nat.mul_assoc, ← Nat.pow_add, Nat.sub_add_cancel (by omega)]
  rw [e3, Nat.add_mul_div_right _ _ (Nat.two_pow_pos _)]
  have e4 : hi * 2 ^ (32 - s) = hi * 2 ^ (31 - s) * 2 := by
    rw [Nat.mul_assoc, ← Nat.pow_succ, show (31 - s).succ = 32 - s by omega]
  rw [e4, Nat.add_mul_mod_self_right]
theorem nat_div_step (a n m : Nat) (hn : 0 < n) :
    a / 2 ^ m / n = (if n ≤ 2 * (a / 2 ^ (m + 1) % n) + a / 2 ^ m % 2 then 2 * (a / 2 ^ (m + 1) / n) + 1 else 2 * (a / 2 ^ (m + 1) / n)) ∧
    a / 2 ^ m % n = (if n ≤ 2 * (a / 2 ^ (m + 1) % n) + a / 2 ^ m % 2 then 2 * (a / 2 ^ (m + 1) % n) + a / 2 ^ m % 2 - n else 2 * (a / 2 ^ (m + 1) % n) + a / 2 ^ m % 2) := by
  have e : a / 2 ^ (m + 1) = a / 2 ^ m / 2 := by rw [Nat.pow_succ, Nat.div_div_eq_div_mul]
  rw [e]
  generalize a / 2 ^ m = y
  have h1 := Nat.div_add_mod (y / 2) n
  have h2 : y / 2 % n < n := Nat.mod_lt _ hn
  generalize hq : y / 2 / n = q at *
  generalize hr : y / 2 % n = r at *
  have hy : y = n * (2 * q) + (2 * r + y % 2) := by
    have : n * (2 * q) = 2 * (n * q) := by rw [Nat.mul_left_comm]
    rw [this]
    omega
  have hb : y % 2 < 2 := Nat.mod_lt _ (by omega)
  generalize y % 2 = b at *
  split
  · rename_i hc
    have hy2 : y = (2 * r + b - n) + n * (2 * q + 1) := by rw [Nat.mul_add, Nat.mul_one]; omega
    constructor
    · rw [hy2, Nat.add_mul_div_left _ _ hn, Nat.div_eq_of_lt (by omega)]; omega
    · rw [hy2, Nat.add_mul_mod_self_left, Nat.mod_eq_of_lt (by omega)]
  · rename_i hc
    have hy2 : y = (2 * r + b) + n * (2 * q) := by omega
    constructor
    · rw [hy2, Nat.add_mul_div_left _ _ hn, Nat.div_eq_of_lt (by omega)]; omega
    · rw [hy2, Nat.add_mul_mod_self_left, Nat.mod_eq_of_lt (by omega)]
structure QI (m : Nat) (a n q r : Int) : Prop where
  eq : q = a / 2 ^ m / n
  er : r = a / 2 ^ m % n
  an : 0 ≤ a
  nn : 0 < n
theorem QI.next {m : Nat} {a n q r b : Int} (h : QI (m + 1) a n q r) (hb : b = a / 2 ^ m % 2) :
    0 ≤ b ∧ b ≤ 1 ∧ 0 ≤ q ∧ 0 ≤ r ∧ r < n ∧ (n ≤ r * 2 + b → QI m a n (q * 2 + 1) (r * 2 + b - n)) ∧ (r * 2 + b < n → QI m a n (q * 2) (r * 2 + b)) := by
  obtain ⟨rfl, rfl, h3, h4⟩ := h
  obtain ⟨a, rfl⟩ := Int.eq_ofNat_of_zero_le h3
  obtain ⟨n, rfl⟩ := Int.eq_ofNat_of_zero_le (show 0 ≤ n by omega)
  have p : ∀ k : Nat, (2 : Int) ^ k = ((2 ^ k : Nat) : Int) := fun k => by simp
  rw [p] at hb
  have hb' : b = ((a / 2 ^ m % 2 : Nat) : Int) := hb
  have s := nat_div_step a n m (by omega)
  have eq : ((a : Int) / 2 ^ (m + 1) / n) = ((a / 2 ^ (m + 1) / n : Nat) : Int) := by rw [p]; rfl
  have er : ((a : Int) / 2 ^ (m + 1) % n) = ((a / 2 ^ (m + 1) % n : Nat) : Int) := by rw [p]; rfl
  have eq' : ((a : Int) / 2 ^ m / n) = ((a / 2 ^ m / n : Nat) : Int) := by rw [p]; rfl
  have er' : ((a : Int) / 2 ^ m % n) = ((a / 2 ^ m % n : Nat) : Int) := by rw [p]; rfl
  have hl : a / 2 ^ (m + 1) % n < n := Nat.mod_lt _ (by omega)
  have hb2 : a / 2 ^ m % 2 < 2 := Nat.mod_lt _ (by omega)
  rw [eq, er]
  refine ⟨by omega, by omega, Int.natCast_nonneg _, Int.natCast_nonneg _, by omega, fun hc => ⟨?_, ?_, h3, h4⟩, fun hc => ⟨?_, ?_, h3, h4⟩⟩
  · rw [eq', s.1, if_pos (by omega)]; omega
  · rw [er', s.2, if_pos (by omega)]; omega
  · rw [eq', s.1, if_neg (by omega)]; omega
  · rw [er', s.2, if_neg (by omega)]; omega
theorem QI.start (a n : Int) (ha : 0 ≤ a) (hl : a < 6277101735386680763835789423207666416102355444464034512896) (hn : 0 < n) : QI 192 a n 0 0 := by
  have e : a / 2 ^ 192 = 0 := Int.ediv_eq_zero_of_lt ha (by simpa using hl)
  exact ⟨by rw [e]; simp, by rw [e]; simp, ha, hn⟩
theorem pow_cast2 (s : Nat) : ((2 : Int) ^ s) = ((2 ^ s : Nat) : Int) := by simp
theorem bit0 (a0 a1 a2 a3 a4 a5 a : Int) (s : Nat) (ha : Dg a0 a1 a2 a3 a4 a5 a) (hs : s < 32) : a / 2 ^ (0 + s) % 2 = a0 / 2 ^ s % 2 := by
  obtain ⟨x0, y0, x1, y1, x2, y2, x3, y3, x4, y4, x5, y5, ea⟩ := ha
  obtain ⟨a0, rfl⟩ := Int.eq_ofNat_of_zero_le x0
  obtain ⟨a1, rfl⟩ := Int.eq_ofNat_of_zero_le x1
  obtain ⟨a2, rfl⟩ := Int.eq_ofNat_of_zero_le x2
  obtain ⟨a3, rfl⟩ := Int.eq_ofNat_of_zero_le x3
  obtain ⟨a4, rfl⟩ := Int.eq_ofNat_of_zero_le x4
  obtain ⟨a5, rfl⟩ := Int.eq_ofNat_of_zero_le x5
  have h := nat_bit (0) (0 + a1 * 1 + a2 * 4294967296 + a3 * 18446744073709551616 + a4 * 79228162514264337593543950336 + a5 * 340282366920938463463374607431768211456) a0 0 s (by simp only [Nat.reduceMul, Nat.reducePow]; omega) hs
  have e : a = ((0 + a0 * 2 ^ (32 * 0) + (0 + a1 * 1 + a2 * 4294967296 + a3 * 18446744073709551616 + a4 * 79228162514264337593543950336 + a5 * 340282366920938463463374607431768211456) * 2 ^ (32 * (0 + 1)) : Nat) : Int) := by simp only [Nat.reduceMul, Nat.reduceAdd, Nat.reducePow]; omega
  rw [e, pow_cast2, pow_cast2]
  exact congrArg (fun n : Nat => (n : Int)) h
theorem bit1 (a0 a1 a2 a3 a4 a5 a : Int) (s : Nat) (ha : Dg a0 a1 a2 a3 a4 a5 a) (hs : s < 32) : a / 2 ^ (32 + s) % 2 = a1 / 2 ^ s % 2 := by
  obtain ⟨x0, y0, x1, y1, x2, y2, x3, y3, x4, y4, x5, y5, ea⟩ := ha
  obtain ⟨a0, rfl⟩ := Int.eq_ofNat_of_zero_le x0
  obtain ⟨a1, rfl⟩ := Int.eq_ofNat_of_zero_le x1
  obtain ⟨a2, rfl⟩ := Int.eq_ofNat_of_zero_le x2
  obtain ⟨a3, rfl⟩ := Int.eq_ofNat_of_zero_le x3
  obtain ⟨a4, rfl⟩ := Int.eq_ofNat_of_zero_le x4
  obtain ⟨a5, rfl⟩ := Int.eq_ofNat_of_zero_le x5
  have h := nat_bit (0 + a0 * 1) (0 + a2 * 1 + a3 * 4294967296 + a4 * 18446744073709551616 + a5 * 79228162514264337593543950336) a1 1 s (by simp only [Nat.reduceMul, Nat.reducePow]; omega) hs
  have e : a = ((0 + a0 * 1 + a1 * 2 ^ (32 * 1) + (0 + a2 * 1 + a3 * 4294967296 + a4 * 18446744073709551616 + a5 * 79228162514264337593543950336) * 2 ^ (32 * (1 + 1)) : Nat) : Int) := by simp only [Nat.reduceMul, Nat.reduceAdd, Nat.reducePow]; omega
  rw [e, pow_cast2, pow_cast2]
  exact congrArg (fun n : Nat => (n : Int)) h
theorem bit2 (a0 a1 a2 a3 a4 a5 a : Int) (s : Nat) (ha : Dg a0 a1 a2 a3 a4 a5 a) (hs : s < 32) : a / 2 ^ (64 + s) % 2 = a2 / 2 ^ s % 2 := by
  obtain ⟨x0, y0, x1, y1, x2, y2, x3, y3, x4, y4, x5, y5, ea⟩ := ha
  obtain ⟨a0, rfl⟩ := Int.eq_ofNat_of_zero_le x0
  obtain ⟨a1, rfl⟩ := Int.eq_ofNat_of_zero_le x1
  obtain ⟨a2, rfl⟩ := Int.eq_ofNat_of_zero_le x2
  obtain ⟨a3, rfl⟩ := Int.eq_ofNat_of_zero_le x3
  obtain ⟨a4, rfl⟩ := Int.eq_ofNat_of_zero_le x4
  obtain ⟨a5, rfl⟩ := Int.eq_ofNat_of_zero_le x5
  have h := nat_bit (0 + a0 * 1 + a1 * 4294967296) (0 + a3 * 1 + a4 * 4294967296 + a5 * 18446744073709551616) a2 2 s (by simp only [Nat.reduceMul, Nat.reducePow]; omega) hs
  have e : a = ((0 + a0 * 1 + a1 * 4294967296 + a2 * 2 ^ (32 * 2) + (0 + a3 * 1 + a4 * 4294967296 + a5 * 18446744073709551616) * 2 ^ (32 * (2 + 1)) : Nat) : Int) := by simp only [Nat.reduceMul, Nat.reduceAdd, Nat.reducePow]; omega
  rw [e, pow_cast2, pow_cast2]
  exact congrArg (fun n : Nat => (n : Int)) h
theorem bit3 (a0 a1 a2 a3 a4 a5 a : Int) (s : Nat) (ha : Dg a0 a1 a2 a3 a4 a5 a) (hs : s < 32) : a / 2 ^ (96 + s) % 2 = a3 / 2 ^ s % 2 := by
  obtain ⟨x0, y0, x1, y1, x2, y2, x3, y3, x4, y4, x5, y5, ea⟩ := ha
  obtain ⟨a0, rfl⟩ := Int.eq_ofNat_of_zero_le x0
  obtain ⟨a1, rfl⟩ := Int.eq_ofNat_of_zero_le x1
  obtain ⟨a2, rfl⟩ := Int.eq_ofNat_of_zero_le x2
  obtain ⟨a3, rfl⟩ := Int.eq_ofNat_of_zero_le x3
  obtain ⟨a4, rfl⟩ := Int.eq_ofNat_of_zero_le x4
  obtain ⟨a5, rfl⟩ := Int.eq_ofNat_of_zero_le x5
  have h := nat_bit (0 + a0 * 1 + a1 * 4294967296 + a2 * 18446744073709551616) (0 + a4 * 1 + a5 * 4294967296) a3 3 s (by simp only [Nat.reduceMul, Nat.reducePow]; omega) hs
  have e : a = ((0 + a0 * 1 + a1 * 4294967296 + a2 * 18446744073709551616 + a3 * 2 ^ (32 * 3) + (0 + a4 * 1 + a5 * 4294967296) * 2 ^ (32 * (3 + 1)) : Nat) : Int) := by simp only [Nat.reduceMul, Nat.reduceAdd, Nat.reducePow]; omega
  rw [e, pow_cast2, pow_cast2]
  exact congrArg (fun n : Nat => (n : Int)) h
theorem bit4 (a0 a1 a2 a3 a4 a5 a : Int) (s : Nat) (ha : Dg a0 a1 a2 a3 a4 a5 a) (hs : s < 32) : a / 2 ^ (128 + s) % 2 = a4 / 2 ^ s % 2 := by
  obtain ⟨x0, y0, x1, y1, x2, y2, x3, y3, x4, y4, x5, y5, ea⟩ := ha
  obtain ⟨a0, rfl⟩ := Int.eq_ofNat_of_zero_le x0
  obtain ⟨a1, rfl⟩ := Int.eq_ofNat_of_zero_le x1
  obtain ⟨a2, rfl⟩ := Int.eq_ofNat_of_zero_le x2
  obtain ⟨a3, rfl⟩ := Int.eq_ofNat_of_zero_le x3
  obtain ⟨a4, rfl⟩ := Int.eq_ofNat_of_zero_le x4
  obtain ⟨a5, rfl⟩ := Int.eq_ofNat_of_zero_le x5
  have h := nat_bit (0 + a0 * 1 + a1 * 4294967296 + a2 * 18446744073709551616 + a3 * 79228162514264337593543950336) (0 + a5 * 1) a4 4 s (by simp only [Nat.reduceMul, Nat.reducePow]; omega) hs
  have e : a = ((0 + a0 * 1 + a1 * 4294967296 + a2 * 18446744073709551616 + a3 * 79228162514264337593543950336 + a4 * 2 ^ (32 * 4) + (0 + a5 * 1) * 2 ^ (32 * (4 + 1)) : Nat) : Int) := by simp only [Nat.reduceMul, Nat.reduceAdd, Nat.reducePow]; omega
  rw [e, pow_cast2, pow_cast2]
  exact congrArg (fun n : Nat => (n : Int)) h
theorem bit5 (a0 a1 a2 a3 a4 a5 a : Int) (s : Nat) (ha : Dg a0 a1 a2 a3 a4 a5 a) (hs : s < 32) : a / 2 ^ (160 + s) % 2 = a5 / 2 ^ s % 2 := by
  obtain ⟨x0, y0, x1, y1, x2, y2, x3, y3, x4, y4, x5, y5, ea⟩ := ha
  obtain ⟨a0, rfl⟩ := Int.eq_ofNat_of_zero_le x0
  obtain ⟨a1, rfl⟩ := Int.eq_ofNat_of_zero_le x1
  obtain ⟨a2, rfl⟩ := Int.eq_ofNat_of_zero_le x2
  obtain ⟨a3, rfl⟩ := Int.eq_ofNat_of_zero_le x3
  obtain ⟨a4, rfl⟩ := Int.eq_ofNat_of_zero_le x4
  obtain ⟨a5, rfl⟩ := Int.eq_ofNat_of_zero_le x5
  have h := nat_bit (0 + a0 * 1 + a1 * 4294967296 + a2 * 18446744073709551616 + a3 * 79228162514264337593543950336 + a4 * 340282366920938463463374607431768211456) (0) a5 5 s (by simp only [Nat.reduceMul, Nat.reducePow]; omega) hs
  have e : a = ((0 + a0 * 1 + a1 * 4294967296 + a2 * 18446744073709551616 + a3 * 79228162514264337593543950336 + a4 * 340282366920938463463374607431768211456 + a5 * 2 ^ (32 * 5) + (0) * 2 ^ (32 * (5 + 1)) : Nat) : Int) := by simp only [Nat.reduceMul, Nat.reduceAdd, Nat.reducePow]; omega
  rw [e, pow_cast2, pow_cast2]
  exact congrArg (fun n : Nat => (n : Int)) h
end Go.Proofs.YtfjpdopmojfchaaGreatDoor
