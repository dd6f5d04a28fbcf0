/- Numbers for math/bits.Div64: how the divisor is made to fill its 64 bits. No Go in sight but for the model's words on bits. -/
import Derived.Test.YtfjpdopmojfchaaGreatDoorD
import Derived.Lib.BitFns
namespace Go.Proofs.YtfjpdopmojfchaaGreatDoor
open Go.RowKit
theorem bitLen_bounds : ∀ (f x : Nat), 0 < x → x < 2 ^ f → f ≤ 64 → 0 < Lib.bitLen x ∧ 2 ^ (Lib.bitLen x - 1) ≤ x ∧ x < 2 ^ Lib.bitLen x ∧ Lib.bitLen x ≤ f
  | 0, x, h0, h1, _ => by simp at h1; omega
  | f + 1, x, h0, h1, hf => by
    have hx : x < 2 ^ 64 := Nat.lt_of_lt_of_le h1 (Nat.pow_le_pow_right (by omega) hf)
    rw [Lib.bitLen_half x (by omega) hx]
    by_cases hz : x / 2 = 0
    · have e : Lib.bitLen (x / 2) = 0 := by rw [hz]; rfl
      rw [e]
      have : x = 1 := by omega
      subst this
      exact ⟨by omega, by simp, by simp, by omega⟩
    · have ih := bitLen_bounds f (x / 2) (by omega) (by rw [Nat.pow_succ] at h1; omega) (by omega)
      obtain ⟨a, b, c, d⟩ := ih
      generalize Lib.bitLen (x / 2) = k at *
      refine ⟨by omega, ?_, ?_, by omega⟩
      · have : 1 + k - 1 = (k - 1) + 1 := by omega
        rw [this, Nat.pow_succ]
        omega
      · rw [Nat.add_comm, Nat.pow_succ]
        omega
/-- the divisor moved up to fill 64 bits -/
theorem norm_y (y : Nat) (h0 : 0 < y) (h1 : y < 18446744073709551616) :
    Lib.bitLen y ≤ 64 ∧ 0 < Lib.bitLen y ∧ 9223372036854775808 ≤ y * 2 ^ (64 - Lib.bitLen y) ∧ y * 2 ^ (64 - Lib.bitLen y) < 18446744073709551616 := by
  obtain ⟨a, b, c, d⟩ := bitLen_bounds 64 y h0 h1 (Nat.le_refl _)
  generalize Lib.bitLen y = k at *
  have e1 : 2 ^ (k - 1) * 2 ^ (64 - k) = (9223372036854775808 : Nat) := by
    rw [← Nat.pow_add, show k - 1 + (64 - k) = 63 by omega]
  have e2 : 2 ^ k * 2 ^ (64 - k) = (18446744073709551616 : Nat) := by
    rw [← Nat.pow_add, show k + (64 - k) = 64 by omega]
  refine ⟨d, a, ?_, ?_⟩
  · rw [← e1]; exact Nat.mul_le_mul_right _ b
  · rw [← e2]; exact Nat.mul_lt_mul_of_pos_right c (Nat.two_pow_pos _)
theorem pow_cast (s : Nat) : ((2 : Int) ^ s) = ((2 ^ s : Nat) : Int) := by simp
theorem and_mask (a : Nat) (ha : a < 18446744073709551616) : bits BinOp.and IntKind.u64 (a : Int) 4294967295 = ((a % 4294967296 : Nat) : Int) := by
  have h := bits_and_u64_nat a 4294967295 ha (by omega)
  have e : a &&& 4294967295 = a % 4294967296 := Nat.and_two_pow_sub_one_eq_mod a 32
  rw [e] at h
  exact h
/-- All that the walk of Div64 asks for. -/
theorem div64_all (hi lo y : Nat) (h1 : hi < y) (h3 : lo < 18446744073709551616) (h4 : y < 18446744073709551616) :
    ∃ s U L Y Y1 Y0 L1 L0 Q1 U2 Q0 R : Int, s = 64 - (Lib.bitLen y : Int) ∧ 0 ≤ s ∧ s < 64 ∧
      IntKind.u64.wrap ((y : Int) * 2 ^ s.toNat) = Y ∧ Y / 4294967296 = Y1 ∧ bits BinOp.and IntKind.u64 Y 4294967295 = Y0 ∧
      bits BinOp.or IntKind.u64 (IntKind.u64.wrap ((hi : Int) * 2 ^ s.toNat)) ((lo : Int) / 2 ^ (64 - s).toNat) = U ∧
      IntKind.u64.wrap ((lo : Int) * 2 ^ s.toNat) = L ∧ L / 4294967296 = L1 ∧ bits BinOp.and IntKind.u64 L 4294967295 = L0 ∧
      Y < 18446744073709551616 ∧ Dig U L1 Y Y1 Y0 Q1 ∧ Hid (U2 = (U * 4294967296 + L1) % Y) ∧ Dig U2 L0 Y Y1 Y0 Q0 ∧ Hid (R = (U2 * 4294967296 + L0) % Y) ∧
      Q1 * 4294967296 + Q0 = (((hi * 18446744073709551616 + lo) / y : Nat) : Int) ∧ R / 2 ^ s.toNat = (((hi * 18446744073709551616 + lo) % y : Nat) : Int) := by
  obtain ⟨k1, k2, k3, k4⟩ := norm_y y (by omega) h4
  generalize hk : 64 - Lib.bitLen y = k at *
  have hk' : k < 64 := by omega
  have es : ((64 : Int) - (Lib.bitLen y : Int)) = (k : Int) := by omega
  have es' : ((64 : Int) - (Lib.bitLen y : Int)).toNat = k := by omega
  have es2 : ((64 : Int) - ((64 : Int) - (Lib.bitLen y : Int))).toNat = 64 - k := by omega
  obtain ⟨n1, n2⟩ := norm_facts hi lo y k h1 h3 hk'
  have hp : 0 < 2 ^ k := Nat.two_pow_pos k
  have hlt : lo / 2 ^ (64 - k) < 2 ^ k := by
    apply Nat.div_lt_of_lt_mul
    rw [← Nat.pow_add, show 64 - k + k = 64 by omega]
    exact h3
  have hor := or_sum hi (lo / 2 ^ (64 - k)) k hlt
  have hhi : hi * 2 ^ k < y * 2 ^ k := Nat.mul_lt_mul_of_pos_right h1 hp
  have eY : IntKind.u64.wrap ((y : Int) * 2 ^ k) = ((y * 2 ^ k : Nat) : Int) := by
    rw [IntKind.wrap_u64, pow_cast, ← Int.natCast_mul]
    generalize y * 2 ^ k = t at *
    omega
  have eH : IntKind.u64.wrap ((hi : Int) * 2 ^ k) = ((hi * 2 ^ k : Nat) : Int) := by
    rw [IntKind.wrap_u64, pow_cast, ← Int.natCast_mul]
    generalize hi * 2 ^ k = t at *
    omega
  have eLo : IntKind.u64.wrap ((lo : Int) * 2 ^ k) = ((lo * 2 ^ k % 18446744073709551616 : Nat) : Int) := by
    rw [IntKind.wrap_u64, pow_cast, ← Int.natCast_mul]
    generalize lo * 2 ^ k = t at *
    omega
  have eD : (lo : Int) / 2 ^ (64 - k) = ((lo / 2 ^ (64 - k) : Nat) : Int) := by
    rw [pow_cast]; rfl
  have eU : bits BinOp.or IntKind.u64 (IntKind.u64.wrap ((hi : Int) * 2 ^ k)) ((lo : Int) / 2 ^ (64 - k)) = ((hi * 2 ^ k + lo / 2 ^ (64 - k) : Nat) : Int) := by
    rw [eH, eD, bits_or_u64_nat _ _ (by omega) (by omega), hor]
  generalize hY : y * 2 ^ k = Y at *
  generalize hU : hi * 2 ^ k + lo / 2 ^ (64 - k) = U at *
  generalize hL : lo * 2 ^ k % 18446744073709551616 = L at *
  have hLlt : L < 18446744073709551616 := by omega
  have dv := div_two (B := 4294967296) (y := Y) (u := U) (d0 := L % 4294967296) (d1 := L / 4294967296) (by omega)
  have eN : U * (4294967296 * 4294967296) + (L / 4294967296 * 4294967296 + L % 4294967296) = (hi * 18446744073709551616 + lo) * 2 ^ k := by
    rw [← n2]; omega
  rw [eN, ← hY, Nat.mul_div_mul_right _ _ hp, hY] at dv
  have hr := rest_shift (hi * 18446744073709551616 + lo) y (2 ^ k) hp
  rw [hY] at hr
  obtain ⟨dv1, dv2⟩ := dv
  have dA : Dig (U : Int) ((L / 4294967296 : Nat) : Int) (Y : Int) ((Y / 4294967296 : Nat) : Int) ((Y % 4294967296 : Nat) : Int) (((U * 4294967296 + L / 4294967296) / Y : Nat) : Int) :=
    ⟨by omega, by omega, by omega, by omega, by omega, by omega, by omega, by omega, by omega, by rfl⟩
  have hm : (U * 4294967296 + L / 4294967296) % Y < Y := Nat.mod_lt _ (by omega)
  have dB : Dig (((U * 4294967296 + L / 4294967296) % Y : Nat) : Int) ((L % 4294967296 : Nat) : Int) (Y : Int) ((Y / 4294967296 : Nat) : Int) ((Y % 4294967296 : Nat) : Int) ((((U * 4294967296 + L / 4294967296) % Y * 4294967296 + L % 4294967296) / Y : Nat) : Int) :=
    ⟨by omega, by omega, by omega, by omega, by omega, by omega, by omega, by omega, by omega, by rfl⟩
  refine ⟨64 - (Lib.bitLen y : Int), U, L, Y, ((Y / 4294967296 : Nat) : Int), ((Y % 4294967296 : Nat) : Int), ((L / 4294967296 : Nat) : Int), ((L % 4294967296 : Nat) : Int), _, _, _, ((((U * 4294967296 + L / 4294967296) % Y * 4294967296 + L % 4294967296) % Y : Nat) : Int), rfl, by omega, by omega, ?_, rfl, and_mask Y k4, ?_, ?_, rfl, and_mask L hLlt, by omega, dA, rfl, dB, rfl, ?_, ?_⟩
  · rw [es']; exact eY
  · rw [es', es2]; exact eU
  · rw [es']; exact eLo
  · rw [dv1]; omega
  · rw [es', ← dv2, pow_cast]
    exact congrArg (fun n : Nat => (n : Int)) hr
end Go.Proofs.YtfjpdopmojfchaaGreatDoor
