/- Plain arithmetic: one digit of a long division, and numbers that are shifted. No Go in sight. -/


namespace Go.Proofs.YtfjpdopmojfchaaGreatDoor

/-! One digit of a long division: y = y1 * B + y0, u < y, d < B. -/
theorem digit_lo {B y1 y0 u d q : Nat} (ht : u * B + d < q * (y1 * B + y0)) : (u * B + d) / (y1 * B + y0) < q :=
  Nat.div_lt_of_lt_mul (by rw [Nat.mul_comm _ q]; exact ht)
theorem digit_prod {B y1 y0 u q r : Nat} (hu : q * y1 + r = u) : q * (y1 * B + y0) + r * B = u * B + q * y0 := by
  subst hu
  rw [Nat.mul_add, Nat.add_mul, Nat.mul_assoc]
  omega
/-- the test of the loop says 'too great' -/
theorem digit_gt {B y1 y0 u d q r : Nat} (hu : q * y1 + r = u) (ht : B * r + d < q * y0) : (u * B + d) / (y1 * B + y0) < q := by
  have h := digit_prod (B := B) (y0 := y0) hu
  rw [Nat.mul_comm B r] at ht
  exact Nat.div_lt_of_lt_mul (by rw [Nat.mul_comm _ q]; omega)
/-- the test of the loop says 'not too great' -/
theorem digit_le {B y1 y0 u d q r : Nat} (hy : 0 < y1 * B + y0) (hu : q * y1 + r = u) (ht : q * y0 ≤ B * r + d) : q ≤ (u * B + d) / (y1 * B + y0) := by
  have h := digit_prod (B := B) (y0 := y0) hu
  rw [Nat.mul_comm B r] at ht
  rw [Nat.le_div_iff_mul_le hy]
  omega
theorem digit_lt_B {B y u d : Nat} (hu : u < y) (hd : d < B) : (u * B + d) / y < B := by
  apply Nat.div_lt_of_lt_mul
  have : (u + 1) * B ≤ y * B := Nat.mul_le_mul_right _ hu
  rw [Nat.add_mul] at this
  omega
/-- the first guess is not too small -/
theorem digit_guess {B y1 y0 u d : Nat} (h1 : 0 < y1) (hd : d < B) : (u * B + d) / (y1 * B + y0) ≤ u / y1 := by
  rw [Nat.le_div_iff_mul_le h1]
  have hq : (u * B + d) / (y1 * B + y0) * (y1 * B + y0) ≤ u * B + d := Nat.div_mul_le_self _ _
  generalize (u * B + d) / (y1 * B + y0) = q at *
  have h3 : q * y1 * B ≤ q * (y1 * B + y0) := by rw [Nat.mul_add, Nat.mul_assoc]; omega
  have h4 : q * y1 * B < (u + 1) * B := by rw [Nat.add_mul]; omega
  have := Nat.lt_of_mul_lt_mul_right h4
  omega
/-- the guess is at most B + 1 -/
theorem guess_le {B y1 y0 u : Nat} (h0 : y0 < 2 * y1) (hu : u < y1 * B + y0) : u / y1 ≤ B + 1 := by
  have : u / y1 < B + 2 := by
    apply Nat.div_lt_of_lt_mul
    rw [Nat.mul_add]
    omega
  omega
theorem div_two {B y u d0 d1 : Nat} (hy : 0 < y) :
    (u * (B * B) + (d1 * B + d0)) / y = (u * B + d1) / y * B + ((u * B + d1) % y * B + d0) / y ∧
    (u * (B * B) + (d1 * B + d0)) % y = ((u * B + d1) % y * B + d0) % y := by
  have h := Nat.div_add_mod (u * B + d1) y
  generalize hq : (u * B + d1) / y = q at *
  generalize hr : (u * B + d1) % y = r at *
  have e : u * (B * B) + (d1 * B + d0) = (r * B + d0) + y * (q * B) := by
    have : (u * B + d1) * B = (y * q + r) * B := by rw [h]
    rw [Nat.add_mul, Nat.add_mul, Nat.mul_assoc, Nat.mul_assoc] at this
    omega
  rw [e]
  constructor
  · rw [Nat.add_mul_div_left _ _ hy]; omega
  · rw [Nat.add_mul_mod_self_left]
/-- shifting both sides -/
theorem div_shift {n y k : Nat} (hk : 0 < k) : (n * k) / (y * k) = n / y := Nat.mul_div_mul_right n y hk
theorem norm_facts (hi lo y s : Nat) (h : hi < y) (hl : lo < 18446744073709551616) (hs : s < 64) :
    hi * 2 ^ s + lo / 2 ^ (64 - s) < y * 2 ^ s ∧ (hi * 2 ^ s + lo / 2 ^ (64 - s)) * 18446744073709551616 + lo * 2 ^ s % 18446744073709551616 = (hi * 18446744073709551616 + lo) * 2 ^ s := by
  have e : (18446744073709551616 : Nat) = 2 ^ (64 - s) * 2 ^ s := by rw [← Nat.pow_add, Nat.sub_add_cancel (by omega)]
  have hp : 0 < 2 ^ s := Nat.two_pow_pos s
  have d : lo * 2 ^ s / 18446744073709551616 = lo / 2 ^ (64 - s) := by
    rw [e, Nat.mul_div_mul_right _ _ hp]
  have m := Nat.div_add_mod (lo * 2 ^ s) 18446744073709551616
  rw [d] at m
  have f : (hi * 2 ^ s + lo / 2 ^ (64 - s)) * 18446744073709551616 + lo * 2 ^ s % 18446744073709551616 = (hi * 18446744073709551616 + lo) * 2 ^ s := by
    rw [Nat.add_mul, Nat.add_mul, Nat.mul_right_comm hi 18446744073709551616 (2 ^ s)]
    omega
  refine ⟨?_, f⟩
  have g : (hi * 18446744073709551616 + lo) * 2 ^ s < y * 18446744073709551616 * 2 ^ s := Nat.mul_lt_mul_of_pos_right (by omega) hp
  rw [Nat.mul_right_comm] at g
  omega
theorem rest_shift (n y k : Nat) (hk : 0 < k) : (n * k) % (y * k) / k = n % y := by
  rw [Nat.mul_mod_mul_right, Nat.mul_div_cancel _ hk]
theorem or_sum (a b s : Nat) (hb : b < 2 ^ s) : (a * 2 ^ s) ||| b = a * 2 ^ s + b := by
  rw [Nat.mul_comm]; exact (Nat.two_pow_add_eq_or_of_lt hb a).symm
end Go.Proofs.YtfjpdopmojfchaaGreatDoor
