/- Sums, frames and files, plainly. -/
import Derived.Test.YtcefpjjefokjjaaDoorFa
namespace Go.Proofs.YtcefpjjefokjjaaDoor
open Go.RowKit
set_option linter.unusedVariables false
set_option linter.unusedSimpArgs false

/-- a half of a byte goes in -/
def hf (r : Nat) : Nat := tb (r % 16) ^^^ (r / 16)
def st (r : Nat) (b : UInt8) : Nat := hf (hf (r ^^^ b.toNat))
/-- bit by bit -/
def bt (r : Nat) : Nat := if r % 2 = 1 then (r / 2) ^^^ 3988292384 else r / 2
theorem xor_half (a b : Nat) : (a ^^^ b) / 2 = a / 2 ^^^ b / 2 := by
  have := Nat.shiftRight_xor_distrib (a := a) (b := b) (i := 1)
  simpa [Nat.shiftRight_eq_div_pow] using this
theorem bt_xor (a b : Nat) : bt (a ^^^ b) = bt a ^^^ bt b := by
  unfold bt
  have h := Nat.xor_mod_two_eq_one (a := a) (b := b)
  rw [xor_half]
  by_cases ha : a % 2 = 1 <;> by_cases hb : b % 2 = 1
  · rw [if_neg (by rw [h]; simp [ha, hb]), if_pos ha, if_pos hb]
    apply Nat.eq_of_testBit_eq
    intro i
    simp only [Nat.testBit_xor]
    cases Nat.testBit (a / 2) i <;> cases Nat.testBit (b / 2) i <;> cases Nat.testBit 3988292384 i <;> rfl
  · rw [if_pos (by rw [h]; simp [ha, hb]), if_pos ha, if_neg hb]
    apply Nat.eq_of_testBit_eq
    intro i
    simp only [Nat.testBit_xor]
    cases Nat.testBit (a / 2) i <;> cases Nat.testBit (b / 2) i <;> cases Nat.testBit 3988292384 i <;> rfl
  · rw [if_pos (by rw [h]; simp [ha, hb]), if_neg ha, if_pos hb]
    apply Nat.eq_of_testBit_eq
    intro i
    simp only [Nat.testBit_xor]
    cases Nat.testBit (a / 2) i <;> cases Nat.testBit (b / 2) i <;> cases Nat.testBit 3988292384 i <;> rfl
  · rw [if_neg (by rw [h]; simp [ha, hb]), if_neg ha, if_neg hb]
theorem bt_even (k : Nat) : bt (2 * k) = k := by
  unfold bt
  rw [if_neg (by omega)]
  omega
theorem bt_low : ∀ n, n < 16 → bt (bt (bt (bt n))) = tb n := by decide +kernel
theorem split16 (r : Nat) : r = 16 * (r / 16) ^^^ r % 16 := by
  apply Nat.eq_of_testBit_eq
  intro i
  have h1 := Nat.testBit_two_pow_mul_add (r / 16) (i := 4) (b := r % 16) (by omega) i
  rw [show 2 ^ 4 * (r / 16) + r % 16 = r by omega] at h1
  rw [Nat.testBit_xor, h1]
  have h2 := Nat.testBit_two_pow_mul (i := 4) (a := r / 16) (j := i)
  rw [show (2 : Nat) ^ 4 = 16 from rfl] at h2
  rw [h2]
  by_cases hi : i < 4
  · rw [if_pos hi]
    have : decide (i ≥ 4) = false := decide_eq_false (by omega)
    rw [this]
    cases (r % 16).testBit i <;> rfl
  · rw [if_neg hi]
    have h3 : (r % 16).testBit i = false := Nat.testBit_lt_two_pow (Nat.lt_of_lt_of_le (by omega : r % 16 < 2 ^ 4) (Nat.pow_le_pow_right (by omega) (by omega)))
    rw [h3]
    have : decide (i ≥ 4) = true := decide_eq_true (by omega)
    rw [this]
    cases (r / 16).testBit (i - 4) <;> rfl
theorem bt4 (r : Nat) : bt (bt (bt (bt r))) = hf r := by
  have e := split16 r
  have h1 : bt (bt (bt (bt r))) = bt (bt (bt (bt (16 * (r / 16) ^^^ r % 16)))) := by rw [← e]
  rw [h1, bt_xor, bt_xor, bt_xor, bt_xor, bt_low (r % 16) (by omega), show 16 * (r / 16) = 2 * (2 * (2 * (2 * (r / 16)))) by omega, bt_even, bt_even, bt_even, bt_even]
  unfold hf
  exact Nat.xor_comm _ _
/-- k bits -/
def btn : Nat → Nat → Nat
  | 0, r => r
  | k + 1, r => bt (btn k r)
theorem bt8 (r : Nat) : btn 8 r = hf (hf r) := by
  show bt (bt (bt (bt (bt (bt (bt (bt r))))))) = _
  rw [bt4, bt4]
theorem tb_lt : ∀ i, i < 16 → tb i < 4294967296 := by decide +kernel
theorem hf_lt (r : Nat) (h : r < 4294967296) : hf r < 4294967296 := by
  unfold hf
  exact Nat.xor_lt_two_pow (n := 32) (tb_lt _ (by omega)) (by omega)
theorem xb_lt (r : Nat) (b : UInt8) (h : r < 4294967296) : r ^^^ b.toNat < 4294967296 := Nat.xor_lt_two_pow (n := 32) h (by have := b.toNat_lt; omega)
theorem st_lt (r : Nat) (b : UInt8) (h : r < 4294967296) : st r b < 4294967296 := hf_lt _ (hf_lt _ (xb_lt r b h))
theorem bt_lt (r : Nat) (h : r < 4294967296) : bt r < 4294967296 := by
  unfold bt
  split
  · exact Nat.xor_lt_two_pow (n := 32) (by omega) (by omega)
  · omega
theorem btn_lt (k r : Nat) (h : r < 4294967296) : btn k r < 4294967296 := by
  induction k with
  | zero => exact h
  | succ k ih => exact bt_lt _ ih
/-- bytes go in -/
def cr (r : Nat) (L : List UInt8) : Nat := L.foldl st r
theorem cr_lt (L : List UInt8) : ∀ r, r < 4294967296 → cr r L < 4294967296 := by
  induction L with
  | nil => intro r h; exact h
  | cons x L ih => intro r h; exact ih _ (st_lt r x h)
theorem cr_app (r : Nat) (L M : List UInt8) : cr r (L ++ M) = cr (cr r L) M := by unfold cr; rw [List.foldl_append]
theorem cr_take (r : Nat) (L : List UInt8) (i : Nat) (h : i < L.length) : cr r (L.take (i + 1)) = st (cr r (L.take i)) L[i] := by
  rw [List.take_succ_eq_append_getElem h, cr_app]
  rfl
/-- the sum -/
def sm (L : List UInt8) : Nat := 4294967295 - cr 4294967295 L
theorem sm_lt (L : List UInt8) : sm L < 4294967296 := by unfold sm; omega
/-- four bytes -/
def le4 (n : Nat) : List UInt8 := [UInt8.ofNat n, UInt8.ofNat (n / 256), UInt8.ofNat (n / 65536), UInt8.ofNat (n / 16777216)]
theorem le4_len (n : Nat) : (le4 n).length = 4 := rfl
def rd4 (L : List UInt8) : Nat := (L.getD 0 0).toNat + 256 * (L.getD 1 0).toNat + 65536 * (L.getD 2 0).toNat + 16777216 * (L.getD 3 0).toNat
theorem rd4_lt (L : List UInt8) : rd4 L < 4294967296 := by
  unfold rd4
  have h0 := (L.getD 0 0).toNat_lt
  have h1 := (L.getD 1 0).toNat_lt
  have h2 := (L.getD 2 0).toNat_lt
  have h3 := (L.getD 3 0).toNat_lt
  omega
theorem rd4_le4 (n : Nat) (R : List UInt8) (h : n < 4294967296) : rd4 (le4 n ++ R) = n := by
  unfold rd4 le4
  simp only [List.cons_append, List.nil_append, List.getD_cons_zero, List.getD_cons_succ, UInt8.toNat_ofNat']
  omega
theorem u8_of (b : UInt8) (n : Nat) (h : n % 256 = b.toNat) : UInt8.ofNat n = b := by
  apply UInt8.toNat_inj.1
  rw [UInt8.toNat_ofNat']
  exact h
theorem four_of (D : List UInt8) (h : 4 ≤ D.length) : ∃ a b c d R, D = a :: b :: c :: d :: R := by
  rcases D with _ | ⟨a, _ | ⟨b, _ | ⟨c, _ | ⟨d, R⟩⟩⟩⟩
  · simp at h
  · simp at h
  · simp at h
  · simp at h
  · exact ⟨a, b, c, d, R, rfl⟩
theorem le4_rd4 (D : List UInt8) (h : 4 ≤ D.length) : le4 (rd4 D) = D.take 4 := by
  obtain ⟨a, b, c, d, R, rfl⟩ := four_of D h
  have h0 := a.toNat_lt
  have h1 := b.toNat_lt
  have h2 := c.toNat_lt
  have h3 := d.toNat_lt
  have e : rd4 (a :: b :: c :: d :: R) = a.toNat + 256 * b.toNat + 65536 * c.toNat + 16777216 * d.toNat := rfl
  rw [e]
  show [_, _, _, _] = [a, b, c, d]
  rw [u8_of a _ (by omega), u8_of b _ (by omega), u8_of c _ (by omega), u8_of d _ (by omega)]
theorem le4_inj {m n : Nat} (hm : m < 4294967296) (hn : n < 4294967296) (h : le4 m = le4 n) : m = n := by
  have h1 := rd4_le4 m [] hm
  rw [h, rd4_le4 n [] hn] at h1
  exact h1.symm
theorem rd4_take (D : List UInt8) (k : Nat) (h : 4 ≤ k) (hD : 4 ≤ D.length) : rd4 (D.take k) = rd4 D := by
  obtain ⟨a, b, c, d, R, rfl⟩ := four_of D hD
  obtain ⟨j, rfl⟩ : ∃ j, k = j + 4 := ⟨k - 4, by omega⟩
  rfl
/-- a record as it stands -/
def frm (L : List UInt8) : List UInt8 := le4 L.length ++ (le4 (sm (le4 L.length ++ L)) ++ L)
theorem frm_len (L : List UInt8) : (frm L).length = 8 + L.length := by
  unfold frm
  simp [le4_len]
  omega
/-- the first record of a file -/
def fst1 (D : List UInt8) : Option (List UInt8) :=
  if D.length < 8 then none else if min 4194304 (D.length - 8) < rd4 D then none
  else if rd4 (D.drop 4) = sm (D.take 4 ++ (D.drop 8).take (rd4 D)) then some ((D.drop 8).take (rd4 D)) else none
theorem fst_len {D b : List UInt8} (h : fst1 D = some b) : 8 + b.length ≤ D.length ∧ b = (D.drop 8).take b.length ∧ b.length ≤ 4194304 := by
  unfold fst1 at h
  split at h
  · cases h
  · split at h
    · cases h
    · split at h
      · cases h
        have : ((D.drop 8).take (rd4 D)).length = rd4 D := by simp; omega
        rw [this]
        exact ⟨by omega, rfl, by omega⟩
      · cases h
def scF : Nat → List UInt8 → List (List UInt8) × Nat
  | 0, _ => ([], 0)
  | k + 1, D => match fst1 D with
    | none => ([], 0)
    | some b => (b :: (scF k (D.drop (8 + b.length))).1, 8 + b.length + (scF k (D.drop (8 + b.length))).2)
theorem scF_more : ∀ (k : Nat) (D : List UInt8), D.length < k → ∀ j, k ≤ j → scF j D = scF k D
  | 0, D, h, _, _ => absurd h (by omega)
  | k + 1, D, h, j, hj => by
    obtain ⟨i, rfl⟩ : ∃ i, j = i + 1 := ⟨j - 1, by omega⟩
    unfold scF
    split
    · rfl
    · rename_i b hb
      have h1 := (fst_len hb).1
      rw [scF_more k (D.drop (8 + b.length)) (by simp; omega) i (by omega)]
/-- what stands in a file -/
def scn (D : List UInt8) : List (List UInt8) × Nat := scF (D.length + 1) D
theorem scn_none {D : List UInt8} (h : fst1 D = none) : scn D = ([], 0) := by
  unfold scn scF
  rw [h]
theorem scn_some {D b : List UInt8} (h : fst1 D = some b) : scn D = (b :: (scn (D.drop (8 + b.length))).1, 8 + b.length + (scn (D.drop (8 + b.length))).2) := by
  have h1 := (fst_len h).1
  have e : scF D.length (D.drop (8 + b.length)) = scn (D.drop (8 + b.length)) := scF_more _ _ (by omega) _ (by simp; omega)
  rw [← e]
  show scF (D.length + 1) D = _
  rw [scF, h]
theorem scn_le (D : List UInt8) : (scn D).2 ≤ D.length ∧ (scn D).1.length ≤ D.length := by
  have : ∀ n, ∀ D : List UInt8, D.length ≤ n → (scn D).2 ≤ D.length ∧ (scn D).1.length ≤ D.length := by
    intro n
    induction n with
    | zero =>
      intro D h
      have : fst1 D = none := by unfold fst1; rw [if_pos (by omega)]
      rw [scn_none this]
      simp
    | succ n ih =>
      intro D h
      cases hf : fst1 D with
      | none => rw [scn_none hf]; simp
      | some b =>
        have h1 := (fst_len hf).1
        obtain ⟨i1, i2⟩ := ih (D.drop (8 + b.length)) (by simp; omega)
        rw [scn_some hf]
        simp at i1 i2 ⊢
        omega
  exact this _ D (Nat.le_refl _)
theorem fst_frm (L R : List UInt8) (h : L.length ≤ 4194304) : fst1 (frm L ++ R) = some L := by
  have e1 : rd4 (frm L ++ R) = L.length := by
    unfold frm
    rw [List.append_assoc]
    exact rd4_le4 _ _ (by omega)
  have e2 : (frm L ++ R).drop 4 = le4 (sm (le4 L.length ++ L)) ++ (L ++ R) := by
    unfold frm
    rw [List.append_assoc, List.append_assoc]
    exact List.drop_left' (le4_len _)
  have e3 : (frm L ++ R).take 4 = le4 L.length := by
    unfold frm
    rw [List.append_assoc]
    exact List.take_left' (le4_len _)
  have e4 : (frm L ++ R).drop 8 = L ++ R := by
    rw [show 8 = 4 + 4 from rfl, ← List.drop_drop, e2]
    exact List.drop_left' (le4_len _)
  have e5 : ((frm L ++ R).drop 8).take (rd4 (frm L ++ R)) = L := by
    rw [e4, e1]
    exact List.take_left' rfl
  unfold fst1
  rw [if_neg (by simp [frm_len]; omega), if_neg (by rw [e1]; simp [frm_len]; omega), e5, e3, e2, rd4_le4 _ _ (sm_lt _), if_pos rfl]
theorem scn_frm (L R : List UInt8) (h : L.length ≤ 4194304) : scn (frm L ++ R) = (L :: (scn R).1, 8 + L.length + (scn R).2) := by
  have e := scn_some (fst_frm L R h)
  rw [List.drop_left' (frm_len L)] at e
  exact e
theorem fst_cut (L R : List UInt8) (k : Nat) (hk : k < 8 + L.length) (h : L.length ≤ 4194304) : fst1 ((frm L ++ R).take k) = none := by
  unfold fst1
  have hl : ((frm L ++ R).take k).length = k := by simp [frm_len]; omega
  rw [hl]
  by_cases h8 : k < 8
  · rw [if_pos h8]
  · rw [if_neg h8, if_pos]
    rw [rd4_take _ _ (by omega) (by simp [frm_len]; omega)]
    have e1 : rd4 (frm L ++ R) = L.length := by
      unfold frm
      rw [List.append_assoc]
      exact rd4_le4 _ _ (by omega)
    rw [e1]
    omega
/-- what the first of them take -/
def en (Ps : List (List UInt8)) (i : Nat) : Nat := ((Ps.take i).flatMap frm).length
theorem en_zero (Ps : List (List UInt8)) : en Ps 0 = 0 := by simp [en]
theorem en_succ (P : List UInt8) (Ps : List (List UInt8)) (i : Nat) : en (P :: Ps) (i + 1) = 8 + P.length + en Ps i := by
  simp [en, frm_len]
/-- records that are cut -/
theorem scn_cut : ∀ (Ps : List (List UInt8)) (k : Nat), (∀ P ∈ Ps, P.length ≤ 4194304) → k ≤ (Ps.flatMap frm).length →
    ∃ K, K ≤ Ps.length ∧ (scn ((Ps.flatMap frm).take k)).1.length = K ∧ (scn ((Ps.flatMap frm).take k)).2 = en Ps K ∧ en Ps K ≤ k ∧ (K < Ps.length → k < en Ps (K + 1))
  | [], k, _, hk => by
    refine ⟨0, Nat.le_refl _, ?_, ?_, by rw [en_zero]; omega, fun h => absurd h (by simp)⟩
    · rw [scn_none (by unfold fst1; simp)]; rfl
    · rw [scn_none (by unfold fst1; simp), en_zero]
  | P :: Ps, k, h, hk => by
    have hP := h P (by simp)
    rw [List.flatMap_cons] at hk ⊢
    by_cases hc : k < 8 + P.length
    · refine ⟨0, Nat.zero_le _, ?_, ?_, by rw [en_zero]; omega, fun _ => by rw [en_succ, en_zero]; omega⟩
      · rw [scn_none (fst_cut P _ k hc hP)]; rfl
      · rw [scn_none (fst_cut P _ k hc hP), en_zero]
    · rw [List.length_append, frm_len] at hk
      obtain ⟨K, h1, h2, h3, h4, h5⟩ := scn_cut Ps (k - (8 + P.length)) (fun Q hQ => h Q (by simp [hQ])) (by omega)
      have e : (frm P ++ Ps.flatMap frm).take k = frm P ++ (Ps.flatMap frm).take (k - (8 + P.length)) := by
        rw [List.take_append, frm_len, List.take_of_length_le (by rw [frm_len]; omega)]
      rw [e, scn_frm _ _ hP]
      refine ⟨K + 1, by simp; omega, by simp [h2], by rw [en_succ, h3], by rw [en_succ]; omega, fun hK => ?_⟩
      have := h5 (by simpa using hK)
      rw [en_succ]
      omega
theorem en_mono (Ps : List (List UInt8)) : ∀ i j, i ≤ j → en Ps i ≤ en Ps j := by
  induction Ps with
  | nil => intro i j _; simp [en]
  | cons P Ps ih =>
    intro i j hij
    cases i with
    | zero => rw [en_zero]; omega
    | succ i =>
      obtain ⟨m, rfl⟩ : ∃ m, j = m + 1 := ⟨j - 1, by omega⟩
      rw [en_succ, en_succ]
      have := ih i m (by omega)
      omega
end Go.Proofs.YtcefpjjefokjjaaDoor
