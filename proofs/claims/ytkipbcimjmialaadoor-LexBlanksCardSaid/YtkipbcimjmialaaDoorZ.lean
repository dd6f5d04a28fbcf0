/- Columns' letters, numbers, ids and references as texts, plainly. No program in this text. -/
import Derived.Lib.IndexMore
import Derived.Lib.ItoaNum
import Derived.Lib.Strings
namespace Go.Proofs.YtkipbcimjmialaaDoor
open Go
set_option linter.unusedSimpArgs false
set_option linter.unusedVariables false

/-- great letters, and the number that they count -/
def let1 (c : UInt8) : Bool := decide (65 ≤ c.toNat ∧ c.toNat ≤ 90)
def allL (l : List UInt8) : Bool := l.all let1
def colV (l : List UInt8) : Nat := l.foldl (fun n c => n * 26 + (c.toNat - 65) + 1) 0
def lead (l : List UInt8) : Nat := (l.takeWhile let1).length
def colF (l : List UInt8) : Bool := !l.isEmpty && decide (l.length ≤ 9) && allL l && decide (colV l ≤ 2199023255552)
def colK (l : List UInt8) : Int := if colF l then (colV l : Int) - 1 else 0
/-- digits, and the number that they write -/
def dig (c : UInt8) : Bool := decide (48 ≤ c.toNat ∧ c.toNat ≤ 57)
def allD (l : List UInt8) : Bool := l.all dig
def val (l : List UInt8) : Nat := l.foldl (fun n c => n * 10 + (c.toNat - 48)) 0
def numF (l : List UInt8) (most : Nat) : Bool := !l.isEmpty && !(l.headD 0 == 48 && decide (1 < l.length)) && allD l && decide (val l ≤ most)
def numK (l : List UInt8) (most : Nat) : Int := if numF l most then (val l : Int) else 0
def numR (l : List UInt8) (most : Nat) : Int := if numF l most then (val l : Int) else -1
/-- the owner of an id; -1: it is none -/
def ownP (p : List UInt8 × List UInt8 × Bool) : Int := if p.2.2 && numF p.1 15 && numF p.2.1 999999 then (val p.1 : Int) else -1
def ownK (l : List UInt8) : Int := if Lib.hasPrefix l [99] then ownP (Lib.cut (Lib.trimPrefix l [99]) [110]) else -1
/-- the parts of a reference's text -/
def shP (p : List UInt8 × List UInt8 × Bool) (l : List UInt8) : List UInt8 := if p.2.2 then p.2.1 else l
def refF (l : List UInt8) : Bool :=
  (!(Lib.cut l [33]).2.2 || decide (0 ≤ ownK (Lib.cut l [33]).1)) &&
  (colF ((Lib.trimPrefix (shP (Lib.cut l [33]) l) [36]).takeWhile let1) &&
   (numF (Lib.trimPrefix ((Lib.trimPrefix (shP (Lib.cut l [33]) l) [36]).dropWhile let1) [36]) 2199023255552 &&
    decide (val (Lib.trimPrefix ((Lib.trimPrefix (shP (Lib.cut l [33]) l) [36]).dropWhile let1) [36]) ≠ 0)))

theorem val_app (l m : List UInt8) : val (l ++ m) = val l * 10 ^ m.length + val m := by
  have h : ∀ (m : List UInt8) (n : Nat), m.foldl (fun n c => n * 10 + (c.toNat - 48)) n = n * 10 ^ m.length + val m := by
    intro m
    induction m with
    | nil => intro n; simp [val]
    | cons c m ih =>
      intro n
      have e : val (c :: m) = m.foldl (fun n c => n * 10 + (c.toNat - 48)) (0 * 10 + (c.toNat - 48)) := rfl
      rw [e, List.foldl_cons, ih, ih, List.length_cons, Nat.pow_succ, Nat.add_mul, Nat.add_mul]
      rw [Nat.mul_assoc n, Nat.mul_comm 10]
      omega
  have e : val (l ++ m) = m.foldl (fun n c => n * 10 + (c.toNat - 48)) (val l) := by unfold val; rw [List.foldl_append]
  rw [e, h]
theorem val_one (c : UInt8) : val [c] = c.toNat - 48 := by simp [val]
theorem val_snoc (l : List UInt8) (c : UInt8) : val (l ++ [c]) = val l * 10 + (c.toNat - 48) := by unfold val; rw [List.foldl_append]; rfl
theorem val_ge (l m : List UInt8) : val l ≤ val (l ++ m) := by
  rw [val_app]
  have h : 1 ≤ 10 ^ m.length := Nat.pow_pos (by omega)
  have := Nat.mul_le_mul_left (val l) h
  omega
theorem colV_snoc (l : List UInt8) (c : UInt8) : colV (l ++ [c]) = colV l * 26 + (c.toNat - 65) + 1 := by unfold colV; rw [List.foldl_append]; rfl

theorem allD_app (a b : List UInt8) : allD (a ++ b) = (allD a && allD b) := by unfold allD; rw [List.all_append]
theorem allL_app (a b : List UInt8) : allL (a ++ b) = (allL a && allL b) := by unfold allL; rw [List.all_append]
theorem allD_mem {a : List UInt8} (h : allD a = true) {c : UInt8} (hc : c ∈ a) : 48 ≤ c.toNat ∧ c.toNat ≤ 57 := by
  unfold allD at h
  rw [List.all_eq_true] at h
  have := h c hc
  unfold dig at this
  simpa using this
theorem allL_mem {a : List UInt8} (h : allL a = true) {c : UInt8} (hc : c ∈ a) : 65 ≤ c.toNat ∧ c.toNat ≤ 90 := by
  unfold allL at h
  rw [List.all_eq_true] at h
  have := h c hc
  unfold let1 at this
  simpa using this

theorem rev_ind {P : List UInt8 → Prop} (h0 : P []) (h1 : ∀ l c, P l → P (l ++ [c])) (l : List UInt8) : P l := by
  have h : ∀ m : List UInt8, P m.reverse := by
    intro m
    induction m with
    | nil => exact h0
    | cons c m ih => rw [List.reverse_cons]; exact h1 _ _ ih
  have := h l.reverse
  rwa [List.reverse_reverse] at this
/-- letters in a row: less than 27 times as many as there are places -/
theorem colV_lt (l : List UInt8) (h : allL l = true) : colV l + 1 ≤ 27 ^ l.length := by
  revert h
  refine rev_ind (P := fun l => allL l = true → colV l + 1 ≤ 27 ^ l.length) (fun _ => by simp [colV]) ?_ l
  · intro l c ih h
    rw [allL_app, Bool.and_eq_true] at h
    have h1 := ih h.1
    have h2 := allL_mem h.2 (c := c) (by simp)
    rw [colV_snoc, List.length_append, List.length_singleton, Nat.pow_succ]
    omega
theorem colV_nine (l : List UInt8) (h : allL l = true) (h9 : l.length ≤ 9) : colV l + 1 ≤ 7625597484987 := by
  have h1 := colV_lt l h
  have h2 : 27 ^ l.length ≤ 27 ^ 9 := Nat.pow_le_pow_right (by omega) h9
  have h3 : (27 : Nat) ^ 9 = 7625597484987 := by decide
  omega

theorem allL_iff_lead (l : List UInt8) : allL l = decide (l.length ≤ lead l) := by
  unfold lead
  induction l with
  | nil => rfl
  | cons c l ih =>
    unfold allL at *
    rw [List.all_cons, List.takeWhile_cons]
    cases hc : let1 c
    · simp
    · simp only [Bool.true_and, if_true, List.length_cons]
      rw [ih]
      simp
theorem lead_le (l : List UInt8) : lead l ≤ l.length := by
  unfold lead
  exact (List.takeWhile_sublist _).length_le
theorem take_lead (l : List UInt8) : l.take (lead l) = l.takeWhile let1 := by
  unfold lead
  induction l with
  | nil => rfl
  | cons c l ih =>
    rw [List.takeWhile_cons]
    split
    · rw [List.length_cons, List.take_succ_cons, ih]
    · rfl
theorem drop_lead (l : List UInt8) : l.drop (lead l) = l.dropWhile let1 := by
  unfold lead
  induction l with
  | nil => rfl
  | cons c l ih =>
    rw [List.takeWhile_cons, List.dropWhile_cons]
    split
    · rw [List.length_cons, List.drop_succ_cons, ih]
    · rfl
theorem lead_at (a r : List UInt8) (c : UInt8) (ha : allL a = true) (hc : let1 c = false) : lead (a ++ c :: r) = a.length := by
  unfold lead
  induction a with
  | nil => rw [List.nil_append, List.takeWhile_cons, hc]; rfl
  | cons d a ih =>
    unfold allL at *
    rw [List.all_cons, Bool.and_eq_true] at ha
    rw [List.cons_append, List.takeWhile_cons, ha.1]
    simp only [if_true, List.length_cons]
    rw [ih ha.2]
theorem lead_all (a : List UInt8) (ha : allL a = true) : lead a = a.length := by
  have h1 := allL_iff_lead a
  have h2 := lead_le a
  rw [ha] at h1
  have := of_decide_eq_true h1.symm
  omega

theorem cut_at (x : UInt8) (a b : List UInt8) (h : x ∉ a) : Lib.cut (a ++ x :: b) [x] = (a, b, true) := by
  have hi : Lib.index (a ++ x :: b) [x] = (a.length : Int) := by
    refine Lib.index_first (by simp) ?_ ?_
    · unfold Lib.occAt
      rw [List.drop_left]
      simp
    · intro j hj
      unfold Lib.occAt
      rw [List.drop_append_of_le_length (by omega), List.drop_eq_getElem_cons hj]
      simp only [List.cons_append, List.isPrefixOf_cons_cons, List.isPrefixOf_nil_left, Bool.and_true, beq_eq_false_iff_ne]
      intro e
      exact h (e ▸ List.getElem_mem hj)
  unfold Lib.cut
  rw [hi, if_pos (by omega)]
  simp
theorem cut_free (x : UInt8) (a : List UInt8) (h : x ∉ a) : Lib.cut a [x] = (a, [], false) := by
  have hi : Lib.index a [x] = -1 := by
    refine Lib.index_none ?_
    intro j hj
    unfold Lib.occAt
    by_cases hl : j < a.length
    · rw [List.drop_eq_getElem_cons hl]
      simp only [List.isPrefixOf_cons_cons, List.isPrefixOf_nil_left, Bool.and_true, beq_eq_false_iff_ne]
      intro e
      exact h (e ▸ List.getElem_mem hl)
    · rw [List.drop_of_length_le (by omega)]
      rfl
  unfold Lib.cut
  rw [hi, if_neg (by omega)]
/-- any text: it has the sign, the first one, or none -/
theorem cut_any (x : UInt8) (t : List UInt8) : (∃ a b, t = a ++ x :: b ∧ x ∉ a) ∨ x ∉ t := by
  induction t with
  | nil => exact .inr (by simp)
  | cons c t ih =>
    by_cases hc : c = x
    · subst hc; exact .inl ⟨[], t, rfl, by simp⟩
    · rcases ih with ⟨a, b, rfl, h⟩ | h
      · exact .inl ⟨c :: a, b, rfl, by simp [h, Ne.symm hc]⟩
      · exact .inr (by simp [h, Ne.symm hc])
theorem cut_le (x : UInt8) (t : List UInt8) : (Lib.cut t [x]).1.length + (Lib.cut t [x]).2.1.length ≤ t.length := by
  unfold Lib.cut
  split
  · simp only [List.length_take, List.length_drop, List.length_cons, List.length_nil]
    omega
  · simp

/-- digits without a nought ahead: as great as they are many -/
theorem val_big (c : UInt8) (l : List UInt8) (hc : 49 ≤ c.toNat) : 10 ^ l.length ≤ val (c :: l) := by
  have e : val (c :: l) = val [c] * 10 ^ l.length + val l := val_app [c] l
  rw [e, val_one]
  have := Nat.mul_le_mul_right (10 ^ l.length) (show 1 ≤ c.toNat - 48 by omega)
  omega
theorem numF_long (l : List UInt8) (most : Nat) (h : 15 < l.length) (hm : most < 1000000000000000) : numF l most = false := by
  match l with
  | [] => simp at h
  | c :: l =>
    unfold numF
    cases hd : allD (c :: l)
    · simp
    · by_cases hc : c = 48
      · subst hc
        have : 1 < ((48 : UInt8) :: l).length := by omega
        have h2 : decide (1 < ((48 : UInt8) :: l).length) = true := decide_eq_true this
        rw [h2]
        simp
      · have h1 := allD_mem hd (c := c) (by simp)
        have h2 : c.toNat ≠ 48 := fun e => hc (UInt8.toNat_inj.1 e)
        have h3 := val_big c l (by omega)
        rw [List.length_cons] at h
        have h4 : 10 ^ 15 ≤ 10 ^ l.length := Nat.pow_le_pow_right (by omega) (by omega)
        have h5 : decide (val (c :: l) ≤ most) = false := decide_eq_false (by omega)
        rw [h5]
        simp

theorem dec_all (u : Nat) : allD (Lib.decDigits u) = true := by
  induction u using Nat.strongRecOn with
  | _ u ih =>
    have h1 : ∀ v : Nat, allD [UInt8.ofNat (48 + v % 10)] = true := fun v => by
      have : (UInt8.ofNat (48 + v % 10)).toNat = (48 + v % 10) % 256 := UInt8.toNat_ofNat'
      unfold allD dig
      simp only [List.all_cons, List.all_nil, Bool.and_true, decide_eq_true_eq, this]
      omega
    by_cases h : u < 10
    · rw [Lib.decDigits_one h]
      have := h1 u
      rw [Nat.mod_eq_of_lt h] at this
      exact this
    · rw [Lib.decDigits, dif_neg h, allD_app, ih (u / 10) (by omega), h1]; rfl
theorem dec_val (u : Nat) : val (Lib.decDigits u) = u := by
  induction u using Nat.strongRecOn with
  | _ u ih =>
    have h1 : ∀ v : Nat, val [UInt8.ofNat (48 + v % 10)] = v % 10 := fun v => by
      have : (UInt8.ofNat (48 + v % 10)).toNat = (48 + v % 10) % 256 := UInt8.toNat_ofNat'
      rw [val_one, this]
      omega
    by_cases h : u < 10
    · rw [Lib.decDigits_one h]
      have := h1 u
      rw [Nat.mod_eq_of_lt h] at this
      exact this
    · rw [Lib.decDigits, dif_neg h, val_app, ih (u / 10) (by omega), h1]
      simp only [List.length_cons, List.length_nil]
      omega
theorem dec_ne (u : Nat) : Lib.decDigits u ≠ [] := fun h => by
  have := congrArg List.length h
  rw [Lib.decDigits_length] at this
  have := Lib.nDigits_pos u
  simp at *
  omega
theorem headD_app {a : List UInt8} (b : List UInt8) (h : a ≠ []) : (a ++ b).headD 0 = a.headD 0 := by
  cases a; exact absurd rfl h; rfl
theorem dec_head (u : Nat) (h0 : 0 < u) : (Lib.decDigits u).headD 0 ≠ 48 := by
  induction u using Nat.strongRecOn with
  | _ u ih =>
    by_cases h : u < 10
    · rw [Lib.decDigits_one h]
      intro e
      have e2 := congrArg UInt8.toNat (show UInt8.ofNat (48 + u) = 48 from e)
      have : (UInt8.ofNat (48 + u)).toNat = (48 + u) % 256 := UInt8.toNat_ofNat'
      rw [this] at e2
      have : (48 : UInt8).toNat = 48 := rfl
      omega
    · rw [Lib.decDigits, dif_neg h, headD_app _ (dec_ne _)]
      exact ih (u / 10) (by omega) (by omega)
theorem dec_numF (u most : Nat) (h0 : 0 < u) (h : u ≤ most) : numF (Lib.decDigits u) most = true := by
  unfold numF
  have h1 := dec_head u h0
  have h2 := dec_ne u
  have h3 : (Lib.decDigits u).isEmpty = false := by cases hh : Lib.decDigits u; exact absurd hh h2; rfl
  have h4 : ((Lib.decDigits u).headD 0 == 48) = false := beq_eq_false_iff_ne.2 h1
  rw [dec_all, dec_val, h3, h4]
  simp [h]

/-- the letters that count a number -/
def nmL : Nat → List UInt8
  | 0 => []
  | n + 1 => nmL (n / 26) ++ [UInt8.ofNat (65 + n % 26)]
theorem nm_byte (n : Nat) : (UInt8.ofNat (65 + n % 26)).toNat = 65 + n % 26 := by
  have : (UInt8.ofNat (65 + n % 26)).toNat = (65 + n % 26) % 256 := UInt8.toNat_ofNat'
  omega
theorem nm_succ (n : Nat) : nmL (n + 1) = nmL (n / 26) ++ [UInt8.ofNat (65 + n % 26)] := by rw [nmL]
theorem nm_all (n : Nat) : allL (nmL n) = true := by
  induction n using Nat.strongRecOn with
  | _ n ih =>
    match n with
    | 0 => rw [nmL]; rfl
    | n + 1 =>
      rw [nm_succ, allL_app, ih (n / 26) (by omega)]
      unfold allL let1
      simp only [List.all_cons, List.all_nil, nm_byte]
      simp
      omega
theorem nm_val (n : Nat) : colV (nmL n) = n := by
  induction n using Nat.strongRecOn with
  | _ n ih =>
    match n with
    | 0 => rw [nmL]; rfl
    | n + 1 =>
      rw [nm_succ, colV_snoc, ih (n / 26) (by omega), nm_byte]
      omega
/-- letters are the ones that count their own number -/
theorem nm_colV (l : List UInt8) (h : allL l = true) : nmL (colV l) = l := by
  revert h
  refine rev_ind (P := fun l => allL l = true → nmL (colV l) = l) (fun _ => by rw [show colV [] = 0 from rfl, nmL]) ?_ l
  · intro l c ih h
    rw [allL_app, Bool.and_eq_true] at h
    have h2 := allL_mem h.2 (c := c) (by simp)
    have e : colV (l ++ [c]) = colV l * 26 + (c.toNat - 65) + 1 := colV_snoc l c
    rw [e, nm_succ, show (colV l * 26 + (c.toNat - 65)) / 26 = colV l by omega, ih h.1, show (colV l * 26 + (c.toNat - 65)) % 26 = c.toNat - 65 by omega]
    congr 2
    apply UInt8.toNat_inj.1
    have : (UInt8.ofNat (65 + (c.toNat - 65))).toNat = (65 + (c.toNat - 65)) % 256 := UInt8.toNat_ofNat'
    rw [this]
    omega
theorem nm_ne (n : Nat) (h : 0 < n) : nmL n ≠ [] := by
  obtain ⟨m, rfl⟩ : ∃ m, n = m + 1 := ⟨n - 1, by omega⟩
  rw [nm_succ]
  simp
theorem nm_len (k : Nat) : ∀ n : Nat, n < 26 ^ k → (nmL n).length ≤ k := by
  induction k with
  | zero => intro n h; obtain rfl : n = 0 := (by rw [Nat.pow_zero] at h; omega); rw [nmL]; simp
  | succ k ih =>
    intro n h
    match n with
    | 0 => rw [nmL]; simp
    | n + 1 =>
      rw [nm_succ, List.length_append, List.length_singleton]
      have : (nmL (n / 26)).length ≤ k := ih _ (by rw [Nat.pow_succ] at h; omega)
      omega
theorem nm_nine (n : Nat) (h : n ≤ 2199023255552) : (nmL n).length ≤ 9 :=
  nm_len 9 n (by have : (26 : Nat) ^ 9 = 5429503678976 := by decide
                 omega)
theorem nm_colF (n : Nat) (h0 : 0 < n) (h : n ≤ 2199023255552) : colF (nmL n) = true := by
  unfold colF
  have h2 := nm_ne n h0
  have h3 : (nmL n).isEmpty = false := by cases hh : nmL n; exact absurd hh h2; rfl
  rw [nm_all, nm_val, h3]
  simp [h, nm_nine n h]
end Go.Proofs.YtkipbcimjmialaaDoor
