/- Texts of numbers, plainly: what is printed, what is read, and that what is printed is read again. No program in this text. -/
import Derived.Lib.IndexMore
import Derived.Lib.ItoaNum
import Derived.Lib.TrimByte
import Derived.Lib.Strings
namespace Go.Proofs.YtfjpdopmojfchaaGreatDoor
open Go
set_option linter.unusedSimpArgs false
set_option linter.unusedVariables false
/-- what is refused: no Fix -/
def fitB (n : Int) : Bool := decide (-9223372036854775808 ≤ n ∧ n ≤ 9223372036854775807)
def keep (n : Int) : Int := if fitB n then n else 0
/-- a size and a sign -/
def sgn (n : Int) (neg : Bool) : Int := if neg then -n else n
def dig (c : UInt8) : Bool := decide (48 ≤ c.toNat ∧ c.toNat ≤ 57)
def allD (l : List UInt8) : Bool := l.all dig
/-- the number that digits write -/
def val (l : List UInt8) : Nat := l.foldl (fun n c => n * 10 + (c.toNat - 48)) 0
/-- what may stand ahead of the point, and behind it -/
def wholeB (l : List UInt8) : Bool := l == [48] || (!l.isEmpty && (l.headD 0 != 48) && allD l)
def partB (l : List UInt8) : Bool := !l.isEmpty && decide (l.length ≤ 4) && allD l
/-- a text as a number; none: it is none -/
def parseO (l : List UInt8) : Option Int :=
  if wholeB (Lib.cut (Lib.trimPrefix l [45]) [46]).1 && (!(Lib.cut (Lib.trimPrefix l [45]) [46]).2.2 || partB (Lib.cut (Lib.trimPrefix l [45]) [46]).2.1) then
    some (sgn (val ((Lib.cut (Lib.trimPrefix l [45]) [46]).1 ++ (Lib.cut (Lib.trimPrefix l [45]) [46]).2.1 ++ [48, 48, 48, 48].drop (Lib.cut (Lib.trimPrefix l [45]) [46]).2.1.length)) (Lib.hasPrefix l [45]))
  else none
def pk : Option Int → Int | none => 0 | some n => keep n
def pf : Option Int → Bool | none => false | some n => fitB n
/-- what stands behind the point: the digits without noughts at the end, with the point ahead; nothing of none -/
def partL (r : Nat) : List UInt8 := if r = 0 then [] else 46 :: Lib.trimRightB ((Lib.decDigits (10000 + r)).drop 1) 48
def magL (m : Nat) : List UInt8 := Lib.decDigits (m / 10000) ++ partL (m % 10000)
def printL (a : Int) : List UInt8 := if a < 0 then 45 :: magL a.natAbs else magL a.natAbs
/-- what is read behind the sign -/
def parse2 (t : List UInt8) (ng : Bool) : Option Int :=
  if wholeB (Lib.cut t [46]).1 && (!(Lib.cut t [46]).2.2 || partB (Lib.cut t [46]).2.1) then
    some (sgn (val ((Lib.cut t [46]).1 ++ (Lib.cut t [46]).2.1 ++ [48, 48, 48, 48].drop (Lib.cut t [46]).2.1.length)) ng)
  else none
theorem parseO_eq (l : List UInt8) : parseO l = parse2 (Lib.trimPrefix l [45]) (Lib.hasPrefix l [45]) := rfl
theorem val_app (l m : List UInt8) : val (l ++ m) = val l * 10 ^ m.length + val m := by
  have h : ∀ (m : List UInt8) (n : Nat), m.foldl (fun n c => n * 10 + (c.toNat - 48)) n = n * 10 ^ m.length + val m := by
    intro m
    induction m with
    | nil => intro n; simp [val]
    | cons c m ih =>
      intro n
      have e : val (c :: m) = m.foldl (fun n c => n * 10 + (c.toNat - 48)) (0 * 10 + (c.toNat - 48)) := rfl
      rw [e, List.foldl_cons, ih, ih, List.length_cons, Nat.pow_succ, Nat.add_mul, Nat.add_mul]
      rw [Nat.mul_assoc n, Nat.mul_comm 10]
      omega
  have e : val (l ++ m) = m.foldl (fun n c => n * 10 + (c.toNat - 48)) (val l) := by unfold val; rw [List.foldl_append]
  rw [e, h]
theorem val_zeros (k : Nat) : val (List.replicate k 48) = 0 := by
  induction k with
  | zero => rfl
  | succ k ih => rw [List.replicate_succ']; rw [val_app, ih]; simp [val]
theorem zeros_drop (k : Nat) (h : k ≤ 4) : ([48, 48, 48, 48] : List UInt8).drop k = List.replicate (4 - k) 48 := by
  rcases (by omega : k = 0 ∨ k = 1 ∨ k = 2 ∨ k = 3 ∨ k = 4) with rfl | rfl | rfl | rfl | rfl <;> rfl
theorem allD_app (a b : List UInt8) : allD (a ++ b) = (allD a && allD b) := by unfold allD; rw [List.all_append]
theorem allD_mem {a : List UInt8} (h : allD a = true) {c : UInt8} (hc : c ∈ a) : 48 ≤ c.toNat ∧ c.toNat ≤ 57 := by
  unfold allD at h
  rw [List.all_eq_true] at h
  have := h c hc
  unfold dig at this
  simpa using this
theorem allD_no46 {a : List UInt8} (h : allD a = true) : (46 : UInt8) ∉ a := fun hc => by
  have := allD_mem h hc
  have e : (46 : UInt8).toNat = 46 := rfl
  omega
theorem cut_at (a b : List UInt8) (h : (46 : UInt8) ∉ a) : Lib.cut (a ++ 46 :: b) [46] = (a, b, true) := by
  have hi : Lib.index (a ++ 46 :: b) [46] = (a.length : Int) := by
    refine Lib.index_first (by simp) ?_ ?_
    · unfold Lib.occAt
      rw [List.drop_left]
      simp
    · intro j hj
      unfold Lib.occAt
      rw [List.drop_append_of_le_length (by omega), List.drop_eq_getElem_cons hj]
      simp only [List.cons_append, List.isPrefixOf_cons_cons, List.isPrefixOf_nil_left, Bool.and_true, beq_eq_false_iff_ne]
      intro e
      exact h (e ▸ List.getElem_mem hj)
  unfold Lib.cut
  rw [hi, if_pos (by omega)]
  simp
theorem cut_free (a : List UInt8) (h : (46 : UInt8) ∉ a) : Lib.cut a [46] = (a, [], false) := by
  have hi : Lib.index a [46] = -1 := by
    refine Lib.index_none ?_
    intro j hj
    unfold Lib.occAt
    by_cases hl : j < a.length
    · rw [List.drop_eq_getElem_cons hl]
      simp only [List.isPrefixOf_cons_cons, List.isPrefixOf_nil_left, Bool.and_true, beq_eq_false_iff_ne]
      intro e
      exact h (e ▸ List.getElem_mem hl)
    · rw [List.drop_of_length_le (by omega)]
      rfl
  unfold Lib.cut
  rw [hi, if_neg (by omega)]
/-- any text: it has a point, the first one, or none -/
theorem cut_any (t : List UInt8) : (∃ a b, t = a ++ 46 :: b ∧ (46 : UInt8) ∉ a) ∨ (46 : UInt8) ∉ t := by
  induction t with
  | nil => exact .inr (by simp)
  | cons c t ih =>
    by_cases hc : c = 46
    · subst hc; exact .inl ⟨[], t, rfl, by simp⟩
    · rcases ih with ⟨a, b, rfl, h⟩ | h
      · exact .inl ⟨c :: a, b, rfl, by simp [h, Ne.symm hc]⟩
      · exact .inr (by simp [h, Ne.symm hc])
theorem whole_all {l : List UInt8} (h : wholeB l = true) : allD l = true := by
  unfold wholeB at h
  rw [Bool.or_eq_true] at h
  rcases h with h | h
  · rw [eq_of_beq h]; rfl
  · rw [Bool.and_eq_true] at h; exact h.2
/-- of digits alone: they may stand ahead of the point unless there is none, or more than one and a nought ahead -/
theorem whole_yes {l : List UInt8} (h : allD l = true) (h0 : l.length ≠ 0) (h1 : ¬ (1 < l.length ∧ l.headD 0 = 48)) : wholeB l = true := by
  unfold wholeB
  rw [h]
  match l with
  | [] => exact absurd rfl h0
  | [c] =>
    by_cases hc : c = 48
    · subst hc; rfl
    · have : (c != 48) = true := by simpa using hc
      simp only [List.headD_cons, this]; simp
  | c :: d :: l =>
    have hc : c ≠ 48 := fun e => h1 ⟨by simp, by simpa using e⟩
    have : (c != 48) = true := by simpa using hc
    simp only [List.headD_cons, this]; simp
theorem whole_no {l : List UInt8} (h : l.length = 0 ∨ (1 < l.length ∧ l.headD 0 = 48)) : wholeB l = false := by
  rcases h with h | ⟨h1, h2⟩
  · have : l = [] := List.eq_nil_of_length_eq_zero h
    subst this; rfl
  · match l with
    | [] => simp at h1
    | [c] => simp at h1
    | c :: d :: l =>
      have e : c = 48 := by simpa using h2
      subst e
      unfold wholeB
      simp
theorem val_pad (t : List UInt8) (k : Nat) (h : k ≤ 4) : val (t ++ ([48, 48, 48, 48] : List UInt8).drop k) = val t * 10 ^ (4 - k) := by
  rw [zeros_drop k h, val_app, val_zeros, List.length_replicate]
  omega
theorem parse2_plain {t : List UInt8} (ng : Bool) (h : allD t = true) : parse2 t ng = if wholeB t then some (sgn ((val t * 10000 : Nat) : Int) ng) else none := by
  unfold parse2
  rw [cut_free t (allD_no46 h)]
  have e : val (t ++ [] ++ ([48, 48, 48, 48] : List UInt8).drop ([] : List UInt8).length) = val t * 10000 := by
    rw [List.append_nil]; exact val_pad t 0 (by omega)
  simp only [e]
  cases wholeB t <;> rfl
theorem parse2_point {a b : List UInt8} (ng : Bool) (ha : allD a = true) (hb : allD b = true) : parse2 (a ++ 46 :: b) ng =
    if wholeB a && (decide (1 ≤ b.length) && decide (b.length ≤ 4)) then some (sgn ((val (a ++ b) * 10 ^ (4 - b.length) : Nat) : Int) ng) else none := by
  unfold parse2
  rw [cut_at a b (allD_no46 ha)]
  have hp : partB b = (decide (1 ≤ b.length) && decide (b.length ≤ 4)) := by
    unfold partB
    rw [hb]
    cases b <;> simp
  simp only [hp]
  by_cases h4 : b.length ≤ 4
  · rw [val_pad (a ++ b) _ h4]
    cases wholeB a <;> simp
  · simp [h4]
theorem parse2_bad1 {a r : List UInt8} {c : UInt8} (ng : Bool) (hc : dig c = false) (h46 : c ≠ 46) (ha : (46 : UInt8) ∉ a) : parse2 (a ++ c :: r) ng = none := by
  have hno : ∀ x, allD (a ++ c :: x) = false := fun x => by
    rw [allD_app]
    have : allD (c :: x) = false := by unfold allD; rw [List.all_cons, hc]; rfl
    rw [this, Bool.and_false]
  have hw : ∀ x, wholeB (a ++ c :: x) = false := fun x => by
    cases h : wholeB (a ++ c :: x) with
    | false => rfl
    | true => have := whole_all h; rw [hno] at this; cases this
  unfold parse2
  rcases cut_any r with ⟨x, y, rfl, h⟩ | h
  · have e : a ++ c :: (x ++ 46 :: y) = (a ++ c :: x) ++ 46 :: y := by simp
    rw [e, cut_at _ y (by simp [ha, h, Ne.symm h46])]
    simp [hw]
  · rw [cut_free _ (by simp [ha, h, Ne.symm h46])]
    simp [hw]
theorem parse2_bad2 {a b r : List UInt8} {c : UInt8} (ng : Bool) (hc : dig c = false) (ha : (46 : UInt8) ∉ a) : parse2 (a ++ 46 :: (b ++ c :: r)) ng = none := by
  unfold parse2
  rw [cut_at a _ ha]
  have : partB (b ++ c :: r) = false := by
    unfold partB
    rw [allD_app]
    have : allD (c :: r) = false := by unfold allD; rw [List.all_cons, hc]; rfl
    rw [this]
    simp
  simp [this]
/-- What the reading has seen of a text at place k: where the point was (-1: nowhere yet), and the number of the digits. -/
def PI (t : List UInt8) (k : Nat) (pt : Int) (V : Nat) : Prop :=
  (pt = -1 ∧ allD (t.take k) = true ∧ V = val (t.take k)) ∨
  ∃ a b, pt = (a.length : Int) ∧ t.take k = a ++ 46 :: b ∧ allD a = true ∧ allD b = true ∧ V = val (a ++ b)
theorem PI.start (t : List UInt8) : PI t 0 (-1) 0 := .inl ⟨rfl, rfl, rfl⟩
theorem PI.lo {t : List UInt8} {k V : Nat} {pt : Int} (h : PI t k pt V) : -1 ≤ pt ∧ pt < (k : Int) := by
  rcases h with ⟨h, _⟩ | ⟨a, b, h, h2, _⟩
  · omega
  · have := congrArg List.length h2
    rw [List.length_take, List.length_append, List.length_cons] at this
    omega
theorem PI.point {t : List UInt8} {k V : Nat} {pt : Int} (h : PI t k pt V) (hp : pt < 0) (hk : k ≤ t.length) (hc : t.take (k + 1) = t.take k ++ [46]) : PI t (k + 1) k V := by
  rcases h with ⟨_, h, hv⟩ | ⟨a, b, h, _⟩
  · exact .inr ⟨t.take k, [], by rw [List.length_take]; omega, hc, h, rfl, by rw [List.append_nil]; exact hv⟩
  · omega
theorem val_one (c : UInt8) : val [c] = c.toNat - 48 := by simp [val]
theorem PI.digit {t : List UInt8} {k V : Nat} {pt : Int} {c : UInt8} (h : PI t k pt V) (hc : t.take (k + 1) = t.take k ++ [c]) (hd : dig c = true) : PI t (k + 1) pt (V * 10 + (c.toNat - 48)) := by
  have hd1 : allD [c] = true := by unfold allD; simp [hd]
  rcases h with ⟨h0, h, hv⟩ | ⟨a, b, h0, h1, ha, hb, hv⟩
  · refine .inl ⟨h0, ?_, ?_⟩
    · rw [hc, allD_app, h, hd1]; rfl
    · rw [hc, val_app, hv, val_one]; simp
  · refine .inr ⟨a, b ++ [c], h0, ?_, ha, ?_, ?_⟩
    · rw [hc, h1]; simp
    · rw [allD_app, hb, hd1]; rfl
    · rw [← List.append_assoc, val_app, hv, val_one]; simp
theorem PI.bad {t : List UInt8} {k V : Nat} {pt : Int} {c : UInt8} (ng : Bool) (h : PI t k pt V) (hc : t.take (k + 1) = t.take k ++ [c]) (hd : dig c = false) (hp : c ≠ 46 ∨ 0 ≤ pt) : parse2 t ng = none := by
  have e : t = t.take k ++ c :: t.drop (k + 1) := by
    have := List.take_append_drop (k + 1) t
    rw [hc, List.append_assoc] at this
    exact this.symm
  rcases h with ⟨h0, h, hv⟩ | ⟨a, b, h0, h1, ha, hb, hv⟩
  · rw [e]
    exact parse2_bad1 ng hd (hp.resolve_right (by omega)) (allD_no46 h)
  · rw [e, h1, List.append_assoc, List.cons_append]
    exact parse2_bad2 ng hd (allD_no46 ha)
theorem headD_take (t : List UInt8) (p : Nat) (h : 0 < p) : (t.take p).headD 0 = t.headD 0 := by
  cases t with
  | nil => simp
  | cons c t => obtain ⟨p, rfl⟩ : ∃ q, p = q + 1 := ⟨p - 1, by omega⟩; rfl
theorem PI.done1 {t : List UInt8} {V : Nat} {pt : Int} (ng : Bool) (h : PI t t.length pt V) (hp : pt < 0) :
    parse2 t ng = if t.length = 0 ∨ (1 < t.length ∧ t.headD 0 = 48) then none else some (sgn ((V * 10000 : Nat) : Int) ng) := by
  rcases h with ⟨h0, h, hv⟩ | ⟨a, b, h0, h1, ha, hb, hv⟩
  · rw [List.take_length] at h hv
    rw [parse2_plain ng h, hv]
    by_cases h1 : t.length = 0 ∨ (1 < t.length ∧ t.headD 0 = 48)
    · rw [if_pos h1, whole_no h1]; rfl
    · rw [if_neg h1, whole_yes h (fun e => h1 (.inl e)) (fun e => h1 (.inr e))]; rfl
  · omega
theorem PI.done2 {t : List UInt8} {V p : Nat} (ng : Bool) (h : PI t t.length (p : Int) V) :
    p < t.length ∧ parse2 t ng = if t.length - p - 1 < 1 ∨ 4 < t.length - p - 1 then none else if p = 0 ∨ (1 < p ∧ t.headD 0 = 48) then none else some (sgn ((V * 10 ^ (4 - (t.length - p - 1)) : Nat) : Int) ng) := by
  rcases h with ⟨h0, h, hv⟩ | ⟨a, b, h0, h1, ha, hb, hv⟩
  · omega
  · rw [List.take_length] at h1
    have hp : p = a.length := by omega
    have hlen : t.length = a.length + (b.length + 1) := by rw [h1, List.length_append, List.length_cons]
    have eb : t.length - p - 1 = b.length := by omega
    refine ⟨by omega, ?_⟩
    rw [eb, hv]
    have hh : 0 < a.length → t.headD 0 = a.headD 0 := fun h => by
      rw [h1]; cases a; simp at h; rfl
    have e2 := parse2_point ng ha hb
    rw [← h1] at e2
    rw [e2]
    clear e2
    by_cases c1 : b.length < 1 ∨ 4 < b.length
    · rw [if_pos c1]
      have : (decide (1 ≤ b.length) && decide (b.length ≤ 4)) = false := by
        rcases c1 with h | h
        · simp; omega
        · simp; omega
      rw [this, Bool.and_false]; rfl
    · rw [if_neg c1]
      have : (decide (1 ≤ b.length) && decide (b.length ≤ 4)) = true := by simp; omega
      rw [this, Bool.and_true]
      by_cases c2 : p = 0 ∨ (1 < p ∧ t.headD 0 = 48)
      · rw [if_pos c2, whole_no]
        · rfl
        · rcases c2 with h | ⟨h, h'⟩
          · exact .inl (by omega)
          · exact .inr ⟨by omega, by rw [← hh (by omega)]; exact h'⟩
      · rw [if_neg c2, whole_yes ha]
        · rfl
        · intro h; exact c2 (.inl (by omega))
        · rintro ⟨h, h'⟩; exact c2 (.inr ⟨by omega, by rw [hh (by omega)]; exact h'⟩)

/-! ### what is printed is read again -/
theorem dec_all (u : Nat) : allD (Lib.decDigits u) = true := by
  induction u using Nat.strongRecOn with
  | _ u ih =>
    have h1 : ∀ v : Nat, allD [UInt8.ofNat (48 + v % 10)] = true := fun v => by
      have : (UInt8.ofNat (48 + v % 10)).toNat = (48 + v % 10) % 256 := UInt8.toNat_ofNat'
      unfold allD dig
      simp only [List.all_cons, List.all_nil, Bool.and_true, decide_eq_true_eq, this]
      omega
    by_cases h : u < 10
    · rw [Lib.decDigits_one h]
      have := h1 u
      rw [Nat.mod_eq_of_lt h] at this
      exact this
    · rw [Lib.decDigits, dif_neg h, allD_app, ih (u / 10) (by omega), h1]; rfl
theorem dec_val (u : Nat) : val (Lib.decDigits u) = u := by
  induction u using Nat.strongRecOn with
  | _ u ih =>
    have h1 : ∀ v : Nat, val [UInt8.ofNat (48 + v % 10)] = v % 10 := fun v => by
      have : (UInt8.ofNat (48 + v % 10)).toNat = (48 + v % 10) % 256 := UInt8.toNat_ofNat'
      rw [val_one, this]
      omega
    by_cases h : u < 10
    · rw [Lib.decDigits_one h]
      have := h1 u
      rw [Nat.mod_eq_of_lt h] at this
      exact this
    · rw [Lib.decDigits, dif_neg h, val_app, ih (u / 10) (by omega), h1]
      simp only [List.length_cons, List.length_nil]
      omega
theorem dec_ne (u : Nat) : Lib.decDigits u ≠ [] := fun h => by
  have := congrArg List.length h
  rw [Lib.decDigits_length] at this
  have := Lib.nDigits_pos u
  simp at *
  omega
theorem headD_app {a : List UInt8} (b : List UInt8) (h : a ≠ []) : (a ++ b).headD 0 = a.headD 0 := by
  cases a; exact absurd rfl h; rfl
theorem dec_head (u : Nat) (h0 : 0 < u) : (Lib.decDigits u).headD 0 ≠ 48 := by
  induction u using Nat.strongRecOn with
  | _ u ih =>
    by_cases h : u < 10
    · rw [Lib.decDigits_one h]
      intro e
      have e2 := congrArg UInt8.toNat (show UInt8.ofNat (48 + u) = 48 from e)
      have : (UInt8.ofNat (48 + u)).toNat = (48 + u) % 256 := UInt8.toNat_ofNat'
      rw [this] at e2
      have : (48 : UInt8).toNat = 48 := rfl
      omega
    · rw [Lib.decDigits, dif_neg h, headD_app _ (dec_ne _)]
      exact ih (u / 10) (by omega) (by omega)
theorem dec_whole (u : Nat) : wholeB (Lib.decDigits u) = true := by
  rcases Nat.eq_zero_or_pos u with rfl | h
  · rw [Lib.decDigits_one (by omega)]; rfl
  · unfold wholeB
    rw [dec_all]
    have h1 := dec_head u h
    have h2 := dec_ne u
    have h3 : (Lib.decDigits u).isEmpty = false := by cases hh : Lib.decDigits u; exact absurd hh h2; rfl
    have h4 : ((Lib.decDigits u).headD 0 != 48) = true := by rw [bne_iff_ne]; exact h1
    rw [h3, h4]
    simp
theorem trim_split (l : List UInt8) : ∃ k, l = Lib.trimRightB l 48 ++ List.replicate k 48 := by
  unfold Lib.trimRightB
  have h : ∀ m : List UInt8, ∃ k, m = List.replicate k 48 ++ m.dropWhile (· == 48) := by
    intro m
    induction m with
    | nil => exact ⟨0, rfl⟩
    | cons c m ih =>
      by_cases hc : c = 48
      · subst hc
        obtain ⟨k, e⟩ := ih
        refine ⟨k + 1, ?_⟩
        rw [List.replicate_succ, List.cons_append, List.dropWhile_cons]
        simp only [beq_self_eq_true, if_true]
        rw [← e]
      · refine ⟨0, ?_⟩
        rw [List.dropWhile_cons]
        simp [hc]
  obtain ⟨k, e⟩ := h l.reverse
  refine ⟨k, ?_⟩
  have := congrArg List.reverse e
  rw [List.reverse_reverse, List.reverse_append, List.reverse_replicate] at this
  exact this
theorem mag_read (m : Nat) (ng : Bool) : parse2 (magL m) ng = some (sgn (m : Int) ng) := by
  unfold magL partL
  by_cases h0 : m % 10000 = 0
  · rw [if_pos h0, List.append_nil, parse2_plain ng (dec_all _), dec_whole, dec_val]
    have : m / 10000 * 10000 = m := by omega
    rw [this]; rfl
  · rw [if_neg h0]
    obtain ⟨d, ed⟩ : ∃ d, (Lib.decDigits (10000 + m % 10000)).drop 1 = d := ⟨_, rfl⟩
    rw [ed]
    have hlen : (Lib.decDigits (10000 + m % 10000)).length = 5 := by rw [Lib.decDigits_length]; exact Lib.nDigits_unique 4 _ (by omega) (by omega)
    have hdl : d.length = 4 := by rw [← ed, List.length_drop, hlen]
    obtain ⟨c, ec⟩ : ∃ c, Lib.decDigits (10000 + m % 10000) = c :: d := by
      cases e : Lib.decDigits (10000 + m % 10000) with
      | nil => rw [e] at hlen; simp at hlen
      | cons c x => rw [e] at ed; exact ⟨c, by rw [← ed]; rfl⟩
    have had : allD d = true := by
      have := dec_all (10000 + m % 10000)
      rw [ec] at this
      unfold allD at *
      rw [List.all_cons, Bool.and_eq_true] at this
      exact this.2
    have hvd : val d = m % 10000 := by
      have h1 := dec_val (10000 + m % 10000)
      rw [ec, show c :: d = [c] ++ d from rfl, val_app, hdl, val_one] at h1
      have h2 : val d < 10 ^ 4 := by
        have hb : ∀ l : List UInt8, allD l = true → val l < 10 ^ l.length := by
          intro l
          induction l with
          | nil => intro _; simp [val]
          | cons x l ih =>
            intro hl
            rw [show x :: l = [x] ++ l from rfl, allD_app, Bool.and_eq_true] at hl
            have hx := allD_mem hl.1 (c := x) (by simp)
            have := ih hl.2
            rw [show x :: l = [x] ++ l from rfl, val_app, val_one, List.length_append, Nat.pow_add]
            have : (x.toNat - 48) * 10 ^ l.length ≤ 9 * 10 ^ l.length := Nat.mul_le_mul_right _ (by omega)
            simp only [List.length_cons, List.length_nil]
            omega
        have := hb d had
        rw [hdl] at this
        exact this
      have h3 : 10 ^ 4 = 10000 := rfl
      rw [h3] at h1 h2
      omega
    obtain ⟨k, ek⟩ := trim_split d
    obtain ⟨x, ex⟩ : ∃ x, Lib.trimRightB d 48 = x := ⟨_, rfl⟩
    rw [ex] at ek ⊢
    have hxl : x.length + k = 4 := by
      have := congrArg List.length ek
      rw [List.length_append, List.length_replicate] at this
      omega
    have hax : allD x = true := by
      rw [ek, allD_app, Bool.and_eq_true] at had
      exact had.1
    have hvx : val x * 10 ^ k = m % 10000 := by
      rw [ek, val_app, val_zeros, List.length_replicate] at hvd
      omega
    have hx1 : 1 ≤ x.length := by
      rcases Nat.eq_zero_or_pos x.length with h | h
      · exfalso
        have : x = [] := List.eq_nil_of_length_eq_zero h
        rw [this] at hvx
        simp [val] at hvx
        omega
      · exact h
    rw [parse2_point ng (dec_all _) hax, dec_whole]
    have hc : (decide (1 ≤ x.length) && decide (x.length ≤ 4)) = true := by simp; omega
    rw [hc]
    have hk : 4 - x.length = k := by omega
    have hv : val (Lib.decDigits (m / 10000) ++ x) * 10 ^ (4 - x.length) = m := by
      rw [hk, val_app, dec_val, Nat.add_mul, hvx, Nat.mul_assoc, ← Nat.pow_add, hxl]
      have h3 : 10 ^ 4 = 10000 := rfl
      rw [h3]
      omega
    rw [hv]; rfl
end Go.Proofs.YtfjpdopmojfchaaGreatDoor
