/- Texts of numbers, plainly: wha. -/
import Derived.Lib.IndexMore
import Derived.Lib.ItoaNum
import Derived.Lib.TrimByte
import Derived.Lib.Strings
import Derived.Test.YtfjpdopmojfchaaGreatDoorRows
import Derived.WalkKit
import Derived.WalkSpells
import Derived.WalkLawsBesides
import Derived.Shelf.Strings.Builder1
import Derived.Shelf.Strings.Trim
import Derived.Shelf.Small.Utf8
import Derived.Shelf.Small.Bits
import Derived.Shelf.Small.Strs
import Derived.Shelf.Small.Wraps
import Derived.Shelf.Strconv.Itoa0
import Derived.Shelf.Strconv.Itoa1
import Derived.Shelf.LaysM
import Derived.Shelf.Strconv.Itoa2
import Derived.Shelf.Strings.Search1
import Derived.Shelf.Strings.Search2
import Derived.Shelf.Strings.Cut
import Derived.Shelf.Strings.Shaped
import Derived.Shelf.Strings.Prefix
import Derived.Shelf.Strings.Runes
import Derived.Shelf.Strings.AsciiSet
import Derived.Shelf.Bits.Mul64
import Derived.Shelf.Unicode.DecodeSlow
import Derived.Shelf.Unicode.DecodeAny
import Derived.Ground.Names2Prog
import Derived.Shelf.Slices.SearchI
import Derived.Test.YtfjpdopmojfchaaGreatDoorProg
import Derived.Lib.Walk
import Derived.Lib.ItoaMem
import Derived.BigCall
import Derived.BigGuard
import Derived.Shelf.Unicode.ValidAny
import Derived.Lib.ValidLaws
import Derived.Shelf.Spec.BitsCarry
import Derived.Laws.Bits64b
import Derived.RegionTactic
set_option linter.unusedVariables false
set_option linter.unusedSimpArgs false
set_option maxRecDepth 100000
set_option maxHeartbeats 8000000
namespace Go.Proofs.YtfjpdopmojfchaaGreatDoor
open Go
def fitB (n : Int) : Bool := decide (-9223372036854775808 ≤ n ∧ n ≤ 9223372036854775807)
def keep (n : Int) : Int := if fitB n then n else 0
def sgn (n : Int) (neg : Bool) : Int := if neg then -n else n
def dig (c : UInt8) : Bool := decide (48 ≤ c.toNat ∧ c.toNat ≤ 57)
def allD (l : List UInt8) : Bool := l.all dig
def val (l : List UInt8) : Nat := l.foldl (fun n c => n * 10 + (c.toNat - 48)) 0
def wholeB (l : List UInt8) : Bool := l == [48] || (!l.isEmpty && (l.headD 0 != 48) && allD l)
def partB (l : List UInt8) : Bool := !l.isEmpty && decide (l.length ≤ 4) && allD l
def parseO (l : List UInt8) : Option Int :=
  if wholeB (Lib.cut (Lib.trimPrefix l [45]) [46]).1 && (!(Lib.cut (Lib.trimPrefix l [45]) [46]).2.2 || partB (Lib.cut (Lib.trimPrefix l [45]) [46]).2.1) then
    some (sgn (val ((Lib.cut (Lib.trimPrefix l [45]) [46]).1 ++ (Lib.cut (Lib.trimPrefix l [45]) [46]).2.1 ++ [48, 48, 48, 48].drop (Lib.cut (Lib.trimPrefix l [45]) [46]).2.1.length)) (Lib.hasPrefix l [45]))
  else none
def pk : Option Int → Int | none => 0 | some n => keep n
def pf : Option Int → Bool | none => false | some n => fitB n
def partL (r : Nat) : List UInt8 := if r = 0 then [] else 46 :: Lib.trimRightB ((Lib.decDigits (10000 + r)).drop 1) 48
def magL (m : Nat) : List UInt8 := Lib.decDigits (m / 10000) ++ partL (m % 10000)
def printL (a : Int) : List UInt8 := if a < 0 then 45 :: magL a.natAbs else magL a.natAbs
def parse2 (t : List UInt8) (ng : Bool) : Option Int :=
  if wholeB (Lib.cut t [46]).1 && (!(Lib.cut t [46]).2.2 || partB (Lib.cut t [46]).2.1) then
    some (sgn (val ((Lib.cut t [46]).1 ++ (Lib.cut t [46]).2.1 ++ [48, 48, 48, 48].drop (Lib.cut t [46]).2.1.length)) ng)
  else none
theorem parseO_eq (l : List UInt8) : parseO l = parse2 (Lib.trimPrefix l [45]) (Lib.hasPrefix l [45]) := rfl
theorem val_app (l m : List UInt8) : val (l ++ m) = val l * 10 ^ m.length + val m := by
  have h : ∀ (m : List UInt8) (n : Nat), m.foldl (fun n c => n * 10 + (c.toNat - 48)) n = n * 10 ^ m.length + val m := by
    intro m
    induction m with
    | nil => intro n; simp [val]
    | cons c m ih =>
      intro n
      have e : val (c :: m) = m.foldl (fun n c => n * 10 + (c.toNat - 48)) (0 * 10 + (c.toNat - 48)) := rfl
      rw [e, List.foldl_cons, ih, ih, List.length_cons, Nat.pow_succ, Nat.add_mul, Nat.add_mul]
      rw [Nat.mul_assoc n, Nat.mul_comm 10]
      omega
  have e : val (l ++ m) = m.foldl (fun n c => n * 10 + (c.toNat - 48)) (val l) := by unfold val; rw [List.foldl_append]
  rw [e, h]
theorem val_zeros (k : Nat) : val (List.replicate k 48) = 0 := by
  induction k with
  | zero => rfl
  | succ k ih => rw [List.replicate_succ']; rw [val_app, ih]; simp [val]
theorem zeros_drop (k : Nat) (h : k ≤ 4) : ([48, 48, 48, 48] : List UInt8).drop k = List.replicate (4 - k) 48 := by
  rcases (by omega : k = 0 ∨ k = 1 ∨ k = 2 ∨ k = 3 ∨ k = 4) with rfl | rfl | rfl | rfl | rfl <;> rfl
theorem allD_app (a b : List UInt8) : allD (a ++ b) = (allD a && allD b) := by unfold allD; rw [List.all_append]
theorem allD_mem {a : List UInt8} (h : allD a = true) {c : UInt8} (hc : c ∈ a) : 48 ≤ c.toNat ∧ c.toNat ≤ 57 := by
  unfold allD at h
  rw [List.all_eq_true] at h
  have := h c hc
  unfold dig at this
  simpa using this
theorem allD_no46 {a : List UInt8} (h : allD a = true) : (46 : UInt8) ∉ a := fun hc => by
  have := allD_mem h hc
  have e : (46 : UInt8).toNat = 46 := rfl
  omega
theorem cut_at (a b : List UInt8) (h : (46 : UInt8) ∉ a) : Lib.cut (a ++ 46 :: b) [46] = (a, b, true) := by
  have hi : Lib.index (a ++ 46 :: b) [46] = (a.length : Int) := by
    refine Lib.index_first (by simp) ?_ ?_
    · unfold Lib.occAt
      rw [List.drop_left]
      simp
    · intro j hj
      unfold Lib.occAt
      rw [List.drop_append_of_le_length (by omega), List.drop_eq_getElem_cons hj]
      simp only [List.cons_append, List.isPrefixOf_cons_cons, List.isPrefixOf_nil_left, Bool.and_true, beq_eq_false_iff_ne]
      intro e
      exact h (e ▸ List.getElem_mem hj)
  unfold Lib.cut
  rw [hi, if_pos (by omega)]
  simp
theorem cut_free (a : List UInt8) (h : (46 : UInt8) ∉ a) : Lib.cut a [46] = (a, [], false) := by
  have hi : Lib.index a [46] = -1 := by
    refine Lib.index_none ?_
    intro j hj
    unfold Lib.occAt
    by_cases hl : j < a.length
    · rw [List.drop_eq_getElem_cons hl]
      simp only [List.isPrefixOf_cons_cons, List.isPrefixOf_nil_left, Bool.and_true, beq_eq_false_iff_ne]
      intro e
      exact h (e ▸ List.getElem_mem hl)
    · rw [List.drop_of_length_le (by omega)]
      rfl
  unfold Lib.cut
  rw [hi, if_neg (by omega)]
theorem cut_any (t : List UInt8) : (∃ a b, t = a ++ 46 :: b ∧ (46 : UInt8) ∉ a) ∨ (46 : UInt8) ∉ t := by
  induction t with
  | nil => exact .inr (by simp)
  | cons c t ih =>
    by_cases hc : c = 46
    · subst hc; exact .inl ⟨[], t, rfl, by simp⟩
    · rcases ih with ⟨a, b, rfl, h⟩ | h
      · exact .inl ⟨c :: a, b, rfl, by simp [h, Ne.symm hc]⟩
      · exact .inr (by simp [h, Ne.symm hc])
theorem whole_all {l : List UInt8} (h : wholeB l = true) : allD l = true := by
  unfold wholeB at h
  rw [Bool.or_eq_true] at h
  rcases h with h | h
  · rw [eq_of_beq h]; rfl
  · rw [Bool.and_eq_true] at h; exact h.2
theorem whole_yes {l : List UInt8} (h : allD l = true) (h0 : l.length ≠ 0) (h1 : ¬ (1 < l.length ∧ l.headD 0 = 48)) : wholeB l = true := by
  unfold wholeB
  rw [h]
  match l with
  | [] => exact absurd rfl h0
  | [c] =>
    by_cases hc : c = 48
    · subst hc; rfl
    · have : (c != 48) = true := by simpa using hc
      simp only [List.headD_cons, this]; simp
  | c :: d :: l =>
    have hc : c ≠ 48 := fun e => h1 ⟨by simp, by simpa using e⟩
    have : (c != 48) = true := by simpa using hc
    simp only [List.headD_cons, this]; simp
theorem whole_no {l : List UInt8} (h : l.length = 0 ∨ (1 < l.length ∧ l.headD 0 = 48)) : wholeB l = false := by
  rcases h with h | ⟨h1, h2⟩
  · have : l = [] := List.eq_nil_of_length_eq_zero h
    subst this; rfl
  · match l with
    | [] => simp at h1
    | [c] => simp at h1
    | c :: d :: l =>
      have e : c = 48 := by simpa using h2
      subst e
      unfold wholeB
      simp
theorem val_pad (t : List UInt8) (k : Nat) (h : k ≤ 4) : val (t ++ ([48, 48, 48, 48] : List UInt8).drop k) = val t * 10 ^ (4 - k) := by
  rw [zeros_drop k h, val_app, val_zeros, List.length_replicate]
  omega
theorem parse2_plain {t : List UInt8} (ng : Bool) (h : allD t = true) : parse2 t ng = if wholeB t then some (sgn ((val t * 10000 : Nat) : Int) ng) else none := by
  unfold parse2
  rw [cut_free t (allD_no46 h)]
  have e : val (t ++ [] ++ ([48, 48, 48, 48] : List UInt8).drop ([] : List UInt8).length) = val t * 10000 := by
    rw [List.append_nil]; exact val_pad t 0 (by omega)
  simp only [e]
  cases wholeB t <;> rfl
theorem parse2_point {a b : List UInt8} (ng : Bool) (ha : allD a = true) (hb : allD b = true) : parse2 (a ++ 46 :: b) ng =
    if wholeB a && (decide (1 ≤ b.length) && decide (b.length ≤ 4)) then some (sgn ((val (a ++ b) * 10 ^ (4 - b.length) : Nat) : Int) ng) else none := by
  unfold parse2
  rw [cut_at a b (allD_no46 ha)]
  have hp : partB b = (decide (1 ≤ b.length) && decide (b.length ≤ 4)) := by
    unfold partB
    rw [hb]
    cases b <;> simp
  simp only [hp]
  by_cases h4 : b.length ≤ 4
  · rw [val_pad (a ++ b) _ h4]
    cases wholeB a <;> simp
  · simp [h4]
theorem parse2_bad1 {a r : List UInt8} {c : UInt8} (ng : Bool) (hc : dig c = false) (h46 : c ≠ 46) (ha : (46 : UInt8) ∉ a) : parse2 (a ++ c :: r) ng = none := by
  have hno : ∀ x, allD (a ++ c :: x) = false := fun x => by
    rw [allD_app]
    have : allD (c :: x) = false := by unfold allD; rw [List.all_cons, hc]; rfl
    rw [this, Bool.and_false]
  have hw : ∀ x, wholeB (a ++ c :: x) = false := fun x => by
    cases h : wholeB (a ++ c :: x) with
    | false => rfl
    | true => have := whole_all h; rw [hno] at this; cases this
  unfold parse2
  rcases cut_any r with ⟨x, y, rfl, h⟩ | h
  · have e : a ++ c :: (x ++ 46 :: y) = (a ++ c :: x) ++ 46 :: y := by simp
    rw [e, cut_at _ y (by simp [ha, h, Ne.symm h46])]
    simp [hw]
  · rw [cut_free _ (by simp [ha, h, Ne.symm h46])]
    simp [hw]
theorem parse2_bad2 {a b r : List UInt8} {c : UInt8} (ng : Bool) (hc : dig c = false) (ha : (46 : UInt8) ∉ a) : parse2 (a ++ 46 :: (b ++ c :: r)) ng = none := by
  unfold parse2
  rw [cut_at a _ ha]
  have : partB (b ++ c :: r) = false := by
    unfold partB
    rw [allD_app]
    have : allD (c :: r) = false := by unfold allD; rw [List.all_cons, hc]; rfl
    rw [this]
    simp
  simp [this]
def PI (t : List UInt8) (k : Nat) (pt : Int) (V : Nat) : Prop :=
  (pt = -1 ∧ allD (t.take k) = true ∧ V = val (t.take k)) ∨
  ∃ a b, pt = (a.length : Int) ∧ t.take k = a ++ 46 :: b ∧ allD a = true ∧ allD b = true ∧ V = val (a ++ b)
theorem PI.start (t : List UInt8) : PI t 0 (-1) 0 := .inl ⟨rfl, rfl, rfl⟩
theorem PI.point {t : List UInt8} {k V : Nat} {pt : Int} (h : PI t k pt V) (hp : pt < 0) (hk : k ≤ t.length) (hc : t.take (k + 1) = t.take k ++ [46]) : PI t (k + 1) k V := by
  rcases h with ⟨_, h, hv⟩ | ⟨a, b, h, _⟩
  · exact .inr ⟨t.take k, [], by rw [List.length_take]; omega, hc, h, rfl, by rw [List.append_nil]; exact hv⟩
  · omega
theorem val_one (c : UInt8) : val [c] = c.toNat - 48 := by simp [val]
theorem PI.digit {t : List UInt8} {k V : Nat} {pt : Int} {c : UInt8} (h : PI t k pt V) (hc : t.take (k + 1) = t.take k ++ [c]) (hd : dig c = true) : PI t (k + 1) pt (V * 10 + (c.toNat - 48)) := by
  have hd1 : allD [c] = true := by unfold allD; simp [hd]
  rcases h with ⟨h0, h, hv⟩ | ⟨a, b, h0, h1, ha, hb, hv⟩
  · refine .inl ⟨h0, ?_, ?_⟩
    · rw [hc, allD_app, h, hd1]; rfl
    · rw [hc, val_app, hv, val_one]; simp
  · refine .inr ⟨a, b ++ [c], h0, ?_, ha, ?_, ?_⟩
    · rw [hc, h1]; simp
    · rw [allD_app, hb, hd1]; rfl
    · rw [← List.append_assoc, val_app, hv, val_one]; simp
theorem PI.bad {t : List UInt8} {k V : Nat} {pt : Int} {c : UInt8} (ng : Bool) (h : PI t k pt V) (hc : t.take (k + 1) = t.take k ++ [c]) (hd : dig c = false) (hp : c ≠ 46 ∨ 0 ≤ pt) : parse2 t ng = none := by
  have e : t = t.take k ++ c :: t.drop (k + 1) := by
    have := List.take_append_drop (k + 1) t
    rw [hc, List.append_assoc] at this
    exact this.symm
  rcases h with ⟨h0, h, hv⟩ | ⟨a, b, h0, h1, ha, hb, hv⟩
  · rw [e]
    exact parse2_bad1 ng hd (hp.resolve_right (by omega)) (allD_no46 h)
  · rw [e, h1, List.append_assoc, List.cons_append]
    exact parse2_bad2 ng hd (allD_no46 ha)
theorem headD_take (t : List UInt8) (p : Nat) (h : 0 < p) : (t.take p).headD 0 = t.headD 0 := by
  cases t with
  | nil => simp
  | cons c t => obtain ⟨p, rfl⟩ : ∃ q, p = q + 1 := ⟨p - 1, by omega⟩; rfl
theorem PI.done1 {t : List UInt8} {V : Nat} {pt : Int} (ng : Bool) (h : PI t t.length pt V) (hp : pt < 0) :
    parse2 t ng = if t.length = 0 ∨ (1 < t.length ∧ t.headD 0 = 48) then none else some (sgn ((V * 10000 : Nat) : Int) ng) := by
  rcases h with ⟨h0, h, hv⟩ | ⟨a, b, h0, h1, ha, hb, hv⟩
  · rw [List.take_length] at h hv
    rw [parse2_plain ng h, hv]
    by_cases h1 : t.length = 0 ∨ (1 < t.length ∧ t.headD 0 = 48)
    · rw [if_pos h1, whole_no h1]; rfl
    · rw [if_neg h1, whole_yes h (fun e => h1 (.inl e)) (fun e => h1 (.inr e))]; rfl
  · omega
theorem PI.done2 {t : List UInt8} {V p : Nat} (ng : Bool) (h : PI t t.length (p : Int) V) :
    p < t.length ∧ parse2 t ng = if t.length - p - 1 < 1 ∨ 4 < t.length - p - 1 then none else if p = 0 ∨ (1 < p ∧ t.headD 0 = 48) then none else some (sgn ((V * 10 ^ (4 - (t.length - p - 1)) : Nat) : Int) ng) := by
  rcases h with ⟨h0, h, hv⟩ | ⟨a, b, h0, h1, ha, hb, hv⟩
  · omega
  · rw [List.take_length] at h1
    have hp : p = a.length := by omega
    have hlen : t.length = a.length + (b.length + 1) := by rw [h1, List.length_append, List.length_cons]
    have eb : t.length - p - 1 = b.length := by omega
    refine ⟨by omega, ?_⟩
    rw [eb, hv]
    have hh : 0 < a.length → t.headD 0 = a.headD 0 := fun h => by
      rw [h1]; cases a; simp at h; rfl
    have e2 := parse2_point ng ha hb
    rw [← h1] at e2
    rw [e2]
    clear e2
    by_cases c1 : b.length < 1 ∨ 4 < b.length
    · rw [if_pos c1]
      have : (decide (1 ≤ b.length) && decide (b.length ≤ 4)) = false := by
        rcases c1 with h | h
        · simp; omega
        · simp; omega
      rw [this, Bool.and_false]; rfl
    · rw [if_neg c1]
      have : (decide (1 ≤ b.length) && decide (b.length ≤ 4)) = true := by simp; omega
      rw [this, Bool.and_true]
      by_cases c2 : p = 0 ∨ (1 < p ∧ t.headD 0 = 48)
      · rw [if_pos c2, whole_no]
        · rfl
        · rcases c2 with h | ⟨h, h'⟩
          · exact .inl (by omega)
          · exact .inr ⟨by omega, by rw [← hh (by omega)]; exact h'⟩
      · rw [if_neg c2, whole_yes ha]
        · rfl
        · intro h; exact c2 (.inl (by omega))
        · rintro ⟨h, h'⟩; exact c2 (.inr ⟨by omega, by rw [hh (by omega)]; exact h'⟩)

/-! ### what is printed is read again -/
theorem dec_all (u : Nat) : allD (Lib.decDigits u) = true := by
  induction u using Nat.strongRecOn with
  | _ u ih =>
    have h1 : ∀ v : Nat, allD [UInt8.ofNat (48 + v % 10)] = true := fun v => by
      have : (UInt8.ofNat (48 + v % 10)).toNat = (48 + v % 10) % 256 := UInt8.toNat_ofNat'
      unfold allD dig
      simp only [List.all_cons, List.all_nil, Bool.and_true, decide_eq_true_eq, this]
      omega
    by_cases h : u < 10
    · rw [Lib.decDigits_one h]
      have := h1 u
      rw [Nat.mod_eq_of_lt h] at this
      exact this
    · rw [Lib.decDigits, dif_neg h, allD_app, ih (u / 10) (by omega), h1]; rfl
theorem dec_val (u : Nat) : val (Lib.decDigits u) = u := by
  induction u using Nat.strongRecOn with
  | _ u ih =>
    have h1 : ∀ v : Nat, val [UInt8.ofNat (48 + v % 10)] = v % 10 := fun v => by
      have : (UInt8.ofNat (48 + v % 10)).toNat = (48 + v % 10) % 256 := UInt8.toNat_ofNat'
      rw [val_one, this]
      omega
    by_cases h : u < 10
    · rw [Lib.decDigits_one h]
      have := h1 u
      rw [Nat.mod_eq_of_lt h] at this
      exact this
    · rw [Lib.decDigits, dif_neg h, val_app, ih (u / 10) (by omega), h1]
      simp only [List.length_cons, List.length_nil]
      omega
theorem dec_ne (u : Nat) : Lib.decDigits u ≠ [] := fun h => by
  have := congrArg List.length h
  rw [Lib.decDigits_length] at this
  have := Lib.nDigits_pos u
  simp at *
  omega
theorem headD_app {a : List UInt8} (b : List UInt8) (h : a ≠ []) : (a ++ b).headD 0 = a.headD 0 := by
  cases a; exact absurd rfl h; rfl
theorem dec_head (u : Nat) (h0 : 0 < u) : (Lib.decDigits u).headD 0 ≠ 48 := by
  induction u using Nat.strongRecOn with
  | _ u ih =>
    by_cases h : u < 10
    · rw [Lib.decDigits_one h]
      intro e
      have e2 := congrArg UInt8.toNat (show UInt8.ofNat (48 + u) = 48 from e)
      have : (UInt8.ofNat (48 + u)).toNat = (48 + u) % 256 := UInt8.toNat_ofNat'
      rw [this] at e2
      have : (48 : UInt8).toNat = 48 := rfl
      omega
    · rw [Lib.decDigits, dif_neg h, headD_app _ (dec_ne _)]
      exact ih (u / 10) (by omega) (by omega)
theorem dec_whole (u : Nat) : wholeB (Lib.decDigits u) = true := by
  rcases Nat.eq_zero_or_pos u with rfl | h
  · rw [Lib.decDigits_one (by omega)]; rfl
  · unfold wholeB
    rw [dec_all]
    have h1 := dec_head u h
    have h2 := dec_ne u
    have h3 : (Lib.decDigits u).isEmpty = false := by cases hh : Lib.decDigits u; exact absurd hh h2; rfl
    have h4 : ((Lib.decDigits u).headD 0 != 48) = true := by rw [bne_iff_ne]; exact h1
    rw [h3, h4]
    simp
theorem trim_split (l : List UInt8) : ∃ k, l = Lib.trimRightB l 48 ++ List.replicate k 48 := by
  unfold Lib.trimRightB
  have h : ∀ m : List UInt8, ∃ k, m = List.replicate k 48 ++ m.dropWhile (· == 48) := by
    intro m
    induction m with
    | nil => exact ⟨0, rfl⟩
    | cons c m ih =>
      by_cases hc : c = 48
      · subst hc
        obtain ⟨k, e⟩ := ih
        refine ⟨k + 1, ?_⟩
        rw [List.replicate_succ, List.cons_append, List.dropWhile_cons]
        simp only [beq_self_eq_true, if_true]
        rw [← e]
      · refine ⟨0, ?_⟩
        rw [List.dropWhile_cons]
        simp [hc]
  obtain ⟨k, e⟩ := h l.reverse
  refine ⟨k, ?_⟩
  have := congrArg List.reverse e
  rw [List.reverse_reverse, List.reverse_append, List.reverse_replicate] at this
  exact this
theorem mag_read (m : Nat) (ng : Bool) : parse2 (magL m) ng = some (sgn (m : Int) ng) := by
  unfold magL partL
  by_cases h0 : m % 10000 = 0
  · rw [if_pos h0, List.append_nil, parse2_plain ng (dec_all _), dec_whole, dec_val]
    have : m / 10000 * 10000 = m := by omega
    rw [this]; rfl
  · rw [if_neg h0]
    obtain ⟨d, ed⟩ : ∃ d, (Lib.decDigits (10000 + m % 10000)).drop 1 = d := ⟨_, rfl⟩
    rw [ed]
    have hlen : (Lib.decDigits (10000 + m % 10000)).length = 5 := by rw [Lib.decDigits_length]; exact Lib.nDigits_unique 4 _ (by omega) (by omega)
    have hdl : d.length = 4 := by rw [← ed, List.length_drop, hlen]
    obtain ⟨c, ec⟩ : ∃ c, Lib.decDigits (10000 + m % 10000) = c :: d := by
      cases e : Lib.decDigits (10000 + m % 10000) with
      | nil => rw [e] at hlen; simp at hlen
      | cons c x => rw [e] at ed; exact ⟨c, by rw [← ed]; rfl⟩
    have had : allD d = true := by
      have := dec_all (10000 + m % 10000)
      rw [ec] at this
      unfold allD at *
      rw [List.all_cons, Bool.and_eq_true] at this
      exact this.2
    have hvd : val d = m % 10000 := by
      have h1 := dec_val (10000 + m % 10000)
      rw [ec, show c :: d = [c] ++ d from rfl, val_app, hdl, val_one] at h1
      have h2 : val d < 10 ^ 4 := by
        have hb : ∀ l : List UInt8, allD l = true → val l < 10 ^ l.length := by
          intro l
          induction l with
          | nil => intro _; simp [val]
          | cons x l ih =>
            intro hl
            rw [show x :: l = [x] ++ l from rfl, allD_app, Bool.and_eq_true] at hl
            have hx := allD_mem hl.1 (c := x) (by simp)
            have := ih hl.2
            rw [show x :: l = [x] ++ l from rfl, val_app, val_one, List.length_append, Nat.pow_add]
            have : (x.toNat - 48) * 10 ^ l.length ≤ 9 * 10 ^ l.length := Nat.mul_le_mul_right _ (by omega)
            simp only [List.length_cons, List.length_nil]
            omega
        have := hb d had
        rw [hdl] at this
        exact this
      have h3 : 10 ^ 4 = 10000 := rfl
      rw [h3] at h1 h2
      omega
    obtain ⟨k, ek⟩ := trim_split d
    obtain ⟨x, ex⟩ : ∃ x, Lib.trimRightB d 48 = x := ⟨_, rfl⟩
    rw [ex] at ek ⊢
    have hxl : x.length + k = 4 := by
      have := congrArg List.length ek
      rw [List.length_append, List.length_replicate] at this
      omega
    have hax : allD x = true := by
      rw [ek, allD_app, Bool.and_eq_true] at had
      exact had.1
    have hvx : val x * 10 ^ k = m % 10000 := by
      rw [ek, val_app, val_zeros, List.length_replicate] at hvd
      omega
    have hx1 : 1 ≤ x.length := by
      rcases Nat.eq_zero_or_pos x.length with h | h
      · exfalso
        have : x = [] := List.eq_nil_of_length_eq_zero h
        rw [this] at hvx
        simp [val] at hvx
        omega
      · exact h
    rw [parse2_point ng (dec_all _) hax, dec_whole]
    have hc : (decide (1 ≤ x.length) && decide (x.length ≤ 4)) = true := by simp; omega
    rw [hc]
    have hk : 4 - x.length = k := by omega
    have hv : val (Lib.decDigits (m / 10000) ++ x) * 10 ^ (4 - x.length) = m := by
      rw [hk, val_app, dec_val, Nat.add_mul, hvx, Nat.mul_assoc, ← Nat.pow_add, hxl]
      have h3 : 10 ^ 4 = 10000 := rfl
      rw [h3]
      omega
    rw [hv]; rfl
end Go.Proofs.YtfjpdopmojfchaaGreatDoor
namespace Go.Proofs.YtfjpdopmojfchaaGreatDoor
open Go.RowKit
structure Fx (a : Int) : Prop where
  lo : -9223372036854775808 ≤ a
  hi : a ≤ 9223372036854775807
theorem ret_int {k : IntKind} {a b : Int} (h : a = b) : Ending.returned (.int k a) = .returned (.int k b) := by rw [h]
theorem ret_pair {k : IntKind} {a b : Int} {c : Bool} (h : a = b) : Ending.returned (.tuple #[.int k a, .bool c]) = .returned (.tuple #[.int k b, .bool c]) := by rw [h]
theorem fitB_yes {n : Int} (h0 : -9223372036854775808 ≤ n) (h1 : n ≤ 9223372036854775807) : fitB n = true := by unfold fitB; simp; omega
theorem fitB_no {n : Int} (h : n < -9223372036854775808 ∨ 9223372036854775807 < n) : fitB n = false := by unfold fitB; simp; omega
theorem keep_yes {n : Int} (h : fitB n = true) : keep n = n := by unfold keep; rw [h]; rfl
theorem keep_no {n : Int} (h : fitB n = false) : keep n = 0 := by unfold keep; rw [h]; rfl
theorem fit_of {n : Int} (h : fitB n = true) : Fx n := by unfold fitB at h; simp at h; exact ⟨h.1, h.2⟩
set_option maxHeartbeats 400000 in
theorem size_any (a : Int) (w : World) (h : Fx a) :
    Calls Tryz.prog 124 #[.int .i64 a] w fun e w' => e = .returned (.int .u64 (a.natAbs : Int)) ∧ w' = w := by
  obtain ⟨h0, h1⟩ := h
  by_cases hn : a < 0
  · have H : Hid (-(a + 1) + 1 = (a.natAbs : Int)) := by show -(a + 1) + 1 = (a.natAbs : Int); omega
    go_enter Tryz.func124, Tryz.ntmps124
    go_wp2
    go_ret
    exact ⟨ret_int H.out, rfl⟩
  · have H : Hid (a = (a.natAbs : Int)) := by show a = (a.natAbs : Int); omega
    go_enter Tryz.func124, Tryz.ntmps124
    go_wp2
    go_ret
    exact ⟨ret_int H.out, rfl⟩
set_option maxHeartbeats 400000 in
theorem add_any (a b : Int) (w : World) (ha : Fx a) (hb : Fx b) :
    Calls Tryz.prog 82 #[.int .i64 a, .int .i64 b] w fun e w' => e = .returned (.tuple #[.int .i64 (keep (a + b)), .bool (fitB (a + b))]) ∧ w' = w := by
  obtain ⟨ha0, ha1⟩ := ha
  obtain ⟨hb0, hb1⟩ := hb
  by_cases h0 : -9223372036854775808 ≤ a + b
  · by_cases h1 : a + b ≤ 9223372036854775807
    · have hf := fitB_yes h0 h1
      rw [keep_yes hf, hf]
      clear hf
      go_enter Tryz.func82, Tryz.ntmps82
      go_wp2
      all_goals go_ret2
      all_goals exact ⟨rfl, rfl⟩
    · have hf := fitB_no (n := a + b) (by omega)
      rw [keep_no hf, hf]
      clear hf
      go_enter Tryz.func82, Tryz.ntmps82
      go_wp2
      all_goals go_ret2
      all_goals exact ⟨rfl, rfl⟩
  · have hf := fitB_no (n := a + b) (by omega)
    rw [keep_no hf, hf]
    clear hf
    go_enter Tryz.func82, Tryz.ntmps82
    go_wp2
    all_goals go_ret2
    all_goals exact ⟨rfl, rfl⟩
set_option maxHeartbeats 400000 in
theorem sub_any (a b : Int) (w : World) (ha : Fx a) (hb : Fx b) :
    Calls Tryz.prog 83 #[.int .i64 a, .int .i64 b] w fun e w' => e = .returned (.tuple #[.int .i64 (keep (a - b)), .bool (fitB (a - b))]) ∧ w' = w := by
  obtain ⟨ha0, ha1⟩ := ha
  obtain ⟨hb0, hb1⟩ := hb
  by_cases h0 : -9223372036854775808 ≤ a - b
  · by_cases h1 : a - b ≤ 9223372036854775807
    · have hf := fitB_yes h0 h1
      rw [keep_yes hf, hf]
      clear hf
      go_enter Tryz.func83, Tryz.ntmps83
      go_wp2
      all_goals go_ret2
      all_goals exact ⟨rfl, rfl⟩
    · have hf := fitB_no (n := a - b) (by omega)
      rw [keep_no hf, hf]
      clear hf
      go_enter Tryz.func83, Tryz.ntmps83
      go_wp2
      all_goals go_ret2
      all_goals exact ⟨rfl, rfl⟩
  · have hf := fitB_no (n := a - b) (by omega)
    rw [keep_no hf, hf]
    clear hf
    go_enter Tryz.func83, Tryz.ntmps83
    go_wp2
    all_goals go_ret2
    all_goals exact ⟨rfl, rfl⟩
set_option maxHeartbeats 400000 in
theorem signWord_any (a : Int) (w : World) :
    Calls Tryz.prog 137 #[.int .i64 a] w fun e w' => e = .returned (.int .i64 (if a < 0 then -1 else 0)) ∧ w' = w := by
  by_cases h : a < 0
  · go_enter Tryz.func137, Tryz.ntmps137
    go_wp2
    go_ret
    exact ⟨ret_int (by simp), rfl⟩
  · go_enter Tryz.func137, Tryz.ntmps137
    go_wp2
    go_ret
    exact ⟨ret_int (by simp), rfl⟩
set_option maxHeartbeats 400000 in
theorem signed_any (n : Int) (neg : Bool) (w : World) (h0 : 0 ≤ n) (hn : n < 18446744073709551616) :
    Calls Tryz.prog 143 #[.int .u64 n, .bool neg] w fun e w' => e = .returned (.tuple #[.int .i64 (keep (sgn n neg)), .bool (fitB (sgn n neg))]) ∧ w' = w := by
  cases neg
  · have e : sgn n false = n := rfl
    rw [e]
    clear e
    by_cases h1 : n < 9223372036854775808
    · have hf : fitB n = true := fitB_yes (by omega) (by omega)
      rw [keep_yes hf, hf]
      clear hf
      go_enter Tryz.func143, Tryz.ntmps143
      go_wp2
      all_goals go_ret2
      all_goals exact ⟨rfl, rfl⟩
    · have hf : fitB n = false := fitB_no (by omega)
      rw [keep_no hf, hf]
      clear hf
      go_enter Tryz.func143, Tryz.ntmps143
      go_wp2
      all_goals go_ret2
      all_goals exact ⟨rfl, rfl⟩
  · have e : sgn n true = -n := rfl
    rw [e]
    clear e
    by_cases h1 : n < 9223372036854775808
    · have hf : fitB (-n) = true := fitB_yes (by omega) (by omega)
      rw [keep_yes hf, hf]
      clear hf
      go_enter Tryz.func143, Tryz.ntmps143
      go_wp2
      all_goals go_ret2
      all_goals exact ⟨rfl, rfl⟩
    · by_cases h2 : n = 9223372036854775808
      · have hf : fitB (-n) = true := fitB_yes (by omega) (by omega)
        rw [keep_yes hf, hf]
        have e : -n = -9223372036854775808 := by rw [h2]
        rw [e]
        have h3 : (n == 9223372036854775808) = true := by rw [h2]; rfl
        clear hf e h2
        go_enter Tryz.func143, Tryz.ntmps143
        go_wp2
        all_goals go_ret2
        all_goals exact ⟨rfl, rfl⟩
      · have hf : fitB (-n) = false := fitB_no (by omega)
        rw [keep_no hf, hf]
        have h3 : (n == 9223372036854775808) = false := beq_eq_false_iff_ne.2 h2
        clear hf h2
        go_enter Tryz.func143, Tryz.ntmps143
        go_wp2
        all_goals go_ret2
        all_goals exact ⟨rfl, rfl⟩
set_option maxHeartbeats 400000 in
theorem int_any (n : Int) (w : World) (hn : Fx n) :
    Calls Tryz.prog 138 #[.int .i64 n] w fun e w' => e = .returned (.tuple #[.int .i64 (keep (n * 10000)), .bool (fitB (n * 10000))]) ∧ w' = w := by
  obtain ⟨h0, h1⟩ := hn
  by_cases k1 : 922337203685477 < n
  · have hf := fitB_no (n := n * 10000) (by omega)
    rw [keep_no hf, hf]
    clear hf
    go_enter Tryz.func138, Tryz.ntmps138
    go_wp2
    all_goals go_ret2
    all_goals exact ⟨rfl, rfl⟩
  · by_cases k0 : n < -922337203685477
    · have hf := fitB_no (n := n * 10000) (by omega)
      rw [keep_no hf, hf]
      clear hf
      go_enter Tryz.func138, Tryz.ntmps138
      go_wp2
      all_goals go_ret2
      all_goals exact ⟨rfl, rfl⟩
    · have hf := fitB_yes (n := n * 10000) (by omega) (by omega)
      rw [keep_yes hf, hf]
      clear hf
      go_enter Tryz.func138, Tryz.ntmps138
      go_wp2
      all_goals go_ret2
      all_goals exact ⟨rfl, rfl⟩
theorem hid {p : Prop} (h : p) : Hid p := h
def Q (w w' : World) : Prop := Below w.heap.size w w'
theorem Q.refl (w : World) : Q w w := Below.refl _ _
theorem Q.trans {a b c : World} (h : Q a b) (k : Q b c) : Q a c := Below.trans h (Below.mono k h.size)
theorem Q.drew {a w : World} (h : Q a w) : Q a w.drew := Below.drew h
theorem Q.drewN {a w : World} (h : Q a w) (n : Nat) : Q a (w.drewN n) := below_drewN h n
theorem Q.alloc {a w : World} (h : Q a w) (o : Obj) : Q a (w.alloc o) := Below.alloc h h.size o
theorem Q.cell {a w : World} (h : Q a w) {b o : Nat} (hb : b < a.heap.size) : w.cell? ⟨b, o, none⟩ = a.cell? ⟨b, o, none⟩ := Below.cell h hb
theorem Q.lt {a w : World} (h : Q a w) {b : Nat} (hb : b < a.heap.size) : b < w.heap.size := Nat.lt_of_lt_of_le hb h.size
end Go.Proofs.YtfjpdopmojfchaaGreatDoor
namespace Go.Proofs
open Go.Shelf
def Tryz.lays170_ren : Go.Shelf.Ren := ⟨fun | 170 => 90 | n => n, fun | 70 => 96 | 3 => 3 | 0 => 0 | 72 => 99 | 37 => 97 | 5 => 5 | n => n, fun | n => n⟩
theorem Tryz.lays170 : Go.Proofs.Lays.n170 Tryz.prog Tryz.lays170_ren := {
  mixed := by kernel_rfl
  f170 := Tryz.func90.trans (congrArg some (by kernel_rfl))
  t0 := Tryz.underlying0
  a0 := Tryz.isAgg0
  z0 := Tryz.sizeOf0
  v0 := Tryz.zeroValue0
  t3 := Tryz.underlying3
  a3 := Tryz.isAgg3
  z3 := Tryz.sizeOf3
  v3 := Tryz.zeroValue3
  t37 := Tryz.underlying97
  a37 := Tryz.isAgg97
  z37 := Tryz.sizeOf97
  v37 := Tryz.zeroValue97
  t70 := Tryz.underlying96
  a70 := Tryz.isAgg96
  z70 := Tryz.sizeOf96
  v70 := Tryz.zeroValue96
  t72 := Tryz.underlying99
  a72 := Tryz.isAgg99
  z72 := Tryz.sizeOf99
  v72 := Tryz.zeroValue99 }
open Go.RowKit in
theorem Tryz.Builder_Len (B b : Nat) (bs : List Value) (w : World) (h : Lib.IsBuilder 99 5 B b bs w) :
    Calls Tryz.prog 90 #[.pointer (some ⟨b, 0, none⟩)] w fun e w' => e = .returned (.int .i64 bs.length) ∧ w' = w := Any.Builder_Len Tryz.lays170 B b bs w h
def Tryz.lays169_ren : Go.Shelf.Ren := ⟨fun | 169 => 93 | n => n, fun | 70 => 96 | 9 => 9 | 0 => 0 | 72 => 99 | 37 => 97 | 127 => 134 | 3 => 3 | 5 => 5 | n => n, fun | n => n⟩
theorem Tryz.lays169 : Go.Proofs.Lays.n169 Tryz.prog Tryz.lays169_ren := {
  mixed := by kernel_rfl
  f169 := Tryz.func93.trans (congrArg some (by kernel_rfl))
  t0 := Tryz.underlying0
  a0 := Tryz.isAgg0
  z0 := Tryz.sizeOf0
  v0 := Tryz.zeroValue0
  t3 := Tryz.underlying3
  a3 := Tryz.isAgg3
  z3 := Tryz.sizeOf3
  v3 := Tryz.zeroValue3
  t9 := Tryz.underlying9
  a9 := Tryz.isAgg9
  z9 := Tryz.sizeOf9
  v9 := Tryz.zeroValue9
  t37 := Tryz.underlying97
  a37 := Tryz.isAgg97
  z37 := Tryz.sizeOf97
  v37 := Tryz.zeroValue97
  t70 := Tryz.underlying96
  a70 := Tryz.isAgg96
  z70 := Tryz.sizeOf96
  v70 := Tryz.zeroValue96
  t72 := Tryz.underlying99
  a72 := Tryz.isAgg99
  z72 := Tryz.sizeOf99
  v72 := Tryz.zeroValue99
  t127 := Tryz.underlying134
  a127 := Tryz.isAgg134
  z127 := Tryz.sizeOf134
  v127 := Tryz.zeroValue134 }
theorem Tryz.Builder_Extra_169 : Builder.Extra Tryz.prog Tryz.lays169_ren := {
  sizeBuilder := by kernel_rfl
  liesBuilder := by kernel_rfl
  t5 := Tryz.underlying5
  a5 := Tryz.isAgg5
  z5 := Tryz.sizeOf5
  v5 := Tryz.zeroValue5
  infoByte := by kernel_rfl
  cellsByte := by kernel_rfl
  sizeByte := by kernel_rfl
  neB5 := by decide }
open Go.RowKit in
theorem Tryz.Builder_String_any (B b : Nat) (l : List UInt8) (w : World) (h : Lib.IsBuilder 99 5 B b (Lib.byteCells l) w) (hBw : B ≤ w.heap.size) :
    Calls Tryz.prog 93 #[.pointer (some ⟨b, 0, none⟩)] w fun e w' => e = .returned (.string ⟨l.toArray⟩) ∧ Below B w w' := Any.Builder_String_any Tryz.lays169 Tryz.Builder_Extra_169 B b l w h hBw
def Tryz.lays162_ren : Go.Shelf.Ren := ⟨fun | 162 => 145 | 232 => 161 | 227 => 162 | 234 => 163 | 236 => 164 | 228 => 173 | 271 => 174 | 151 => 175 | 120 => 180 | 197 => 181 | 152 => 182 | 260 => 187 | 137 => 188 | 119 => 189 | 224 => 185 | 225 => 184 | 217 => 183 | 266 => 190 | n => n, fun | 9 => 9 | 4 => 4 | 3 => 3 | 5 => 5 | 117 => 172 | 116 => 171 | 0 => 0 | 124 => 175 | 21 => 21 | 105 => 183 | 46 => 140 | 119 => 160 | 139 => 163 | 138 => 162 | n => n, fun | 3 => 1 | 4 => 2 | n => n⟩
theorem Tryz.lays162 : Go.Proofs.Lays.n162 Tryz.prog Tryz.lays162_ren := {
  mixed := by kernel_rfl
  f119 := Tryz.func189.trans (congrArg some (by kernel_rfl))
  f120 := Tryz.func180.trans (congrArg some (by kernel_rfl))
  f137 := Tryz.func188.trans (congrArg some (by kernel_rfl))
  f151 := Tryz.func175.trans (congrArg some (by kernel_rfl))
  f152 := Tryz.func182.trans (congrArg some (by kernel_rfl))
  f162 := Tryz.func145.trans (congrArg some (by kernel_rfl))
  f197 := Tryz.func181.trans (congrArg some (by kernel_rfl))
  f217 := Tryz.func183.trans (congrArg some (by kernel_rfl))
  f224 := Tryz.func185.trans (congrArg some (by kernel_rfl))
  f225 := Tryz.func184.trans (congrArg some (by kernel_rfl))
  f227 := Tryz.func162.trans (congrArg some (by kernel_rfl))
  f228 := Tryz.func173.trans (congrArg some (by kernel_rfl))
  f232 := Tryz.func161.trans (congrArg some (by kernel_rfl))
  f234 := Tryz.func163.trans (congrArg some (by kernel_rfl))
  f236 := Tryz.func164.trans (congrArg some (by kernel_rfl))
  f260 := Tryz.func187.trans (congrArg some (by kernel_rfl))
  f266 := Tryz.func190.trans (congrArg some (by kernel_rfl))
  f271 := Tryz.func174.trans (congrArg some (by kernel_rfl))
  t0 := Tryz.underlying0
  a0 := Tryz.isAgg0
  z0 := Tryz.sizeOf0
  v0 := Tryz.zeroValue0
  t3 := Tryz.underlying3
  a3 := Tryz.isAgg3
  z3 := Tryz.sizeOf3
  v3 := Tryz.zeroValue3
  t4 := Tryz.underlying4
  a4 := Tryz.isAgg4
  z4 := Tryz.sizeOf4
  v4 := Tryz.zeroValue4
  t5 := Tryz.underlying5
  a5 := Tryz.isAgg5
  z5 := Tryz.sizeOf5
  v5 := Tryz.zeroValue5
  t9 := Tryz.underlying9
  a9 := Tryz.isAgg9
  z9 := Tryz.sizeOf9
  v9 := Tryz.zeroValue9
  t21 := Tryz.underlying21
  a21 := Tryz.isAgg21
  z21 := Tryz.sizeOf21
  v21 := Tryz.zeroValue21
  t46 := Tryz.underlying140
  a46 := Tryz.isAgg140
  z46 := Tryz.sizeOf140
  v46 := Tryz.zeroValue140
  t105 := Tryz.underlying183
  a105 := Tryz.isAgg183
  z105 := Tryz.sizeOf183
  v105 := Tryz.zeroValue183
  t116 := Tryz.underlying171
  a116 := Tryz.isAgg171
  z116 := Tryz.sizeOf171
  t117 := Tryz.underlying172
  a117 := Tryz.isAgg172
  z117 := Tryz.sizeOf172
  v117 := Tryz.zeroValue172
  t119 := Tryz.underlying160
  a119 := Tryz.isAgg160
  z119 := Tryz.sizeOf160
  t124 := Tryz.underlying175
  a124 := Tryz.isAgg175
  z124 := Tryz.sizeOf175
  v124 := Tryz.zeroValue175
  t138 := Tryz.underlying162
  a138 := Tryz.isAgg162
  z138 := Tryz.sizeOf162
  v138 := Tryz.zeroValue162
  t139 := Tryz.underlying163
  a139 := Tryz.isAgg163
  z139 := Tryz.sizeOf163
  v139 := Tryz.zeroValue163
  g3 := by kernel_rfl
  g4 := by kernel_rfl }
open Go.RowKit in
theorem Tryz.strings_TrimRight_one (s : ByteArray) (c : UInt8) (hc : c.toNat < 128) (w : World) (hs : s.size ≤ 9223372036854775807) :
    Calls Tryz.prog 145 #[.string s, .string ⟨#[c]⟩] w fun e w' => e = .returned (.string ⟨(Lib.trimRightB s.data.toList c).toArray⟩) ∧ w' = w := Any.strings_TrimRight_one Tryz.lays162 s c hc w hs
def Tryz.lays134_ren : Go.Shelf.Ren := ⟨fun | 134 => 156 | 129 => 168 | n => n, fun | 53 => 109 | 3 => 3 | 4 => 4 | 46 => 140 | 5 => 5 | 9 => 9 | n => n, fun | n => n⟩
theorem Tryz.lays134 : Go.Proofs.Lays.n134 Tryz.prog Tryz.lays134_ren := {
  mixed := by kernel_rfl
  f129 := Tryz.func168.trans (congrArg some (by kernel_rfl))
  f134 := Tryz.func156.trans (congrArg some (by kernel_rfl))
  t3 := Tryz.underlying3
  a3 := Tryz.isAgg3
  z3 := Tryz.sizeOf3
  v3 := Tryz.zeroValue3
  t4 := Tryz.underlying4
  a4 := Tryz.isAgg4
  z4 := Tryz.sizeOf4
  v4 := Tryz.zeroValue4
  t5 := Tryz.underlying5
  a5 := Tryz.isAgg5
  z5 := Tryz.sizeOf5
  v5 := Tryz.zeroValue5
  t9 := Tryz.underlying9
  a9 := Tryz.isAgg9
  z9 := Tryz.sizeOf9
  v9 := Tryz.zeroValue9
  t46 := Tryz.underlying140
  a46 := Tryz.isAgg140
  z46 := Tryz.sizeOf140
  v46 := Tryz.zeroValue140
  t53 := Tryz.underlying109
  a53 := Tryz.isAgg109
  z53 := Tryz.sizeOf109
  v53 := Tryz.zeroValue109 }
theorem Tryz.bits_LeadingZeros64 (x : Int) (w : World) (h0 : 0 ≤ x) (h1 : x ≤ 18446744073709551615) :
    Calls Tryz.prog 156 #[.int .u64 x] w fun e w' => e = .returned (.int .i64 (64 - (Lib.bitLen x.toNat : Int))) ∧ w' = w := Any.bits_LeadingZeros64 Tryz.lays134 x w h0 h1
def Tryz.lays103_ren : Go.Shelf.Ren := ⟨fun | 103 => 150 | 210 => 165 | 206 => 176 | n => n, fun | 9 => 9 | 4 => 4 | 24 => 153 | 3 => 3 | n => n, fun | n => n⟩
theorem Tryz.lays103 : Go.Proofs.Lays.n103 Tryz.prog Tryz.lays103_ren := {
  mixed := by kernel_rfl
  f103 := Tryz.func150.trans (congrArg some (by kernel_rfl))
  f206 := Tryz.func176.trans (congrArg some (by kernel_rfl))
  f210 := Tryz.func165.trans (congrArg some (by kernel_rfl))
  t3 := Tryz.underlying3
  a3 := Tryz.isAgg3
  z3 := Tryz.sizeOf3
  v3 := Tryz.zeroValue3
  t4 := Tryz.underlying4
  a4 := Tryz.isAgg4
  z4 := Tryz.sizeOf4
  v4 := Tryz.zeroValue4
  t9 := Tryz.underlying9
  a9 := Tryz.isAgg9
  z9 := Tryz.sizeOf9
  v9 := Tryz.zeroValue9
  t24 := Tryz.underlying153
  a24 := Tryz.isAgg153
  z24 := Tryz.sizeOf153
  v24 := Tryz.zeroValue153 }
open Go.RowKit in
theorem Tryz.strings_CutPrefix (s p : ByteArray) (w : World) :
    Calls Tryz.prog 150 #[.string s, .string p] w fun e w' => e = .returned (.tuple #[.string ⟨(Lib.trimPrefix s.data.toList p.data.toList).toArray⟩, .bool (Lib.hasPrefix s.data.toList p.data.toList)]) ∧ w' = w := Any.strings_CutPrefix Tryz.lays103 s p w
def Tryz.lays283_ren : Go.Shelf.Ren := ⟨fun | 283 => 157 | n => n, fun | 3 => 3 | 9 => 9 | 4 => 4 | n => n, fun | n => n⟩
theorem Tryz.lays283 : Go.Proofs.Lays.n283 Tryz.prog Tryz.lays283_ren := {
  mixed := by kernel_rfl
  f283 := Tryz.func157.trans (congrArg some (by kernel_rfl))
  t3 := Tryz.underlying3
  a3 := Tryz.isAgg3
  z3 := Tryz.sizeOf3
  v3 := Tryz.zeroValue3
  t4 := Tryz.underlying4
  a4 := Tryz.isAgg4
  z4 := Tryz.sizeOf4
  v4 := Tryz.zeroValue4
  t9 := Tryz.underlying9
  a9 := Tryz.isAgg9
  z9 := Tryz.sizeOf9
  v9 := Tryz.zeroValue9 }
open Go.Lib in
theorem Tryz.internal_strconv_small (i : Nat) (h : i < 100) (w : World) :
    Calls Tryz.prog 157 #[.int .i64 i] w fun e w' => e = .returned (.string ⟨(Lib.decDigits i).toArray⟩) ∧ w' = w := Any.internal_strconv_small Tryz.lays283 i h w
def Tryz.laysM284_ren : Go.Shelf.Ren := ⟨fun | 284 => 158 | 129 => 168 | 317 => 169 | 318 => 170 | n => n, fun | 53 => 109 | 3 => 3 | 212 => 178 | 0 => 0 | 4 => 4 | 46 => 140 | 5 => 5 | 9 => 9 | n => n, fun | 17 => 5 | n => n⟩
theorem Tryz.laysM284 : Go.Proofs.LaysM.n284 Tryz.prog Tryz.laysM284_ren := {
  mixed := by kernel_rfl
  f129 := Tryz.func168.trans (congrArg some (by kernel_rfl))
  f284 := Tryz.func158.trans (congrArg some (by kernel_rfl))
  f317 := Tryz.func169.trans (congrArg some (by kernel_rfl))
  f318 := Tryz.func170.trans (congrArg some (by kernel_rfl))
  t0 := Tryz.underlying0
  a0 := Tryz.isAgg0
  z0 := Tryz.sizeOf0
  v0 := Tryz.zeroValue0
  t3 := Tryz.underlying3
  a3 := Tryz.isAgg3
  z3 := Tryz.sizeOf3
  v3 := Tryz.zeroValue3
  t4 := Tryz.underlying4
  a4 := Tryz.isAgg4
  z4 := Tryz.sizeOf4
  v4 := Tryz.zeroValue4
  t5 := Tryz.underlying5
  a5 := Tryz.isAgg5
  z5 := Tryz.sizeOf5
  v5 := Tryz.zeroValue5
  t9 := Tryz.underlying9
  a9 := Tryz.isAgg9
  z9 := Tryz.sizeOf9
  v9 := Tryz.zeroValue9
  t46 := Tryz.underlying140
  a46 := Tryz.isAgg140
  z46 := Tryz.sizeOf140
  v46 := Tryz.zeroValue140
  t53 := Tryz.underlying109
  a53 := Tryz.isAgg109
  z53 := Tryz.sizeOf109
  v53 := Tryz.zeroValue109
  t212 := Tryz.underlying178
  a212 := Tryz.isAgg178
  z212 := Tryz.sizeOf178
  v212 := Tryz.zeroValue178
  g17 := by kernel_rfl
  i0 := by kernel_rfl
  i3 := by kernel_rfl
  i4 := by kernel_rfl
  i5 := by kernel_rfl
  i9 := by kernel_rfl
  i46 := by kernel_rfl
  i53 := by kernel_rfl
  i212 := by kernel_rfl
  m17 := by kernel_rfl }
open Go.Lib in
theorem Tryz.internal_strconv_numDigits (u : Nat) (h1 : 1 ≤ u) (h2 : u < 18446744073709551616) (w : World) (htab : Lib.TabIs Tryz.prog w "internal/strconv.uint64pow10" .u64 Lib.pow10Tab) :
    Calls Tryz.prog 158 #[.int .u64 u] w fun e w' => e = .returned (.int .i64 (Lib.nDigits u)) ∧ w' = w := Any.internal_strconv_numDigits Tryz.laysM284 u h1 h2 w htab
def Tryz.lays285_ren : Go.Shelf.Ren := ⟨fun | 285 => 159 | n => n, fun | 37 => 97 | 53 => 109 | 3 => 3 | 4 => 4 | 51 => 179 | 9 => 9 | 5 => 5 | 0 => 0 | n => n, fun | n => n⟩
theorem Tryz.lays285 : Go.Proofs.Lays.n285 Tryz.prog Tryz.lays285_ren := {
  mixed := by kernel_rfl
  f285 := Tryz.func159.trans (congrArg some (by kernel_rfl))
  t0 := Tryz.underlying0
  a0 := Tryz.isAgg0
  z0 := Tryz.sizeOf0
  v0 := Tryz.zeroValue0
  t3 := Tryz.underlying3
  a3 := Tryz.isAgg3
  z3 := Tryz.sizeOf3
  v3 := Tryz.zeroValue3
  t4 := Tryz.underlying4
  a4 := Tryz.isAgg4
  z4 := Tryz.sizeOf4
  v4 := Tryz.zeroValue4
  t5 := Tryz.underlying5
  a5 := Tryz.isAgg5
  z5 := Tryz.sizeOf5
  v5 := Tryz.zeroValue5
  t9 := Tryz.underlying9
  a9 := Tryz.isAgg9
  z9 := Tryz.sizeOf9
  v9 := Tryz.zeroValue9
  t37 := Tryz.underlying97
  a37 := Tryz.isAgg97
  z37 := Tryz.sizeOf97
  v37 := Tryz.zeroValue97
  t51 := Tryz.underlying179
  a51 := Tryz.isAgg179
  z51 := Tryz.sizeOf179
  v51 := Tryz.zeroValue179
  t53 := Tryz.underlying109
  a53 := Tryz.isAgg109
  z53 := Tryz.sizeOf109
  v53 := Tryz.zeroValue109 }
open Go.RowKit Go.Sort Go.Lib in
theorem Tryz.internal_strconv_formatBase10 (blk off cap : Nat) (u : Nat) (d : Array UInt8) (w : World) (hH : Holds (fun (b : UInt8) => Value.int .u8 (b.toNat : Int)) w blk off d) (hu : u < 10 ^ d.size) (hu64 : u < 18446744073709551616) (hsz : d.size < 4611686018427387904) :
    Calls Tryz.prog 159 #[.slice (some ⟨blk, off, none⟩) d.size cap, .int .u64 u] w fun e w' =>
      e = .returned (.tuple #[]) ∧ ∃ (n v' : Nat) (dk : Array UInt8), w' = (putRow (fun (b : UInt8) => Value.int .u8 (b.toNat : Int)) w blk off dk).drewN n ∧ FmtInv d.size u 0 v' dk := Any.internal_strconv_formatBase10 Tryz.lays285 blk off cap u d w hH hu hu64 hsz
def Tryz.lays219_ren : Go.Shelf.Ren := ⟨fun | 219 => 177 | 217 => 183 | 225 => 184 | 224 => 185 | 267 => 186 | 266 => 190 | 314 => 191 | n => n, fun | 9 => 9 | 3 => 3 | 4 => 4 | 5 => 5 | 46 => 140 | 146 => 193 | 51 => 179 | n => n, fun | 1 => 6 | n => n⟩
def Tryz.lays145_ren : Go.Shelf.Ren := ⟨fun | 145 => 151 | 220 => 166 | 219 => 177 | 217 => 183 | 225 => 184 | 224 => 185 | 267 => 186 | 266 => 190 | 314 => 191 | n => n, fun | 9 => 9 | 4 => 4 | 59 => 155 | 3 => 3 | 5 => 5 | 46 => 140 | 146 => 193 | 51 => 179 | n => n, fun | 1 => 6 | n => n⟩
theorem Tryz.lays145 : Go.Proofs.Lays.n145 Tryz.prog Tryz.lays145_ren := {
  mixed := by kernel_rfl
  f145 := Tryz.func151.trans (congrArg some (by kernel_rfl))
  f217 := Tryz.func183.trans (congrArg some (by kernel_rfl))
  f219 := Tryz.func177.trans (congrArg some (by kernel_rfl))
  f220 := Tryz.func166.trans (congrArg some (by kernel_rfl))
  f224 := Tryz.func185.trans (congrArg some (by kernel_rfl))
  f225 := Tryz.func184.trans (congrArg some (by kernel_rfl))
  f266 := Tryz.func190.trans (congrArg some (by kernel_rfl))
  f267 := Tryz.func186.trans (congrArg some (by kernel_rfl))
  f314 := Tryz.func191.trans (congrArg some (by kernel_rfl))
  t3 := Tryz.underlying3
  a3 := Tryz.isAgg3
  z3 := Tryz.sizeOf3
  v3 := Tryz.zeroValue3
  t4 := Tryz.underlying4
  a4 := Tryz.isAgg4
  z4 := Tryz.sizeOf4
  v4 := Tryz.zeroValue4
  t5 := Tryz.underlying5
  a5 := Tryz.isAgg5
  z5 := Tryz.sizeOf5
  v5 := Tryz.zeroValue5
  t9 := Tryz.underlying9
  a9 := Tryz.isAgg9
  z9 := Tryz.sizeOf9
  v9 := Tryz.zeroValue9
  t46 := Tryz.underlying140
  a46 := Tryz.isAgg140
  z46 := Tryz.sizeOf140
  v46 := Tryz.zeroValue140
  t51 := Tryz.underlying179
  a51 := Tryz.isAgg179
  z51 := Tryz.sizeOf179
  v51 := Tryz.zeroValue179
  t59 := Tryz.underlying155
  a59 := Tryz.isAgg155
  z59 := Tryz.sizeOf155
  v59 := Tryz.zeroValue155
  t146 := Tryz.underlying193
  a146 := Tryz.isAgg193
  z146 := Tryz.sizeOf193
  v146 := Tryz.zeroValue193
  g1 := by kernel_rfl }
open Go.RowKit Go.Lib in
theorem Tryz.strings_Cut (s sep : ByteArray) (m : Int) (w : World) (hs : s.size < 4294967281) (hm : w.cell? ⟨6, 0, none⟩ = some (.int .i64 m)) :
    Calls Tryz.prog 151 #[.string s, .string sep] w fun e w' => e = .returned (.tuple #[.string ⟨(Lib.cut s.data.toList sep.data.toList).1.toArray⟩, .string ⟨(Lib.cut s.data.toList sep.data.toList).2.1.toArray⟩, .bool (Lib.cut s.data.toList sep.data.toList).2.2]) ∧ ∃ n, w' = w.drewN n := Any.strings_Cut Tryz.lays145 s sep m w hs hm
def Tryz.laysM145_ren : Go.Shelf.Ren := ⟨fun | 145 => 151 | 220 => 166 | 219 => 177 | 217 => 183 | 225 => 184 | 224 => 185 | 267 => 186 | 266 => 190 | 314 => 191 | n => n, fun | 9 => 9 | 4 => 4 | 59 => 155 | 3 => 3 | 5 => 5 | 46 => 140 | 146 => 193 | 51 => 179 | n => n, fun | 1 => 6 | n => n⟩
theorem Tryz.laysM145 : Go.Proofs.LaysM.n145 Tryz.prog Tryz.laysM145_ren := {
  mixed := by kernel_rfl
  f145 := Tryz.func151.trans (congrArg some (by kernel_rfl))
  f217 := Tryz.func183.trans (congrArg some (by kernel_rfl))
  f219 := Tryz.func177.trans (congrArg some (by kernel_rfl))
  f220 := Tryz.func166.trans (congrArg some (by kernel_rfl))
  f224 := Tryz.func185.trans (congrArg some (by kernel_rfl))
  f225 := Tryz.func184.trans (congrArg some (by kernel_rfl))
  f266 := Tryz.func190.trans (congrArg some (by kernel_rfl))
  f267 := Tryz.func186.trans (congrArg some (by kernel_rfl))
  f314 := Tryz.func191.trans (congrArg some (by kernel_rfl))
  t3 := Tryz.underlying3
  a3 := Tryz.isAgg3
  z3 := Tryz.sizeOf3
  v3 := Tryz.zeroValue3
  t4 := Tryz.underlying4
  a4 := Tryz.isAgg4
  z4 := Tryz.sizeOf4
  v4 := Tryz.zeroValue4
  t5 := Tryz.underlying5
  a5 := Tryz.isAgg5
  z5 := Tryz.sizeOf5
  v5 := Tryz.zeroValue5
  t9 := Tryz.underlying9
  a9 := Tryz.isAgg9
  z9 := Tryz.sizeOf9
  v9 := Tryz.zeroValue9
  t46 := Tryz.underlying140
  a46 := Tryz.isAgg140
  z46 := Tryz.sizeOf140
  v46 := Tryz.zeroValue140
  t51 := Tryz.underlying179
  a51 := Tryz.isAgg179
  z51 := Tryz.sizeOf179
  v51 := Tryz.zeroValue179
  t59 := Tryz.underlying155
  a59 := Tryz.isAgg155
  z59 := Tryz.sizeOf155
  v59 := Tryz.zeroValue155
  t146 := Tryz.underlying193
  a146 := Tryz.isAgg193
  z146 := Tryz.sizeOf193
  v146 := Tryz.zeroValue193
  g1 := by kernel_rfl
  i3 := by kernel_rfl
  i4 := by kernel_rfl
  i5 := by kernel_rfl
  i9 := by kernel_rfl
  i46 := by kernel_rfl
  i51 := by kernel_rfl
  i59 := by kernel_rfl
  i146 := by kernel_rfl
  m1 := by kernel_rfl
  s1_3 := fun w h => Go.Proofs.cell_of_shapedOpen_int (zero := #[.int .i64 0]) (t := 3) h (of_decide_eq_true (by kernel_rfl)) (by kernel_rfl) rfl (by kernel_rfl) (by kernel_rfl) Tryz.underlying3 }
def Tryz.lays264_ren : Go.Shelf.Ren := ⟨fun | 264 => 123 | n => n, fun | 53 => 109 | 46 => 140 | n => n, fun | n => n⟩
theorem Tryz.lays264 : Go.Proofs.Lays.n264 Tryz.prog Tryz.lays264_ren := {
  mixed := by kernel_rfl
  f264 := Tryz.func123.trans (congrArg some (by kernel_rfl))
  t46 := Tryz.underlying140
  a46 := Tryz.isAgg140
  z46 := Tryz.sizeOf140
  v46 := Tryz.zeroValue140
  t53 := Tryz.underlying109
  a53 := Tryz.isAgg109
  z53 := Tryz.sizeOf109
  v53 := Tryz.zeroValue109 }
open Go.RowKit Go.Lib in
theorem Tryz.bits_Mul64 (x y : Nat) (hx : x < 18446744073709551616) (hy : y < 18446744073709551616) (w : World) :
    Calls Tryz.prog 123 #[.int .u64 x, .int .u64 y] w fun e w' => e = .returned (.tuple #[.int .u64 ((x * y / 18446744073709551616 : Nat) : Int), .int .u64 ((x * y % 18446744073709551616 : Nat) : Int)]) ∧ w' = w := Any.bits_Mul64 Tryz.lays264 x y hx hy w
def Tryz.lays260_ren : Go.Shelf.Ren := ⟨fun | 260 => 187 | n => n, fun | 9 => 9 | 21 => 21 | 3 => 3 | 4 => 4 | 5 => 5 | 119 => 160 | 0 => 0 | 46 => 140 | 139 => 163 | 138 => 162 | n => n, fun | 3 => 1 | 4 => 2 | n => n⟩
theorem Tryz.lays260 : Go.Proofs.Lays.n260 Tryz.prog Tryz.lays260_ren := {
  mixed := by kernel_rfl
  f260 := Tryz.func187.trans (congrArg some (by kernel_rfl))
  t0 := Tryz.underlying0
  a0 := Tryz.isAgg0
  z0 := Tryz.sizeOf0
  v0 := Tryz.zeroValue0
  t3 := Tryz.underlying3
  a3 := Tryz.isAgg3
  z3 := Tryz.sizeOf3
  v3 := Tryz.zeroValue3
  t4 := Tryz.underlying4
  a4 := Tryz.isAgg4
  z4 := Tryz.sizeOf4
  v4 := Tryz.zeroValue4
  t5 := Tryz.underlying5
  a5 := Tryz.isAgg5
  z5 := Tryz.sizeOf5
  v5 := Tryz.zeroValue5
  t9 := Tryz.underlying9
  a9 := Tryz.isAgg9
  z9 := Tryz.sizeOf9
  v9 := Tryz.zeroValue9
  t21 := Tryz.underlying21
  a21 := Tryz.isAgg21
  z21 := Tryz.sizeOf21
  v21 := Tryz.zeroValue21
  t46 := Tryz.underlying140
  a46 := Tryz.isAgg140
  z46 := Tryz.sizeOf140
  v46 := Tryz.zeroValue140
  t119 := Tryz.underlying160
  a119 := Tryz.isAgg160
  z119 := Tryz.sizeOf160
  t138 := Tryz.underlying162
  a138 := Tryz.isAgg162
  z138 := Tryz.sizeOf162
  v138 := Tryz.zeroValue162
  t139 := Tryz.underlying163
  a139 := Tryz.isAgg163
  z139 := Tryz.sizeOf163
  v139 := Tryz.zeroValue163
  g3 := by kernel_rfl
  g4 := by kernel_rfl }
end Go.Proofs
namespace Go.Proofs.YtfjpdopmojfchaaGreatDoor
open Go.RowKit Go.Sort
structure Std (w : World) : Prop where
  tab : Lib.TabIs Tryz.prog w "internal/strconv.uint64pow10" .u64 Lib.pow10Tab
  len : ∃ m : Int, w.cell? ⟨6, 0, none⟩ = some (.int .i64 m)
  big : 6 < w.heap.size
theorem glob_tab : Tryz.prog.globalNamed "internal/strconv.uint64pow10" = some 5 := by kernel_rfl
theorem Std.on {w w' : World} (h : Std w) (q : Q w w') : Std w' := by
  refine ⟨?_, ?_, q.lt h.big⟩
  · have h1 := h.tab
    unfold Lib.TabIs World.var? at *
    rw [glob_tab] at *
    simp only [Option.bind_some] at h1 ⊢
    have hlt : 5 < w.heap.size := by
      rcases Nat.lt_or_ge 5 w.heap.size with h' | h'
      · exact h'
      · rw [Array.getElem?_eq_none h'] at h1; simp at h1
    rw [Below.block q 5 hlt]
    exact h1
  · obtain ⟨m, hm⟩ := h.len
    exact ⟨m, by rw [q.cell h.big]; exact hm⟩
theorem holds_zero0 (w : World) (nd : Nat) (hs : nd ≤ 24) : Holds (fun (b : UInt8) => Value.int .u8 (b.toNat : Int)) (w.alloc (.cells Lib.zeros24 165)) w.heap.size 0 (Array.replicate nd (0 : UInt8)) := fun j hj => by
  have hj' : j < nd := by simpa using hj
  refine ⟨?_, World.frozen?_alloc_new _ _ _ _⟩
  rw [World.cell?_alloc_new, Lib.zeros24_at _ (by omega), getElem!_pos _ j hj]
  simp
theorem q_putRow (w : World) (o : Obj) (dk : Array UInt8) (k : Nat) : Q w ((putRow (fun (b : UInt8) => Value.int .u8 (b.toNat : Int)) (w.alloc o) w.heap.size 0 dk).drewN k) := by
  rw [alloc_eq_grow]
  obtain ⟨os', _, e⟩ := putRow_grow_new (fun (b : UInt8) => Value.int .u8 (b.toNat : Int)) w #[o] w.heap.size 0 dk (Nat.le_refl _)
  rw [e]
  refine Q.drewN ?_ k
  refine ⟨rfl, rfl, rfl, by simp [grow], fun i hi => ?_⟩
  show (w.heap ++ os')[i]? = w.heap[i]?
  rw [Array.getElem?_append_left hi]
set_option maxHeartbeats 400000 in
theorem fmt_small (u : Nat) (w : World) (hu : u < 100) :
    Calls Tryz.prog 144 #[.int .u64 (u : Int), .int .i64 10] w fun e w' => e = .returned (.string ⟨(Lib.decDigits u).toArray⟩) ∧ Q w w' := by
  go_enter Tryz.func144, Tryz.ntmps144
  go_wp2_with (go_at_call 157; refine (Tryz.internal_strconv_small u hu _).mono ?_; rintro e w' ⟨rfl, rfl⟩)
  go_ret
  exact ⟨rfl, Q.refl _⟩
set_option maxHeartbeats 1000000 in
theorem fmt_big (u : Nat) (w : World) (hs : Std w) (hu : 100 ≤ u) (hu64 : u < 18446744073709551616) :
    Calls Tryz.prog 144 #[.int .u64 (u : Int), .int .i64 10] w fun e w' => e = .returned (.string ⟨(Lib.decDigits u).toArray⟩) ∧ Q w w' := by
  have hu1 : 1 ≤ u := by omega
  have hnd20 : Lib.nDigits u ≤ 20 := by have := Lib.numDigits_eq u hu1 hu64; split at this <;> omega
  have hal : Tryz.prog.arrayLen 165 = 24 := by kernel_rfl
  have hsl1 : ∀ W, (Instr.sliceAt 165 (.pointer (some ⟨w.heap.size, 0, none⟩)) none (some (.int .i64 (Lib.nDigits u : Int))) none).run Tryz.prog W = .ok (.slice (some ⟨w.heap.size, 0, none⟩) (Lib.nDigits u) 24) W := fun W => by
    rw [run_sliceAt_array_h W 165 ⟨w.heap.size, 0, none⟩ (by kernel_rfl) .i64 (Lib.nDigits u : Int) (by omega) (by rw [hal]; omega)]
    go_simp
  have hH0 := holds_zero0 w (Lib.nDigits u) (by omega)
  have hfmt := Tryz.internal_strconv_formatBase10 w.heap.size 0 24 u (Array.replicate (Lib.nDigits u) 0) (w.alloc (.cells Lib.zeros24 165)) hH0 (by rw [Array.size_replicate]; exact Lib.lt_pow_nDigits u) hu64 (by rw [Array.size_replicate]; omega)
  rw [Array.size_replicate] at hfmt
  have HH0 := hid hH0
  have HT := hid hs.tab
  have HF := hid hfmt
  clear hH0 hal hs hfmt
  go_enter Tryz.func144, Tryz.ntmps144
  go_wp2_with (first | (go_at_call 158; refine (Tryz.internal_strconv_numDigits u hu1 hu64 _ (Lib.tabIs_alloc HT.out _)).mono ?_; rintro e w' ⟨rfl, rfl⟩))
  refine HF.out.mono ?_
  rintro e w' ⟨rfl, k, v', dk, rfl, hF⟩
  have hcv : (convert 97 9 (.slice (some ⟨w.heap.size, 0, none⟩) (Lib.nDigits u) 24)).run Tryz.prog ((putRow (fun (b : UInt8) => Value.int .u8 (b.toNat : Int)) (w.alloc (.cells Lib.zeros24 165)) w.heap.size 0 dk).drewN k) = .ok (.string ⟨(Lib.decDigits u).toArray⟩) ((putRow (fun (b : UInt8) => Value.int .u8 (b.toNat : Int)) (w.alloc (.cells Lib.zeros24 165)) w.heap.size 0 dk).drewN k) := by
    have h := run_convert_bytes_back (P := Tryz.prog) ((putRow (fun (b : UInt8) => Value.int .u8 (b.toNat : Int)) (w.alloc (.cells Lib.zeros24 165)) w.heap.size 0 dk).drewN k) 97 9 5 ⟨w.heap.size, 0, none⟩ 24 (Lib.decDigits u) Tryz.underlying97 Tryz.underlying5 Tryz.underlying9 (fun j hj => by
      rw [Lib.row_is_numeral hF j hj, Lib.add_plain, World.cell?_drewN]
      exact cell?_putRow (fun (b : UInt8) => Value.int .u8 (b.toNat : Int)) _ w.heap.size 0 _ dk HH0.out (by rw [hF.size, Array.size_replicate]) j (by rw [hF.size]; rw [Lib.decDigits_length] at hj; exact hj))
    rw [Lib.decDigits_length] at h
    exact h
  go_wp2
  go_ret
  exact ⟨rfl, q_putRow w _ dk k⟩
theorem fmt_any (u : Nat) (w : World) (hs : Std w) (hu64 : u < 18446744073709551616) :
    Calls Tryz.prog 144 #[.int .u64 (u : Int), .int .i64 10] w fun e w' => e = .returned (.string ⟨(Lib.decDigits u).toArray⟩) ∧ Q w w' := by
  by_cases h : u < 100
  · exact fmt_small u w h
  · exact fmt_big u w hs (by omega) hu64
set_option maxHeartbeats 400000 in
theorem fmtUint_any (u : Nat) (w : World) (hs : Std w) (hu64 : u < 18446744073709551616) :
    Calls Tryz.prog 126 #[.int .u64 (u : Int), .int .i64 10] w fun e w' => e = .returned (.string ⟨(Lib.decDigits u).toArray⟩) ∧ Q w w' := by
  go_enter Tryz.func126, Tryz.ntmps126
  go_wp2_with (go_at_call 144; refine (fmt_any u _ hs hu64).mono ?_; rintro e w' ⟨rfl, hq⟩)
  go_ret
  exact ⟨rfl, hq⟩
theorem trim_le (l : List UInt8) (c : UInt8) : (Lib.trimRightB l c).length ≤ l.length := by
  unfold Lib.trimRightB
  rw [List.length_reverse]
  have := (List.dropWhile_sublist (l := l.reverse) (fun x => x == c)).length_le
  rw [List.length_reverse] at this
  exact this
theorem bytes_cat (a b : List UInt8) : (⟨a.toArray⟩ : ByteArray) ++ (⟨b.toArray⟩ : ByteArray) = ⟨(a ++ b).toArray⟩ := by
  apply ByteArray.ext
  simp
theorem ret_str {a b : ByteArray} (h : a = b) : Ending.returned (.string a) = .returned (.string b) := by rw [h]
set_option maxHeartbeats 400000 in
theorem part_zero (w : World) :
    Calls Tryz.prog 127 #[.int .u64 0] w fun e w' => e = .returned (.string ⟨(partL 0).toArray⟩) ∧ Q w w' := by
  go_enter Tryz.func127, Tryz.ntmps127
  go_wp2
  go_ret
  exact ⟨rfl, Q.refl _⟩
set_option maxHeartbeats 400000 in
theorem part_some (r : Nat) (w : World) (hs : Std w) (h0 : 0 < r) (h1 : r < 10000) :
    Calls Tryz.prog 127 #[.int .u64 (r : Int)] w fun e w' => e = .returned (.string ⟨(partL r).toArray⟩) ∧ Q w w' := by
  have hz : ((r : Int) == 0) = false := beq_eq_false_iff_ne.2 (by omega)
  have HP : Hid (partL r = 46 :: Lib.trimRightB ((Lib.decDigits (10000 + r)).drop 1) 48) := by show _ = _; unfold partL; rw [if_neg (by omega)]
  have hlen : (Lib.decDigits (10000 + r)).length = 5 := by rw [Lib.decDigits_length]; exact Lib.nDigits_unique 4 _ (by omega) (by omega)
  have hc := hid (fmtUint_any (10000 + r) w hs (by omega))
  rw [show ((10000 + r : Nat) : Int) = 10000 + (r : Int) by omega] at hc
  generalize Lib.decDigits (10000 + r) = ds at *
  obtain ⟨t, ht⟩ : ∃ t, t = ds.drop 1 := ⟨_, rfl⟩
  have htl : t.length = 4 := by rw [ht, List.length_drop, hlen]
  have eX : ByteArray.extract ⟨ds.toArray⟩ 1 5 = ⟨t.toArray⟩ := by
    apply ByteArray.ext
    apply Array.ext'
    rw [Lib.extract_data]
    show (ds.drop 1).take (5 - 1) = t
    rw [← ht, List.take_of_length_le (by omega)]
  have hsz : (⟨t.toArray⟩ : ByteArray).size ≤ 9223372036854775807 := by
    have : (⟨t.toArray⟩ : ByteArray).size = t.length := by simp [ByteArray.size]
    omega
  rw [← ht] at HP
  clear ht
  have htb : (Lib.trimRightB t 48).length ≤ 4 := by have := trim_le t 48; omega
  go_enter Tryz.func127, Tryz.ntmps127
  go_wp2_with (first | (go_at_call 126; refine hc.out.mono ?_; rintro e w1 ⟨rfl, hq1⟩) | (go_at_call 145; refine (Tryz.strings_TrimRight_one ⟨t.toArray⟩ 48 (by decide) _ hsz).mono ?_; rintro e w2 ⟨rfl, rfl⟩))
  go_ret
  exact ⟨ret_str (by rw [HP.out]; exact bytes_cat [46] _), hq1⟩
theorem part_any (r : Nat) (w : World) (hs : Std w) (h1 : r < 10000) :
    Calls Tryz.prog 127 #[.int .u64 (r : Int)] w fun e w' => e = .returned (.string ⟨(partL r).toArray⟩) ∧ Q w w' := by
  rcases Nat.eq_zero_or_pos r with rfl | h0
  · exact part_zero w
  · exact part_some r w hs h0 h1
theorem part_le (r : Nat) (h1 : r < 10000) : (partL r).length ≤ 5 := by
  unfold partL
  split
  · simp
  · have hlen : (Lib.decDigits (10000 + r)).length = 5 := by rw [Lib.decDigits_length]; exact Lib.nDigits_unique 4 _ (by omega) (by omega)
    have := trim_le ((Lib.decDigits (10000 + r)).drop 1) 48
    rw [List.length_drop, hlen] at this
    rw [List.length_cons]
    omega

theorem nDigits_le (u : Nat) (h : u < 18446744073709551616) : Lib.nDigits u ≤ 20 := by
  rcases Nat.eq_zero_or_pos u with rfl | h1
  · rw [Lib.nDigits_small (by omega)]; omega
  · have := Lib.numDigits_eq u h1 h; split at this <;> omega
set_option maxHeartbeats 400000 in
theorem print_any (a : Int) (w : World) (hs : Std w) (ha : Fx a) (haU : a.natAbs < 18446744073709551616) :
    Calls Tryz.prog 88 #[.int .i64 a] w fun e w' => e = .returned (.string ⟨(printL a).toArray⟩) ∧ Q w w' := by
  obtain ⟨m, hm⟩ : ∃ m, m = a.natAbs := ⟨_, rfl⟩
  have hsz := hid (size_any a w ha)
  rw [← hm] at hsz haU
  have hf := hid (fun w1 hs1 => fmtUint_any (m / 10000) w1 hs1 (by omega))
  have hp := hid (fun w1 hs1 => part_any (m % 10000) w1 hs1 (by omega))
  have hL : Hid (magL m = Lib.decDigits (m / 10000) ++ partL (m % 10000)) := rfl
  have l1 : (Lib.decDigits (m / 10000)).length ≤ 20 := by rw [Lib.decDigits_length]; exact nDigits_le _ (by omega)
  have l2 := part_le (m % 10000) (by omega)
  have hP : Hid (printL a = if a < 0 then 45 :: magL m else magL m) := by show _ = _; unfold printL; rw [hm]
  clear hm
  rw [show ((m / 10000 : Nat) : Int) = (m : Int) / 10000 by omega] at hf
  rw [show ((m % 10000 : Nat) : Int) = (m : Int) % 10000 by omega] at hp
  generalize Lib.decDigits (m / 10000) = dl at *
  generalize partL (m % 10000) = pl at *
  by_cases hn : a < 0
  · go_enter Tryz.func88, Tryz.ntmps88
    go_wp2_with (first | (go_at_call 124; refine hsz.out.mono ?_; rintro e w1 ⟨rfl, rfl⟩) | (go_at_call 126; refine (hf.out _ hs).mono ?_; rintro e w2 ⟨rfl, hq2⟩) | (go_at_call 127; refine (hp.out _ (hs.on hq2)).mono ?_; rintro e w3 ⟨rfl, hq3⟩))
    go_ret
    exact ⟨ret_str (by rw [hP.out, if_pos hn, hL.out, bytes_cat]; exact bytes_cat [45] _), hq2.trans hq3⟩
  · go_enter Tryz.func88, Tryz.ntmps88
    go_wp2_with (first | (go_at_call 124; refine hsz.out.mono ?_; rintro e w1 ⟨rfl, rfl⟩) | (go_at_call 126; refine (hf.out _ hs).mono ?_; rintro e w2 ⟨rfl, hq2⟩) | (go_at_call 127; refine (hp.out _ (hs.on hq2)).mono ?_; rintro e w3 ⟨rfl, hq3⟩))
    go_ret
    exact ⟨ret_str (by rw [hP.out, if_neg (by omega), hL.out, bytes_cat]), hq2.trans hq3⟩
end Go.Proofs.YtfjpdopmojfchaaGreatDoor
namespace Go.Proofs
open Go.Shelf
def Tryz.lays196_ren : Go.Shelf.Ren := ⟨fun | 196 => 141 | 259 => 155 | n => n, fun | 9 => 9 | 4 => 4 | 3 => 3 | 5 => 5 | 12 => 12 | 119 => 160 | 0 => 0 | 46 => 140 | 139 => 163 | 138 => 162 | 53 => 109 | n => n, fun | 3 => 1 | 4 => 2 | n => n⟩
theorem Tryz.lays196 : Go.Proofs.Lays.n196 Tryz.prog Tryz.lays196_ren := {
  mixed := by kernel_rfl
  f196 := Tryz.func141.trans (congrArg some (by kernel_rfl))
  f259 := Tryz.func155.trans (congrArg some (by kernel_rfl))
  t0 := Tryz.underlying0
  a0 := Tryz.isAgg0
  z0 := Tryz.sizeOf0
  v0 := Tryz.zeroValue0
  t3 := Tryz.underlying3
  a3 := Tryz.isAgg3
  z3 := Tryz.sizeOf3
  v3 := Tryz.zeroValue3
  t4 := Tryz.underlying4
  a4 := Tryz.isAgg4
  z4 := Tryz.sizeOf4
  v4 := Tryz.zeroValue4
  t5 := Tryz.underlying5
  a5 := Tryz.isAgg5
  z5 := Tryz.sizeOf5
  v5 := Tryz.zeroValue5
  t9 := Tryz.underlying9
  a9 := Tryz.isAgg9
  z9 := Tryz.sizeOf9
  v9 := Tryz.zeroValue9
  t12 := Tryz.underlying12
  a12 := Tryz.isAgg12
  z12 := Tryz.sizeOf12
  v12 := Tryz.zeroValue12
  t46 := Tryz.underlying140
  a46 := Tryz.isAgg140
  z46 := Tryz.sizeOf140
  v46 := Tryz.zeroValue140
  t53 := Tryz.underlying109
  a53 := Tryz.isAgg109
  z53 := Tryz.sizeOf109
  v53 := Tryz.zeroValue109
  t119 := Tryz.underlying160
  a119 := Tryz.isAgg160
  z119 := Tryz.sizeOf160
  t138 := Tryz.underlying162
  a138 := Tryz.isAgg162
  z138 := Tryz.sizeOf162
  v138 := Tryz.zeroValue162
  t139 := Tryz.underlying163
  a139 := Tryz.isAgg163
  z139 := Tryz.sizeOf163
  v139 := Tryz.zeroValue163
  g3 := by kernel_rfl
  g4 := by kernel_rfl }
open Go.RowKit in
theorem Tryz.utf8_ValidString (s : ByteArray) (w : World) (hs : s.size ≤ 9223372036854775807) (hT : Lib.Utf8Tabs 1 2 w) :
    Calls Tryz.prog 141 #[.string s] w fun e w' => e = .returned (.bool (Lib.validD s.data.toList)) ∧ Below w.heap.size w w' := Any.utf8_ValidString Tryz.lays196 s w hs hT
end Go.Proofs
namespace Go.Proofs.YtfjpdopmojfchaaGreatDoor
open Go Go.Lib
theorem lead_bad (m : List UInt8) (hne : m ≠ []) (c : Nat) (ec : (m.getD 0 0).toNat = c) (h : (128 ≤ c ∧ c < 194) ∨ 245 ≤ c) : validD m = false := by
  have hc : c < 256 := by rw [← ec]; exact (m.getD 0 0).toNat_lt
  rw [validD_lead m hne (by rw [ec]; omega), ec]
  have hf : firstT c % 8 = 1 := by
    unfold firstT
    repeat' split
    all_goals first | omega | rfl
  rw [hf]
  simp [checkN]
theorem lead2 (m : List UInt8) (hne : m ≠ []) (c : Nat) (ec : (m.getD 0 0).toNat = c) (h : 194 ≤ c ∧ c ≤ 223) :
    validD m = if m.length < 2 ∨ (m.getD 1 0).toNat < 128 ∨ 191 < (m.getD 1 0).toNat then false else validD (m.drop 2) := by
  rw [validD_lead m hne (by rw [ec]; omega), ec]
  have hf : firstT c = 2 := by
    unfold firstT
    repeat' split
    all_goals first | omega | rfl
  rw [hf]
  unfold checkN
  simp only [show 2 % 8 = 2 from rfl, if_true]
  have e1 : accLo (2 / 16) = 128 := by decide
  have e2 : accHi (2 / 16) = 191 := by decide
  rw [e1, e2]
  by_cases hh : m.length < 2 ∨ (m.getD 1 0).toNat < 128 ∨ 191 < (m.getD 1 0).toNat
  · rw [if_pos hh, if_pos hh]
  · rw [if_neg hh, if_neg hh]
theorem lead3 (m : List UInt8) (hne : m ≠ []) (c : Nat) (ec : (m.getD 0 0).toNat = c) (h : 224 ≤ c ∧ c ≤ 239) :
    validD m = if m.length < 3 ∨ (m.getD 1 0).toNat < (if c = 224 then 160 else 128) ∨ (if c = 237 then 159 else 191) < (m.getD 1 0).toNat ∨ (m.getD 2 0).toNat < 128 ∨ 191 < (m.getD 2 0).toNat then false else validD (m.drop 3) := by
  rw [validD_lead m hne (by rw [ec]; omega), ec]
  have hf : firstT c % 8 = 3 ∧ accLo (firstT c / 16) = (if c = 224 then 160 else 128) ∧ accHi (firstT c / 16) = (if c = 237 then 159 else 191) := by
    by_cases h1 : c = 224
    · subst h1; decide
    · by_cases h2 : c = 237
      · subst h2; decide
      · rw [if_neg h1, if_neg h2]
        unfold firstT
        repeat' split
        all_goals first | omega | decide
  rw [hf.1, hf.2.1, hf.2.2]
  unfold checkN
  simp only [show ¬ (3 = 2) by omega, if_false, if_true]
  by_cases hh : m.length < 3 ∨ (m.getD 1 0).toNat < (if c = 224 then 160 else 128) ∨ (if c = 237 then 159 else 191) < (m.getD 1 0).toNat ∨ (m.getD 2 0).toNat < 128 ∨ 191 < (m.getD 2 0).toNat
  · rw [if_pos hh, if_pos hh]
  · rw [if_neg hh, if_neg hh]
theorem lead4 (m : List UInt8) (hne : m ≠ []) (c : Nat) (ec : (m.getD 0 0).toNat = c) (h : 240 ≤ c ∧ c ≤ 244) :
    validD m = if m.length < 4 ∨ (m.getD 1 0).toNat < (if c = 240 then 144 else 128) ∨ (if c = 244 then 143 else 191) < (m.getD 1 0).toNat ∨ (m.getD 2 0).toNat < 128 ∨ 191 < (m.getD 2 0).toNat ∨ (m.getD 3 0).toNat < 128 ∨ 191 < (m.getD 3 0).toNat then false else validD (m.drop 4) := by
  rw [validD_lead m hne (by rw [ec]; omega), ec]
  have hf : firstT c % 8 = 4 ∧ accLo (firstT c / 16) = (if c = 240 then 144 else 128) ∧ accHi (firstT c / 16) = (if c = 244 then 143 else 191) := by
    rcases (by omega : c = 240 ∨ c = 241 ∨ c = 242 ∨ c = 243 ∨ c = 244) with rfl | rfl | rfl | rfl | rfl <;> decide
  rw [hf.1, hf.2.1, hf.2.2]
  unfold checkN
  simp only [show ¬ (4 = 2) by omega, show ¬ (4 = 3) by omega, if_false, if_true]
  by_cases hh : m.length < 4 ∨ (m.getD 1 0).toNat < (if c = 240 then 144 else 128) ∨ (if c = 244 then 143 else 191) < (m.getD 1 0).toNat ∨ (m.getD 2 0).toNat < 128 ∨ 191 < (m.getD 2 0).toNat ∨ (m.getD 3 0).toNat < 128 ∨ 191 < (m.getD 3 0).toNat
  · rw [if_pos hh, if_pos hh]
  · rw [if_neg hh, if_neg hh]
theorem drop_get (s : ByteArray) (k j : Nat) (h : k + j < s.size) : ((s.data.toList.drop k).getD j 0) = s[k + j] := by
  have h' : k + j < s.data.toList.length := by simpa using h
  rw [List.getD_eq_getElem?_getD, List.getElem?_drop, List.getElem?_eq_getElem h']
  rfl
structure At (s : ByteArray) (k : Nat) (A : Bool) : Prop where
  asc : ∀ (h : k < s.size), s[k].toNat < 128 → validD (s.data.toList.drop (k + 1)) = A
  bad : ∀ (h : k < s.size), ((128 ≤ s[k].toNat ∧ s[k].toNat < 194) ∨ 245 ≤ s[k].toNat) → A = false
  two0 : ∀ (h : k < s.size), 194 ≤ s[k].toNat → s[k].toNat ≤ 223 → s.size ≤ k + 1 → A = false
  two1 : ∀ (h : k < s.size) (h1 : k + 1 < s.size), 194 ≤ s[k].toNat → s[k].toNat ≤ 223 → (s[k + 1].toNat < 128 ∨ 191 < s[k + 1].toNat) → A = false
  two : ∀ (h : k < s.size) (h1 : k + 1 < s.size), 194 ≤ s[k].toNat → s[k].toNat ≤ 223 → (128 ≤ s[k + 1].toNat ∧ s[k + 1].toNat ≤ 191) → validD (s.data.toList.drop (k + 2)) = A
  three0 : ∀ (h : k < s.size), 224 ≤ s[k].toNat → s[k].toNat ≤ 239 → s.size ≤ k + 2 → A = false
  three1 : ∀ (h : k < s.size) (h1 : k + 1 < s.size) (h2 : k + 2 < s.size), 224 ≤ s[k].toNat → s[k].toNat ≤ 239 →
    ((s[k].toNat = 224 ∧ s[k + 1].toNat < 160) ∨ (s[k].toNat = 237 ∧ 159 < s[k + 1].toNat) ∨ s[k + 1].toNat < 128 ∨ 191 < s[k + 1].toNat ∨ s[k + 2].toNat < 128 ∨ 191 < s[k + 2].toNat) → A = false
  three : ∀ (h : k < s.size) (h1 : k + 1 < s.size) (h2 : k + 2 < s.size), 224 ≤ s[k].toNat → s[k].toNat ≤ 239 →
    ((s[k].toNat = 224 → 160 ≤ s[k + 1].toNat) ∧ (s[k].toNat = 237 → s[k + 1].toNat ≤ 159) ∧ 128 ≤ s[k + 1].toNat ∧ s[k + 1].toNat ≤ 191 ∧ 128 ≤ s[k + 2].toNat ∧ s[k + 2].toNat ≤ 191) → validD (s.data.toList.drop (k + 3)) = A
  four0 : ∀ (h : k < s.size), 240 ≤ s[k].toNat → s[k].toNat ≤ 244 → s.size ≤ k + 3 → A = false
  four1 : ∀ (h : k < s.size) (h1 : k + 1 < s.size) (h2 : k + 2 < s.size) (h3 : k + 3 < s.size), 240 ≤ s[k].toNat → s[k].toNat ≤ 244 →
    ((s[k].toNat = 240 ∧ s[k + 1].toNat < 144) ∨ (s[k].toNat = 244 ∧ 143 < s[k + 1].toNat) ∨ s[k + 1].toNat < 128 ∨ 191 < s[k + 1].toNat ∨ s[k + 2].toNat < 128 ∨ 191 < s[k + 2].toNat ∨ s[k + 3].toNat < 128 ∨ 191 < s[k + 3].toNat) → A = false
  four : ∀ (h : k < s.size) (h1 : k + 1 < s.size) (h2 : k + 2 < s.size) (h3 : k + 3 < s.size), 240 ≤ s[k].toNat → s[k].toNat ≤ 244 →
    ((s[k].toNat = 240 → 144 ≤ s[k + 1].toNat) ∧ (s[k].toNat = 244 → s[k + 1].toNat ≤ 143) ∧ 128 ≤ s[k + 1].toNat ∧ s[k + 1].toNat ≤ 191 ∧ 128 ≤ s[k + 2].toNat ∧ s[k + 2].toNat ≤ 191 ∧ 128 ≤ s[k + 3].toNat ∧ s[k + 3].toNat ≤ 191) → validD (s.data.toList.drop (k + 4)) = A
theorem at_of (s : ByteArray) (k : Nat) (A : Bool) (hA : validD (s.data.toList.drop k) = A) : At s k A := by
  have hlen : (s.data.toList.drop k).length = s.size - k := by rw [List.length_drop]; simp
  have hne : k < s.size → s.data.toList.drop k ≠ [] := fun h e => by rw [e] at hlen; simp at hlen; omega
  have e0 : ∀ (h : k < s.size), ((s.data.toList.drop k).getD 0 0) = s[k] := fun h => drop_get s k 0 h
  have ed : ∀ j, (s.data.toList.drop k).drop j = s.data.toList.drop (k + j) := fun j => by rw [List.drop_drop]
  constructor
  · intro h hc
    have hl := hne h
    cases e : s.data.toList.drop k with
    | nil => exact absurd e hl
    | cons b t =>
      have hb : b = s[k] := by rw [← e0 h, e]; rfl
      rw [e, validD_cons b t (by rw [hb]; exact hc)] at hA
      rw [← ed 1, e]
      exact hA
  · intro h hc
    rw [← hA]
    exact lead_bad _ (hne h) _ (by rw [e0 h]) hc
  · intro h h1 h2 hs
    rw [← hA, lead2 _ (hne h) _ (by rw [e0 h]) ⟨h1, h2⟩, if_pos (.inl (by rw [hlen]; omega))]
  · intro h hk h1 h2 hb
    rw [← hA, lead2 _ (hne h) _ (by rw [e0 h]) ⟨h1, h2⟩, drop_get s k 1 hk, if_pos (.inr hb)]
  · intro h hk h1 h2 hb
    rw [lead2 _ (hne h) _ (by rw [e0 h]) ⟨h1, h2⟩, hlen, drop_get s k 1 hk, ed, if_neg (by omega)] at hA
    exact hA
  · intro h h1 h2 hs
    rw [← hA, lead3 _ (hne h) _ (by rw [e0 h]) ⟨h1, h2⟩, if_pos (.inl (by rw [hlen]; omega))]
  · intro h hk1 hk2 h1 h2 hb
    rw [← hA, lead3 _ (hne h) _ (by rw [e0 h]) ⟨h1, h2⟩, drop_get s k 1 hk1, drop_get s k 2 hk2, if_pos]
    right
    rcases Decidable.em (s[k].toNat = 224) with g1 | g1
    · rw [if_pos g1, if_neg (by omega)]; omega
    · rw [if_neg g1]
      rcases Decidable.em (s[k].toNat = 237) with g2 | g2
      · rw [if_pos g2]; omega
      · rw [if_neg g2]; omega
  · intro h hk1 hk2 h1 h2 hb
    rw [lead3 _ (hne h) _ (by rw [e0 h]) ⟨h1, h2⟩, hlen, drop_get s k 1 hk1, drop_get s k 2 hk2, ed, if_neg] at hA
    · exact hA
    · rcases Decidable.em (s[k].toNat = 224) with g1 | g1
      · rw [if_pos g1, if_neg (by omega)]; omega
      · rw [if_neg g1]
        rcases Decidable.em (s[k].toNat = 237) with g2 | g2
        · rw [if_pos g2]; omega
        · rw [if_neg g2]; omega
  · intro h h1 h2 hs
    rw [← hA, lead4 _ (hne h) _ (by rw [e0 h]) ⟨h1, h2⟩, if_pos (.inl (by rw [hlen]; omega))]
  · intro h hk1 hk2 hk3 h1 h2 hb
    rw [← hA, lead4 _ (hne h) _ (by rw [e0 h]) ⟨h1, h2⟩, drop_get s k 1 hk1, drop_get s k 2 hk2, drop_get s k 3 hk3, if_pos]
    right
    rcases Decidable.em (s[k].toNat = 240) with g1 | g1
    · rw [if_pos g1, if_neg (by omega)]; omega
    · rw [if_neg g1]
      rcases Decidable.em (s[k].toNat = 244) with g2 | g2
      · rw [if_pos g2]; omega
      · rw [if_neg g2]; omega
  · intro h hk1 hk2 hk3 h1 h2 hb
    rw [lead4 _ (hne h) _ (by rw [e0 h]) ⟨h1, h2⟩, hlen, drop_get s k 1 hk1, drop_get s k 2 hk2, drop_get s k 3 hk3, ed, if_neg] at hA
    · exact hA
    · rcases Decidable.em (s[k].toNat = 240) with g1 | g1
      · rw [if_pos g1, if_neg (by omega)]; omega
      · rw [if_neg g1]
        rcases Decidable.em (s[k].toNat = 244) with g2 | g2
        · rw [if_pos g2]; omega
        · rw [if_neg g2]; omega
end Go.Proofs.YtfjpdopmojfchaaGreatDoor
namespace Go.Proofs.YtfjpdopmojfchaaGreatDoor
open Go.RowKit
theorem take_snoc (s : ByteArray) (k : Nat) (h : k < s.size) : s.data.toList.take (k + 1) = s.data.toList.take k ++ [s[k]] := by
  rw [List.take_succ_eq_append_getElem (by simpa using h)]; rfl
theorem take_all (s : ByteArray) (k : Nat) (h : s.size ≤ k) : s.data.toList.take k = s.data.toList :=
  List.take_of_length_le (by simpa using h)
theorem get_mem (s : ByteArray) (k : Nat) (h : k < s.size) : s[k] ∈ s.data.toList := by
  have : s[k] = s.data.toList[k]'(by simpa using h) := rfl
  rw [this]
  exact List.getElem_mem _
theorem allD_no (s : ByteArray) (k : Nat) (h : k < s.size) (hd : dig s[k] = false) : allD s.data.toList = false := by
  unfold allD
  rw [List.all_eq_false]
  exact ⟨s[k], get_mem s k h, by simp [hd]⟩
theorem ret_bool {a b : Bool} (h : a = b) : Ending.returned (.bool a) = .returned (.bool b) := by rw [h]
set_option maxHeartbeats 400000 in
theorem allDigits_any (s : ByteArray) (w : World) (hs : s.size ≤ 9223372036854775807) :
    Calls Tryz.prog 167 #[.string s] w fun e w' => e = .returned (.bool (allD s.data.toList)) ∧ w' = w := by
  go_enter Tryz.func167, Tryz.ntmps167
  go_wp2
  go_loop [6] (fun i => ∃ k : Nat, k ≤ s.size ∧ i = .int .i64 k ∧ Hid (allD (s.data.toList.take k) = true)) (fun i => s.size - (intOf i).toNat)
  case atStart => exact ⟨0, Nat.zero_le _, rfl, rfl⟩
  case round =>
    obtain ⟨k, hk, rfl, ha⟩ := hrel
    by_cases hlt : k < s.size
    · by_cases hd : dig s[k] = true
      · have ha' : Hid (allD (s.data.toList.take (k + 1)) = true) := by
          show _ = _
          rw [take_snoc s k hlt]
          have := ha.out
          unfold allD at *
          rw [List.all_append, this]
          simp [hd]
        have b0 : 48 ≤ (s[k].toNat : Int) := by unfold dig at hd; simp at hd; omega
        have b1 : (s[k].toNat : Int) ≤ 57 := by unfold dig at hd; simp at hd; omega
        clear hd
        go_wp2
        go_round
        case rel => exact ⟨k + 1, by omega, by go_num, ha'⟩
        case measure => simp [intOf]; omega
      · have hN := hid (allD_no s k hlt (by simpa using hd))
        by_cases b0 : (s[k].toNat : Int) < 48
        · clear hd
          go_wp2
          go_ret
          exact ⟨ret_bool hN.out.symm, rfl⟩
        · have b1 : 57 < (s[k].toNat : Int) := by unfold dig at hd; simp at hd; omega
          clear hd
          go_wp2
          go_ret
          exact ⟨ret_bool hN.out.symm, rfl⟩
    · have hN : Hid (allD s.data.toList = true) := by show _ = _; have := ha.out; rw [take_all s k (by omega)] at this; exact this
      go_wp2
      go_ret
      exact ⟨ret_bool hN.out.symm, rfl⟩
theorem val_snoc (l : List UInt8) (c : UInt8) : val (l ++ [c]) = val l * 10 + (c.toNat - 48) := by unfold val; rw [List.foldl_append]; rfl
theorem foldl_ge : ∀ (m : List UInt8) (n : Nat), n ≤ m.foldl (fun n c => n * 10 + (c.toNat - 48)) n
  | [], n => Nat.le_refl _
  | c :: m, n => by
    have := foldl_ge m (n * 10 + (c.toNat - 48))
    rw [List.foldl_cons]
    omega
theorem val_ge (l m : List UInt8) : val l ≤ val (l ++ m) := by unfold val; rw [List.foldl_append]; exact foldl_ge m _
def RdPost (V : Nat) (e : Ending) : Prop := ∃ (n : Int) (ok : Bool), e = .returned (.tuple #[.int .u64 n, .bool ok]) ∧ 0 ≤ n ∧ n < 18446744073709551616 ∧
      (ok = true → n = (V : Int)) ∧ (ok = false → 9223372036854775810 ≤ V)
set_option maxHeartbeats 400000 in
theorem readDigits_any (s : ByteArray) (w : World) (hs : s.size ≤ 9223372036854775807) (hd : allD s.data.toList = true) :
    Calls Tryz.prog 154 #[.string s] w fun e w' => RdPost (val s.data.toList) e ∧ w' = w := by
  have HD := hid hd
  clear hd
  go_enter Tryz.func154, Tryz.ntmps154
  go_wp2
  go_loop [4, 8] (fun a i => ∃ (k : Nat) (n : Int), k ≤ s.size ∧ i = .int .i64 k ∧ a = .int .u64 n ∧ 0 ≤ n ∧ n ≤ 9223372036854775809 ∧ Hid (n = (val (s.data.toList.take k) : Int))) (fun _ i => s.size - (intOf i).toNat)
  case atStart => exact ⟨0, 0, Nat.zero_le _, rfl, rfl, by omega, by omega, rfl⟩
  case round =>
    obtain ⟨k, n, hk, rfl, rfl, n0, n1, hn⟩ := hrel
    by_cases hlt : k < s.size
    · have hdk : dig s[k] = true := by
        have := HD.out
        unfold allD at this
        rw [List.all_eq_true] at this
        exact this _ (get_mem s k hlt)
      have b0 : 48 ≤ (s[k].toNat : Int) := by unfold dig at hdk; simp at hdk; omega
      have b1 : (s[k].toNat : Int) ≤ 57 := by unfold dig at hdk; simp at hdk; omega
      have hv : Hid ((val (s.data.toList.take (k + 1)) : Int) = n * 10 + ((s[k].toNat : Int) - 48)) := by
        show _ = _
        rw [take_snoc s k hlt, val_snoc, hn.out]
        omega
      clear hdk
      by_cases hb : 922337203685477580 < n
      · have hN : Hid (9223372036854775810 ≤ val s.data.toList) := by
          show _ ≤ _
          have h1 := val_ge (s.data.toList.take (k + 1)) (s.data.toList.drop (k + 1))
          rw [List.take_append_drop] at h1
          have h2 := hv.out
          omega
        go_wp2
        go_ret2
        exact ⟨⟨0, false, rfl, by omega, by omega, by simp, fun _ => hN.out⟩, rfl⟩
      · go_wp2
        go_round
        case rel => exact ⟨k + 1, n * 10 + ((s[k].toNat : Int) - 48), by omega, by go_num, rfl, by omega, by omega, hv.out.symm⟩
        case measure => simp [intOf]; omega
    · have hN : Hid (n = (val s.data.toList : Int)) := by show _ = _; have := hn.out; rw [take_all s k (by omega)] at this; exact this
      go_wp2
      go_ret2
      exact ⟨⟨n, true, rfl, n0, by omega, fun _ => hN.out, by simp⟩, rfl⟩
end Go.Proofs.YtfjpdopmojfchaaGreatDoor
namespace Go.Proofs
open Go.Shelf
def Tryz.lays25_ren : Go.Shelf.Ren := ⟨fun | 25 => 136 | n => n, fun | 22 => 109 | n => n, fun | n => n⟩
theorem Tryz.lays25 : Go.Proofs.Lays7.n25 Tryz.prog Tryz.lays25_ren := {
  mixed := by kernel_rfl
  f25 := Tryz.func136.trans (congrArg some (by kernel_rfl))
  t22 := Tryz.underlying109
  a22 := Tryz.isAgg109
  z22 := Tryz.sizeOf109
  v22 := Tryz.zeroValue109
  i22 := by kernel_rfl }
end Go.Proofs
namespace Go.Proofs.YtfjpdopmojfchaaGreatDoor
open Go.RowKit Go.Shelf
theorem ret_two {k : IntKind} {a b : Int} {c d : Bool} (h : a = b) (g : c = d) : Ending.returned (.tuple #[.int k a, .bool c]) = .returned (.tuple #[.int k b, .bool d]) := by rw [h, g]
theorem add64 (x y : Int) (hx : 0 ≤ x) (hy : 0 ≤ y) (w : World) : (callFunc 136 #[.int .u64 x, .int .u64 y, .int .u64 0]).run Tryz.prog w =
    .ok (.value (.tuple #[.int .u64 ((x + y) % 18446744073709551616), .int .u64 ((x + y) / 18446744073709551616)])) w := by
  obtain ⟨x, rfl⟩ := Int.eq_ofNat_of_zero_le hx
  obtain ⟨y, rfl⟩ := Int.eq_ofNat_of_zero_le hy
  refine (Any7.bits_Add64 Tryz.lays25 x y 0 (by omega) w).trans ?_
  congr 5 <;> omega
set_option maxHeartbeats 400000 in
theorem sum_row (b off len cap : Nat) (zs : List Int) (w : World) (hl : zs.length = len) (hm : len ≤ 140737488355328) (hf : ∀ i, i < len → Fx (zs.getD i 0))
    (hc : ∀ i, i < len → w.cell? ⟨b, off + i, none⟩ = some (.int .i64 (zs.getD i 0))) :
    Calls Tryz.prog 106 #[.slice (some ⟨b, off, none⟩) len cap] w fun e w' => e = .returned (.tuple #[.int .i64 (keep zs.sum), .bool (fitB zs.sum)]) ∧ Q w w' := by
  have HC := hid hc
  have HF := hid hf
  have HL := hid hl
  clear hc hf hl
  go_enter Tryz.func106, Tryz.ntmps106
  go_wp2
  go_loop [4, 5, 12] (fun a b i => ∃ (k : Nat) (h l : Int), k ≤ len ∧ i = .int .i64 k ∧ a = .int .i64 h ∧ b = .int .u64 l ∧ 0 ≤ l ∧ l < 18446744073709551616 ∧ Hid (h * 18446744073709551616 + l = (zs.take k).sum) ∧ -(k : Int) ≤ h ∧ h ≤ k) (fun _ _ i => len - (intOf i).toNat)
  case atStart => exact ⟨0, 0, 0, Nat.zero_le _, rfl, rfl, rfl, by omega, by omega, by show _ = _; simp, by omega, by omega⟩
  case round =>
    obtain ⟨k, h, l, hk, rfl, rfl, rfl, l0, l1, hs, h0, h1⟩ := hrel
    by_cases hlt : k < len
    · have hcell := HC.out k hlt
      obtain ⟨z0, z1⟩ := HF.out k hlt
      have ht : Hid ((zs.take (k + 1)).sum = (zs.take k).sum + zs.getD k 0) := by
        show _ = _
        have hl := HL.out
        rw [List.take_succ_eq_append_getElem (by omega), List.sum_append]
        simp [List.getD_eq_getElem?_getD, List.getElem?_eq_getElem (show k < zs.length by omega)]
      generalize zs.getD k 0 = z at *
      obtain ⟨zu, hzu, z2, z3⟩ : ∃ zu : Int, zu = z % 18446744073709551616 ∧ 0 ≤ zu ∧ zu < 18446744073709551616 := ⟨_, rfl, by omega, by omega⟩
      have eZ : IntKind.u64.wrap z = zu := by rw [IntKind.wrap_u64, hzu]
      have HZ := hid hzu
      clear hzu
      have hadd := add64 l zu l0 z2
      obtain ⟨m, hm1, m0, m1⟩ : ∃ m : Int, m = (l + zu) % 18446744073709551616 ∧ 0 ≤ m ∧ m < 18446744073709551616 := ⟨_, rfl, by omega, by omega⟩
      obtain ⟨c, hc1, c0, c1⟩ : ∃ c : Int, c = (l + zu) / 18446744073709551616 ∧ 0 ≤ c ∧ c ≤ 1 := ⟨_, rfl, by omega, by omega⟩
      rw [← hm1, ← hc1] at hadd
      have HM := hid hm1
      have HC1 := hid hc1
      clear hm1 hc1
      by_cases hz : z < 0
      · have HE : Hid ((h + (-1 + c)) * 18446744073709551616 + m = (zs.take (k + 1)).sum) := by
          show _ = _
          have a1 := HZ.out; have a2 := HM.out; have a3 := HC1.out; have a4 := hs.out; have a5 := ht.out
          rw [a5, ← a4]
          omega
        go_wp2
        go_round
        case rel => exact ⟨k + 1, h + (-1 + c), m, by omega, by go_num, rfl, rfl, m0, m1, HE, by omega, by omega⟩
        case measure => simp [intOf]; omega
      · have HE : Hid ((h + c) * 18446744073709551616 + m = (zs.take (k + 1)).sum) := by
          show _ = _
          have a1 := HZ.out; have a2 := HM.out; have a3 := HC1.out; have a4 := hs.out; have a5 := ht.out
          rw [a5, ← a4]
          omega
        go_wp2
        go_round
        case rel => exact ⟨k + 1, h + c, m, by omega, by go_num, by go_num, rfl, m0, m1, HE, by omega, by omega⟩
        case measure => simp [intOf]; omega
    · have hke : k = len := by omega
      have hS : Hid (h * 18446744073709551616 + l = zs.sum) := by
        show _ = _
        have a := hs.out
        rw [List.take_of_length_le (by have := HL.out; omega)] at a
        exact a
      clear hke
      by_cases hl : l < 9223372036854775808
      · by_cases hh : h = 0
        · have hf : fitB zs.sum = true := fitB_yes (by have := hS.out; omega) (by have := hS.out; omega)
          have hK : Hid (l = keep zs.sum) := by show _ = _; rw [keep_yes hf]; have := hS.out; omega
          have hF := hid hf
          subst hh
          clear hf
          go_wp2
          go_ret2
          exact ⟨ret_two hK.out hF.out.symm, Q.refl _⟩
        · have hf : fitB zs.sum = false := fitB_no (by have := hS.out; omega)
          have hK : Hid (0 = keep zs.sum) := by show _ = _; rw [keep_no hf]
          have hF := hid hf
          have h2 : (h != 0) = true := by simp [hh]
          clear hf hh
          go_wp2
          go_ret2
          exact ⟨ret_two hK.out hF.out.symm, Q.refl _⟩
      · have eL : wrap64 l = l - 18446744073709551616 := by unfold wrap64; omega
        by_cases hh : h = -1
        · have hf : fitB zs.sum = true := fitB_yes (by have := hS.out; omega) (by have := hS.out; omega)
          have hK : Hid (l - 18446744073709551616 = keep zs.sum) := by show _ = _; rw [keep_yes hf]; have := hS.out; omega
          have hF := hid hf
          have hE := hid eL
          have hn : wrap64 l < 0 := by omega
          clear eL
          subst hh
          clear hf
          go_wp2
          go_ret2
          exact ⟨ret_two (hE.out.trans hK.out) hF.out.symm, Q.refl _⟩
        · have hf : fitB zs.sum = false := fitB_no (by have := hS.out; omega)
          have hK : Hid (0 = keep zs.sum) := by show _ = _; rw [keep_no hf]
          have hF := hid hf
          have hn : wrap64 l < 0 := by omega
          have h2 : (h != -1) = true := by simp [hh]
          clear hf hh eL
          go_wp2
          go_ret2
          exact ⟨ret_two hK.out hF.out.symm, Q.refl _⟩
end Go.Proofs.YtfjpdopmojfchaaGreatDoor
namespace Go.Proofs.YtfjpdopmojfchaaGreatDoor
theorem digit_lt_B {B y u d : Nat} (hu : u < y) (hd : d < B) : (u * B + d) / y < B := by
  apply Nat.div_lt_of_lt_mul
  have : (u + 1) * B ≤ y * B := Nat.mul_le_mul_right _ hu
  rw [Nat.add_mul] at this
  omega
theorem digit_guess {B y1 y0 u d : Nat} (h1 : 0 < y1) (hd : d < B) : (u * B + d) / (y1 * B + y0) ≤ u / y1 := by
  rw [Nat.le_div_iff_mul_le h1]
  have hq : (u * B + d) / (y1 * B + y0) * (y1 * B + y0) ≤ u * B + d := Nat.div_mul_le_self _ _
  generalize (u * B + d) / (y1 * B + y0) = q at *
  have h3 : q * y1 * B ≤ q * (y1 * B + y0) := by rw [Nat.mul_add, Nat.mul_assoc]; omega
  have h4 : q * y1 * B < (u + 1) * B := by rw [Nat.add_mul]; omega
  have := Nat.lt_of_mul_lt_mul_right h4
  omega
theorem guess_le {B y1 y0 u : Nat} (h0 : y0 < 2 * y1) (hu : u < y1 * B + y0) : u / y1 ≤ B + 1 := by
  have : u / y1 < B + 2 := by
    apply Nat.div_lt_of_lt_mul
    rw [Nat.mul_add]
    omega
  omega
theorem div_two {B y u d0 d1 : Nat} (hy : 0 < y) :
    (u * (B * B) + (d1 * B + d0)) / y = (u * B + d1) / y * B + ((u * B + d1) % y * B + d0) / y ∧
    (u * (B * B) + (d1 * B + d0)) % y = ((u * B + d1) % y * B + d0) % y := by
  have h := Nat.div_add_mod (u * B + d1) y
  generalize hq : (u * B + d1) / y = q at *
  generalize hr : (u * B + d1) % y = r at *
  have e : u * (B * B) + (d1 * B + d0) = (r * B + d0) + y * (q * B) := by
    have : (u * B + d1) * B = (y * q + r) * B := by rw [h]
    rw [Nat.add_mul, Nat.add_mul, Nat.mul_assoc, Nat.mul_assoc] at this
    omega
  rw [e]
  constructor
  · rw [Nat.add_mul_div_left _ _ hy]; omega
  · rw [Nat.add_mul_mod_self_left]
theorem norm_facts (hi lo y s : Nat) (h : hi < y) (hl : lo < 18446744073709551616) (hs : s < 64) :
    hi * 2 ^ s + lo / 2 ^ (64 - s) < y * 2 ^ s ∧ (hi * 2 ^ s + lo / 2 ^ (64 - s)) * 18446744073709551616 + lo * 2 ^ s % 18446744073709551616 = (hi * 18446744073709551616 + lo) * 2 ^ s := by
  have e : (18446744073709551616 : Nat) = 2 ^ (64 - s) * 2 ^ s := by rw [← Nat.pow_add, Nat.sub_add_cancel (by omega)]
  have hp : 0 < 2 ^ s := Nat.two_pow_pos s
  have d : lo * 2 ^ s / 18446744073709551616 = lo / 2 ^ (64 - s) := by
    rw [e, Nat.mul_div_mul_right _ _ hp]
  have m := Nat.div_add_mod (lo * 2 ^ s) 18446744073709551616
  rw [d] at m
  have f : (hi * 2 ^ s + lo / 2 ^ (64 - s)) * 18446744073709551616 + lo * 2 ^ s % 18446744073709551616 = (hi * 18446744073709551616 + lo) * 2 ^ s := by
    rw [Nat.add_mul, Nat.add_mul, Nat.mul_right_comm hi 18446744073709551616 (2 ^ s)]
    omega
  refine ⟨?_, f⟩
  have g : (hi * 18446744073709551616 + lo) * 2 ^ s < y * 18446744073709551616 * 2 ^ s := Nat.mul_lt_mul_of_pos_right (by omega) hp
  rw [Nat.mul_right_comm] at g
  omega
theorem rest_shift (n y k : Nat) (hk : 0 < k) : (n * k) % (y * k) / k = n % y := by
  rw [Nat.mul_mod_mul_right, Nat.mul_div_cancel _ hk]
theorem or_sum (a b s : Nat) (hb : b < 2 ^ s) : (a * 2 ^ s) ||| b = a * 2 ^ s + b := by
  rw [Nat.mul_comm]; exact (Nat.two_pow_add_eq_or_of_lt hb a).symm
end Go.Proofs.YtfjpdopmojfchaaGreatDoor
namespace Go.Proofs.YtfjpdopmojfchaaGreatDoor
open Go.RowKit
structure Dig (u d Y Y1 Y0 Q : Int) : Prop where
  ey : Y1 * 4294967296 + Y0 = Y
  y1a : 2147483648 ≤ Y1
  y1b : Y1 < 4294967296
  y0a : 0 ≤ Y0
  y0b : Y0 < 4294967296
  ua : 0 ≤ u
  ub : u < Y
  da : 0 ≤ d
  db : d < 4294967296
  eq : Q = (u * 4294967296 + d) / Y
theorem Dig.start {u d Y Y1 Y0 Q : Int} (h : Dig u d Y Y1 Y0 Q) : Q ≤ u / Y1 ∧ 0 ≤ u / Y1 ∧ u / Y1 ≤ 4294967297 ∧ 0 ≤ u % Y1 ∧ u % Y1 < 4294967296 ∧ u / Y1 * Y1 + u % Y1 = u ∧ 0 ≤ Q ∧ Q < 4294967296 := by
  obtain ⟨rfl, h1, h2, h3, h4, h5, h6, h7, h8, rfl⟩ := h
  obtain ⟨u, rfl⟩ := Int.eq_ofNat_of_zero_le h5
  obtain ⟨d, rfl⟩ := Int.eq_ofNat_of_zero_le h7
  obtain ⟨y1, rfl⟩ := Int.eq_ofNat_of_zero_le (show 0 ≤ Y1 by omega)
  obtain ⟨y0, rfl⟩ := Int.eq_ofNat_of_zero_le h3
  have a := digit_guess (B := 4294967296) (y1 := y1) (y0 := y0) (u := u) (d := d) (by omega) (by omega)
  have b := guess_le (B := 4294967296) (y1 := y1) (y0 := y0) (u := u) (by omega) (by omega)
  have c := digit_lt_B (B := 4294967296) (y := y1 * 4294967296 + y0) (u := u) (d := d) (by omega) (by omega)
  have e := Nat.div_add_mod u y1
  have f : u % y1 < y1 := Nat.mod_lt _ (by omega)
  have g : ((u * 4294967296 + d : Nat) : Int) / ((y1 * 4294967296 + y0 : Nat) : Int) = ((u * 4294967296 + d) / (y1 * 4294967296 + y0) : Nat) := rfl
  have g' : ((u : Int) * 4294967296 + d) / ((y1 : Int) * 4294967296 + y0) = ((u * 4294967296 + d) / (y1 * 4294967296 + y0) : Nat) := g
  rw [g']
  have k1 : (u : Int) / (y1 : Int) = ((u / y1 : Nat) : Int) := rfl
  have k2 : (u : Int) % (y1 : Int) = ((u % y1 : Nat) : Int) := rfl
  rw [k1, k2]
  generalize (u * 4294967296 + d) / (y1 * 4294967296 + y0) = q at *
  rw [Nat.mul_comm] at e
  have e' : ((u / y1 : Nat) : Int) * (y1 : Int) = ((u / y1 * y1 : Nat) : Int) := rfl
  rw [e']
  generalize u / y1 * y1 = p at *
  generalize u / y1 = qq at *
  generalize u % y1 = rr at *
  omega
theorem Dig.gt {u d Y Y1 Y0 Q q r : Int} (h : Dig u d Y Y1 Y0 Q) (hu : q * Y1 + r = u) (ht : 4294967296 * r + d < q * Y0) : Q < q := by
  obtain ⟨rfl, h1, h2, h3, h4, h5, h6, h7, h8, rfl⟩ := h
  have e : q * (Y1 * 4294967296 + Y0) = q * Y1 * 4294967296 + q * Y0 := by rw [Int.mul_add, Int.mul_assoc]
  refine Int.ediv_lt_of_lt_mul (by omega) ?_
  rw [e]
  generalize q * Y1 = p at *
  generalize q * Y0 = t at *
  omega
theorem Dig.le {u d Y Y1 Y0 Q q r : Int} (h : Dig u d Y Y1 Y0 Q) (hu : q * Y1 + r = u) (ht : q * Y0 ≤ 4294967296 * r + d) : q ≤ Q := by
  obtain ⟨rfl, h1, h2, h3, h4, h5, h6, h7, h8, rfl⟩ := h
  have e : q * (Y1 * 4294967296 + Y0) = q * Y1 * 4294967296 + q * Y0 := by rw [Int.mul_add, Int.mul_assoc]
  refine Int.le_ediv_of_mul_le (by omega) ?_
  rw [e]
  generalize q * Y1 = p at *
  generalize q * Y0 = t at *
  omega
theorem Dig.brk {u d Y Y1 Y0 Q q r : Int} (h : Dig u d Y Y1 Y0 Q) (hq' : q ≤ 4294967296) (hr : 4294967296 ≤ r) (hu : q * Y1 + r = u) : q ≤ Q := by
  refine h.le hu ?_
  have h0 := h.y0a
  have h1 := h.y0b
  have h2 : q * Y0 ≤ 4294967296 * Y0 := Int.mul_le_mul_of_nonneg_right hq' h0
  have := h.da
  omega
theorem Dig.room {u d Y Y1 Y0 Q q : Int} (h : Dig u d Y Y1 Y0 Q) (hq : 0 ≤ q) (hq' : q ≤ 4294967297) : 0 ≤ q * Y0 ∧ q * Y0 < 18446744073709551616 := by
  have h0 := h.y0a
  have h1 := h.y0b
  refine ⟨Int.mul_nonneg hq h0, ?_⟩
  have h2 : q * Y0 ≤ 4294967297 * Y0 := Int.mul_le_mul_of_nonneg_right hq' h0
  omega
theorem Dig.rest {u d Y Y1 Y0 Q : Int} (h : Dig u d Y Y1 Y0 Q) : u * 4294967296 + d = Q * Y + (u * 4294967296 + d) % Y ∧ 0 ≤ (u * 4294967296 + d) % Y ∧ (u * 4294967296 + d) % Y < Y := by
  have hY : 0 < Y := by have := h.ua; have := h.ub; omega
  have e := Int.mul_ediv_add_emod (u * 4294967296 + d) Y
  rw [← h.eq, Int.mul_comm] at e
  exact ⟨e.symm, Int.emod_nonneg _ (by omega), Int.emod_lt_of_pos _ hY⟩
end Go.Proofs.YtfjpdopmojfchaaGreatDoor
namespace Go.Proofs.YtfjpdopmojfchaaGreatDoor
def up (v : Nat → Value) (d : Nat) (x : Value) : Nat → Value := fun t => if t = d then x else v t
section
variable {P : Program} {ops : Array Oper} {Q : Exit → Act → World → Prop} {md : Region.Mode}
variable {a0 : Act} {ds : List Nat} {I : (Nat → Bool) → (Nat → Value) → World → Prop} {J : (Nat → Value) → World → Prop} {v : Nat → Value} {w w' w1 : World} {i : Nat} {o : Oper} {d : Nat} {u : Value}
end
end Go.Proofs.YtfjpdopmojfchaaGreatDoor
