/- Words of formulas, plainly. -/
import Derived.Test.YtkipbcimjmialaaDoorVV2
import Derived.Test.YtkipbcimjmialaaDoorF0
import Derived.Test.YtkipbcimjmialaaDoorVS
namespace Go.Proofs.YtkipbcimjmialaaDoor
open Go.RowKit
set_option linter.unusedVariables false
set_option linter.unusedSimpArgs false


/-- a byte of a word of letters and digits -/
def joinB (c : UInt8) : Bool :=
  decide (65 ≤ c.toNat ∧ c.toNat ≤ 90) || (decide (97 ≤ c.toNat ∧ c.toNat ≤ 122) || (decide (48 ≤ c.toNat ∧ c.toNat ≤ 57) || (c == 36 || (c == 33 || c == 46))))
def tru : List UInt8 := [84, 82, 85, 69]
def fls : List UInt8 := [70, 65, 76, 83, 69]
/-- of which kind a run of such bytes is; 0: it is wrong -/
def kindJ (t : List UInt8) (called : Bool) : Nat :=
  if V.pf (V.parseO t) then 1 else if refF t then 3 else if t = tru ∨ t = fls ∨ (called = true ∧ allL t = true) then 4 else 0
/-- kind, text and length of a word; no length: it is wrong -/
def bad : Nat × List UInt8 × Nat := (0, [], 0)
def joinW (l : List UInt8) : Nat × List UInt8 × Nat :=
  if kindJ (l.takeWhile joinB) (Lib.hasPrefix (l.dropWhile joinB) [40]) = 0 then bad
  else (kindJ (l.takeWhile joinB) (Lib.hasPrefix (l.dropWhile joinB) [40]), l.takeWhile joinB, (l.takeWhile joinB).length)
/-- what stands behind a quote: what it means, and where it ends -/
def quoF : List UInt8 → List UInt8 → Nat → Option (List UInt8 × Nat)
  | [], _, _ => none
  | [c], acc, n => if c = 34 then some (acc, n + 1) else none
  | c :: d :: r, acc, n => if c = 34 then (if d = 34 then quoF r (acc ++ [34]) (n + 2) else some (acc, n + 1)) else quoF (d :: r) (acc ++ [c]) (n + 1)
def quoP : Option (List UInt8 × Nat) → Nat × List UInt8 × Nat
  | none => bad
  | some (t, n) => if V.mtB t then (2, t, n) else bad
def quoW (l : List UInt8) : Nat × List UInt8 × Nat := quoP (quoF (l.drop 1) [] 1)
def errP : Option Int → Nat × List UInt8 × Nat
  | none => bad
  | some e => (5, enL e, (enL e).length)
def errF (l : List UInt8) : Option Int := [1, 2, 3, 4, 5, 6, 7].find? (fun e => Lib.hasPrefix l (enL e))
def errW (l : List UInt8) : Nat × List UInt8 × Nat := errP (errF l)
def sigP : Option (List UInt8) → Nat × List UInt8 × Nat
  | none => bad
  | some t => (6, t, t.length)
def sigF (l : List UInt8) : Option (List UInt8) := sgL.find? (fun t => Lib.hasPrefix l t)
def sigW (l : List UInt8) : Nat × List UInt8 × Nat := sigP (sigF l)
/-- the word that a text begins with -/
def wordF (l : List UInt8) : Nat × List UInt8 × Nat :=
  if l.headD 0 = 34 then quoW l else if l.headD 0 = 35 then errW l else if joinB (l.headD 0) then joinW l else sigW l
structure Wd where
  k : Nat
  t : List UInt8
  p : Nat
def scanG : Nat → List UInt8 → Nat → List Wd → Option (List Wd) × Nat
  | 0, _, _, acc => (some acc, 0)
  | _ + 1, [], _, acc => (some acc, 0)
  | f + 1, c :: r, at', acc =>
    if c = 32 then scanG f r (at' + 1) acc
    else if (wordF (c :: r)).2.2 = 0 then (none, at')
    else scanG f ((c :: r).drop (wordF (c :: r)).2.2) (at' + (wordF (c :: r)).2.2) (acc ++ [⟨(wordF (c :: r)).1, (wordF (c :: r)).2.1, at'⟩])
theorem scanG_fuel : ∀ (f g : Nat) (l : List UInt8) (a : Nat) (acc : List Wd), l.length ≤ f → l.length ≤ g → scanG f l a acc = scanG g l a acc := by
  intro f
  induction f with
  | zero =>
    intro g l a acc h _
    have e : l = [] := List.eq_nil_of_length_eq_zero (by omega)
    subst e
    cases g <;> rfl
  | succ f ih =>
    intro g l a acc h h'
    cases l with
    | nil => cases g <;> rfl
    | cons c r =>
      cases g with
      | zero => simp at h'
      | succ g =>
        simp only [List.length_cons] at h h'
        unfold scanG
        split
        · exact ih g r _ _ (by omega) (by omega)
        · split
          · rfl
          · rename_i hn
            exact ih g _ _ _ (by rw [List.length_drop, List.length_cons]; omega) (by rw [List.length_drop, List.length_cons]; omega)
/-- the words from a place on, behind those that were found ahead of it; or the place of the one that is wrong -/
def scanF (l : List UInt8) (a : Nat) (acc : List Wd) : Option (List Wd) × Nat := scanG l.length l a acc
theorem scanF_nil (a : Nat) (acc : List Wd) : scanF [] a acc = (some acc, 0) := rfl
theorem scanF_blank (r : List UInt8) (a : Nat) (acc : List Wd) : scanF (32 :: r) a acc = scanF r (a + 1) acc := by
  unfold scanF
  rw [List.length_cons, scanG]
  exact if_pos rfl
theorem scanF_bad {l : List UInt8} (a : Nat) (acc : List Wd) (h0 : l ≠ []) (h1 : l.headD 0 ≠ 32) (h : (wordF l).2.2 = 0) : scanF l a acc = (none, a) := by
  unfold scanF
  cases l with
  | nil => exact absurd rfl h0
  | cons c r =>
    simp only [List.headD_cons] at h1
    rw [List.length_cons, scanG, if_neg h1, if_pos h]
theorem scanF_word {l : List UInt8} (a : Nat) (acc : List Wd) (h0 : l ≠ []) (h1 : l.headD 0 ≠ 32) (h : (wordF l).2.2 ≠ 0) : scanF l a acc = scanF (l.drop (wordF l).2.2) (a + (wordF l).2.2) (acc ++ [⟨(wordF l).1, (wordF l).2.1, a⟩]) := by
  unfold scanF
  cases l with
  | nil => exact absurd rfl h0
  | cons c r =>
    simp only [List.headD_cons] at h1
    rw [List.length_cons, scanG, if_neg h1, if_neg h]
    refine scanG_fuel _ _ _ _ _ ?_ (Nat.le_refl _)
    rw [List.length_drop, List.length_cons]
    omega
/-- how many blanks stand at a text's head -/
def blk (l : List UInt8) : Nat := (l.takeWhile (· == 32)).length
theorem blk_le (l : List UInt8) : blk l ≤ l.length := by
  unfold blk
  exact (List.takeWhile_prefix _).length_le
theorem blk_zero {l : List UInt8} (h : l.headD 0 ≠ 32) : blk l = 0 := by
  unfold blk
  cases l with
  | nil => rfl
  | cons c r =>
    simp only [List.headD_cons] at h
    rw [List.takeWhile_cons, if_neg (by simpa using h)]
    rfl
theorem blk_succ (r : List UInt8) : blk (32 :: r) = blk r + 1 := by
  unfold blk
  rw [List.takeWhile_cons, if_pos (by rfl), List.length_cons]
theorem scanF_blk (l : List UInt8) (a : Nat) (acc : List Wd) : scanF l a acc = scanF (l.drop (blk l)) (a + blk l) acc := by
  induction l generalizing a with
  | nil => rfl
  | cons c r ih =>
    by_cases h : c = 32
    · subst h
      rw [scanF_blank, blk_succ, ih, List.drop_succ_cons, show a + 1 + blk r = a + (blk r + 1) by omega]
    · rw [blk_zero (by simpa using h)]
      rfl
theorem head_blk (l : List UInt8) (h : blk l < l.length) : (l.drop (blk l)).headD 0 ≠ 32 := by
  induction l with
  | nil => simp at h
  | cons c r ih =>
    by_cases hc : c = 32
    · subst hc
      rw [blk_succ] at h ⊢
      rw [List.drop_succ_cons]
      exact ih (by simpa using h)
    · rw [blk_zero (by simpa using hc)]
      simpa using hc
theorem quoF_not {c : UInt8} {r acc : List UInt8} {n : Nat} (h : c ≠ 34) : quoF (c :: r) acc n = quoF r (acc ++ [c]) (n + 1) := by
  cases r with
  | nil => simp [quoF, h]
  | cons d r => simp [quoF, h]
theorem quoF_two {r acc : List UInt8} {n : Nat} : quoF (34 :: 34 :: r) acc n = quoF r (acc ++ [34]) (n + 2) := by simp [quoF]
theorem quoF_end {r acc : List UInt8} {n : Nat} (h : Lib.hasPrefix r [34] = false) : quoF (34 :: r) acc n = some (acc, n + 1) := by
  cases r with
  | nil => simp [quoF]
  | cons d r =>
    have hd : d ≠ 34 := fun e => by subst e; simp [Lib.hasPrefix] at h
    simp [quoF, hd]
theorem two_of {r : List UInt8} (h : Lib.hasPrefix r [34] = true) : ∃ r', r = 34 :: r' := by
  cases r with
  | nil => simp [Lib.hasPrefix] at h
  | cons d r =>
    refine ⟨r, ?_⟩
    simp [Lib.hasPrefix] at h
    rw [← h]
end Go.Proofs.YtkipbcimjmialaaDoor
