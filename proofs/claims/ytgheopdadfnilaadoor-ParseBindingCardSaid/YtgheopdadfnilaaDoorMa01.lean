/- Trees and readers of words, plainly: the reference's and the program's. Words of formulas, plainly. Words in slices. More fuel changes nothing; readers go on. The reference comes to an end. The program reads what the reference reads. Trees, plainly, and as the world holds them. counterpaneref5.Depth, count, walked. counterpaneref5.count, walked. counterpaneref5.EqExpr, walked: trees whose heads are not the same. -/
import Derived.Lib.Strings
import Derived.Test.YtgheopdadfnilaaDoorMa00
import Derived.Laws.AppendOwn
import Derived.Laws.AppendOwnNone
import Derived.Laws.OwnMore
import Derived.OneCell
import Derived.BigQuiet
namespace Go.Proofs.YtgheopdadfnilaaDoor
set_option linter.unusedVariables false
set_option linter.unusedSimpArgs false

abbrev Rf := List UInt8 × Int × Int × Bool × Bool
/-- a tree -/
structure Ex where
  mk ::
  (k n : Int) (t : List UInt8) (b : Bool) (e : Int) (rs : List Rf) (ks : List Ex)
/-- the zero tree -/
def zeroE : Ex := .mk 0 0 [] false 0 [] []
/-- a word -/
structure Wd where
  k : Nat
  t : List UInt8
  p : Nat
/-- how an operator binds; 0: none -/
def lvl (t : List UInt8) : Nat :=
  if t = [61] then 1 else if t = [60, 62] then 1 else if t = [60] then 1 else if t = [60, 61] then 1 else if t = [62] then 1 else if t = [62, 61] then 1 else if t = [38] then 2 else if t = [43] then 3 else if t = [45] then 3 else if t = [42] then 4 else if t = [47] then 4 else 0
theorem lvl_le (t : List UInt8) : lvl t ≤ 4 := by
  unfold lvl
  repeat' split
  all_goals omega
/-- does this sign stand here? -/
def isW (L : List Wd) (i : Nat) (s : List UInt8) : Bool := match L[i]? with
  | some x => decide (x.k = 6 ∧ x.t = s)
  | none => false
theorem isW_at {L : List Wd} {i : Nat} {s : List UInt8} (h : i < L.length) : isW L i s = decide (L[i].k = 6 ∧ L[i].t = s) := by
  unfold isW
  rw [List.getElem?_eq_getElem h]
/-- what is read of a word's text: a number, a reference (and whether it is one), an error (0: none) -/
structure Env where
  num : List UInt8 → Int
  nok : List UInt8 → Bool
  ref : List UInt8 → Rf
  rok : List UInt8 → Bool
  err : List UInt8 → Nat
  nam : List UInt8 → Bool
/-- place, whether it is wrong, nodes -/
structure St where
  i : Nat
  bd : Bool
  n : Nat
def kAt (L : List Wd) (i : Nat) : Nat := (L.getD i ⟨7, [], 0⟩).k
def tAt (L : List Wd) (i : Nat) : List UInt8 := (L.getD i ⟨7, [], 0⟩).t
theorem kAt_get {L : List Wd} {i : Nat} (h : i < L.length) : kAt L i = L[i].k ∧ tAt L i = L[i].t := by
  unfold kAt tAt
  rw [List.getD_eq_getElem?_getD, List.getElem?_eq_getElem h]
  exact ⟨rfl, rfl⟩
theorem isW_six {L : List Wd} {i : Nat} {s : List UInt8} (h : isW L i s = true) : i < L.length ∧ kAt L i = 6 ∧ tAt L i = s := by
  unfold isW at h
  cases hg : L[i]? with
  | none => rw [hg] at h; cases h
  | some x =>
    rw [hg] at h
    have hi := (List.getElem?_eq_some_iff.1 hg).1
    simp only [decide_eq_true_eq] at h
    unfold kAt tAt
    rw [List.getD_eq_getElem?_getD, hg]
    exact ⟨hi, h.1, h.2⟩
def numE (n : Int) : Ex := .mk 1 n [] false 0 [] []
def textE (t : List UInt8) : Ex := .mk 2 0 t false 0 [] []
def boolE (b : Bool) : Ex := .mk 3 0 [] b 0 [] []
def errE (e : Nat) : Ex := .mk 4 0 [] false (e : Int) [] []
def refE (r : Rf) : Ex := .mk 5 0 [] false 0 [r] []
def rangeE (r q : Rf) : Ex := .mk 6 0 [] false 0 [r, q] []
def negE (x : Ex) : Ex := .mk 7 0 [] false 0 [] [x]
def binE (t : List UInt8) (x y : Ex) : Ex := .mk 8 0 t false 0 [] [x, y]
def callE (t : List UInt8) (ks : List Ex) : Ex := .mk 9 0 t false 0 [] ks
def St.on (s : St) : St := ⟨s.i + 1, s.bd, s.n⟩
def St.bad (s : St) : St := ⟨s.i, true, s.n⟩
def St.node (s : St) : St := ⟨s.i, s.bd, s.n + 1⟩
def truW : List UInt8 := [84, 82, 85, 69]
def flsW : List UInt8 := [70, 65, 76, 83, 69]
/-- how what stands here binds, of operators -/
def stg (L : List Wd) (i : Nat) : Nat := if kAt L i = 6 then lvl (tAt L i) else 0
/-- a bracketed tree's end -/
def closeS (L : List Wd) (s : St) : St := if s.bd then s else if isW L s.i [41] then s.on else s.bad
/-- first things of one word or a range, as the reference reads them -/
def oneF (E : Env) (L : List Wd) (s : St) : Ex × St :=
  if kAt L s.i = 1 then (numE (E.num (tAt L s.i)), s.on.node)
  else if kAt L s.i = 2 then (textE (tAt L s.i), s.on.node)
  else if kAt L s.i = 5 then (if E.err (tAt L s.i) = 0 then (zeroE, s.bad) else (errE (E.err (tAt L s.i)), s.on.node))
  else if kAt L s.i = 3 then
    (if isW L (s.i + 1) [58] then
      (if kAt L (s.i + 2) = 3 ∧ E.rok (tAt L (s.i + 2)) = true ∧ (E.ref (tAt L (s.i + 2))).1 = [] then (rangeE (E.ref (tAt L s.i)) (E.ref (tAt L (s.i + 2))), s.on.on.on.node) else (zeroE, s.on.on.bad))
     else (refE (E.ref (tAt L s.i)), s.on.node))
  else (zeroE, s.bad)
/-- one argument more -/
def argS (ks : List Ex) (s : St) : St := ⟨s.i, s.bd || decide (30 < ks.length + 1), s.n⟩
/-- what the reference reads; no answer: the fuel is too little. Operators that bind at least so. -/
def treeF (E : Env) (L : List Wd) : Nat → Nat → St → Option (Ex × St)
  | 0, _, _ => none
  | f + 1, lv, s =>
    if s.bd then some (zeroE, s) else if lv = 5 then aheadF E L f s
    else (treeF E L f (lv + 1) s).bind fun r => loopF E L f lv r.1 r.2
  where
  loopF (E : Env) (L : List Wd) : Nat → Nat → Ex → St → Option (Ex × St)
  | 0, _, _, _ => none
  | f + 1, lv, x, s =>
    if s.bd = false ∧ stg L s.i = lv then
      (treeF E L f (lv + 1) s.on).bind fun r => loopF E L f lv (binE (tAt L s.i) x r.1) r.2.node
    else some (x, s)
  aheadF (E : Env) (L : List Wd) : Nat → St → Option (Ex × St)
  | 0, _ => none
  | f + 1, s => if isW L s.i [45] then (treeF E L f 5 s.on).bind fun r => some (negE r.1, r.2.node) else firstF E L f s
  firstF (E : Env) (L : List Wd) : Nat → St → Option (Ex × St)
  | 0, _ => none
  | f + 1, s =>
    if isW L s.i [40] then (treeF E L f 1 s.on).bind fun r => some (r.1, closeS L r.2)
    else if kAt L s.i = 4 then
      (if tAt L s.i = truW ∨ tAt L s.i = flsW then some (boolE (decide (tAt L s.i = truW)), s.on.node)
       else if isW L (s.i + 1) [40] then (if 20 < (tAt L s.i).length then some (callE (tAt L s.i) [], s.on.on.bad) else argsF E L f (tAt L s.i) [] s.on.on)
       else some (callE (tAt L s.i) [], s.on.bad))
    else some (oneF E L s)
  argsF (E : Env) (L : List Wd) : Nat → List UInt8 → List Ex → St → Option (Ex × St)
  | 0, _, _, _ => none
  | f + 1, t, ks, s =>
    if s.bd then some (callE t ks, s.node) else if isW L s.i [41] then some (callE t ks, s.on.node)
    else if ks ≠ [] ∧ isW L s.i [44] = false then some (callE t ks, s.bad)
    else (treeF E L f 1 (if ks = [] then s else s.on)).bind fun r => argsF E L f t (ks ++ [r.1]) (argS ks r.2)
/-- first things of one word or a range, as the program reads them -/
def poneF (E : Env) (L : List Wd) (i : Nat) : Option (Ex × Nat) :=
  if kAt L i = 1 then (if E.nok (tAt L i) then some (numE (E.num (tAt L i)), i + 1) else none)
  else if kAt L i = 2 then some (textE (tAt L i), i + 1)
  else if kAt L i = 5 then some (errE (E.err (tAt L i)), i + 1)
  else if kAt L i = 3 then
    (if E.rok (tAt L i) = false then none
     else if isW L (i + 1) [58] then
      (if kAt L (i + 2) = 3 ∧ E.rok (tAt L (i + 2)) = true ∧ (E.ref (tAt L (i + 2))).1 = [] then some (rangeE (E.ref (tAt L i)) (E.ref (tAt L (i + 2))), i + 3) else none)
     else some (refE (E.ref (tAt L i)), i + 1))
  else none
/-- what the program reads; the outer none: the fuel is too little; the inner none: it is no formula. -/
def ptF (E : Env) (L : List Wd) : Nat → Nat → Nat → Option (Option (Ex × Nat))
  | 0, _, _ => none
  | f + 1, lv, i => (paF E L f i).bind fun o => match o with
    | none => some none
    | some r => plF E L f lv r.1 r.2
  where
  plF (E : Env) (L : List Wd) : Nat → Nat → Ex → Nat → Option (Option (Ex × Nat))
  | 0, _, _, _ => none
  | f + 1, lv, x, j =>
    if lv ≤ stg L j then (ptF E L f (stg L j + 1) (j + 1)).bind fun o => match o with
      | none => some none
      | some r => plF E L f lv (binE (tAt L j) x r.1) r.2
    else some (some (x, j))
  paF (E : Env) (L : List Wd) : Nat → Nat → Option (Option (Ex × Nat))
  | 0, _ => none
  | f + 1, i => if isW L i [45] then (paF E L f (i + 1)).bind fun o => match o with
      | none => some none
      | some r => some (some (negE r.1, r.2))
    else pfF E L f i
  pfF (E : Env) (L : List Wd) : Nat → Nat → Option (Option (Ex × Nat))
  | 0, _ => none
  | f + 1, i =>
    if isW L i [40] then (ptF E L f 1 (i + 1)).bind fun o => match o with
      | none => some none
      | some r => some (if isW L r.2 [41] then some (r.1, r.2 + 1) else none)
    else if kAt L i = 4 then
      (if tAt L i = truW ∨ tAt L i = flsW then some (some (boolE (decide (tAt L i = truW)), i + 1))
       else if E.nam (tAt L i) = true ∧ isW L (i + 1) [40] = true then
         (if isW L (i + 2) [41] then some (some (callE (tAt L i) [], i + 3)) else pgF E L f (tAt L i) [] (i + 2))
       else some none)
    else some (poneF E L i)
  pgF (E : Env) (L : List Wd) : Nat → List UInt8 → List Ex → Nat → Option (Option (Ex × Nat))
  | 0, _, _, _ => none
  | f + 1, t, ks, i =>
    if ks.length < 30 then (ptF E L f 1 i).bind fun o => match o with
      | none => some none
      | some r => if isW L r.2 [44] then pgF E L f t (ks ++ [r.1]) (r.2 + 1) else some (if isW L r.2 [41] then some (callE t (ks ++ [r.1]), r.2 + 1) else none)
    else some none
end Go.Proofs.YtgheopdadfnilaaDoor
namespace Go.Proofs.YtgheopdadfnilaaDoor
open Go.RowKit
set_option linter.unusedVariables false
set_option linter.unusedSimpArgs false


/-- a byte of a word of letters and digits -/
def joinB (c : UInt8) : Bool :=
  decide (65 ≤ c.toNat ∧ c.toNat ≤ 90) || (decide (97 ≤ c.toNat ∧ c.toNat ≤ 122) || (decide (48 ≤ c.toNat ∧ c.toNat ≤ 57) || (c == 36 || (c == 33 || c == 46))))
def tru : List UInt8 := [84, 82, 85, 69]
def fls : List UInt8 := [70, 65, 76, 83, 69]
/-- of which kind a run of such bytes is; 0: it is wrong -/
def kindJ (t : List UInt8) (called : Bool) : Nat :=
  if V.pf (V.parseO t) then 1 else if refF t then 3 else if t = tru ∨ t = fls ∨ (called = true ∧ allL t = true) then 4 else 0
/-- kind, text and length of a word; no length: it is wrong -/
def bad : Nat × List UInt8 × Nat := (0, [], 0)
def joinW (l : List UInt8) : Nat × List UInt8 × Nat :=
  if kindJ (l.takeWhile joinB) (Lib.hasPrefix (l.dropWhile joinB) [40]) = 0 then bad
  else (kindJ (l.takeWhile joinB) (Lib.hasPrefix (l.dropWhile joinB) [40]), l.takeWhile joinB, (l.takeWhile joinB).length)
/-- what stands behind a quote: what it means, and where it ends -/
def quoF : List UInt8 → List UInt8 → Nat → Option (List UInt8 × Nat)
  | [], _, _ => none
  | [c], acc, n => if c = 34 then some (acc, n + 1) else none
  | c :: d :: r, acc, n => if c = 34 then (if d = 34 then quoF r (acc ++ [34]) (n + 2) else some (acc, n + 1)) else quoF (d :: r) (acc ++ [c]) (n + 1)
def quoP : Option (List UInt8 × Nat) → Nat × List UInt8 × Nat
  | none => bad
  | some (t, n) => if V.mtB t then (2, t, n) else bad
def quoW (l : List UInt8) : Nat × List UInt8 × Nat := quoP (quoF (l.drop 1) [] 1)
def errP : Option Int → Nat × List UInt8 × Nat
  | none => bad
  | some e => (5, enL e, (enL e).length)
def errF (l : List UInt8) : Option Int := [1, 2, 3, 4, 5, 6, 7].find? (fun e => Lib.hasPrefix l (enL e))
def errW (l : List UInt8) : Nat × List UInt8 × Nat := errP (errF l)
def sigP : Option (List UInt8) → Nat × List UInt8 × Nat
  | none => bad
  | some t => (6, t, t.length)
def sigF (l : List UInt8) : Option (List UInt8) := sgL.find? (fun t => Lib.hasPrefix l t)
def sigW (l : List UInt8) : Nat × List UInt8 × Nat := sigP (sigF l)
/-- the word that a text begins with -/
def wordF (l : List UInt8) : Nat × List UInt8 × Nat :=
  if l.headD 0 = 34 then quoW l else if l.headD 0 = 35 then errW l else if joinB (l.headD 0) then joinW l else sigW l
def scanG : Nat → List UInt8 → Nat → List Wd → Option (List Wd) × Nat
  | 0, _, _, acc => (some acc, 0)
  | _ + 1, [], _, acc => (some acc, 0)
  | f + 1, c :: r, at', acc =>
    if c = 32 then scanG f r (at' + 1) acc
    else if (wordF (c :: r)).2.2 = 0 then (none, at')
    else scanG f ((c :: r).drop (wordF (c :: r)).2.2) (at' + (wordF (c :: r)).2.2) (acc ++ [⟨(wordF (c :: r)).1, (wordF (c :: r)).2.1, at'⟩])
theorem scanG_fuel : ∀ (f g : Nat) (l : List UInt8) (a : Nat) (acc : List Wd), l.length ≤ f → l.length ≤ g → scanG f l a acc = scanG g l a acc := by
  intro f
  induction f with
  | zero =>
    intro g l a acc h _
    have e : l = [] := List.eq_nil_of_length_eq_zero (by omega)
    subst e
    cases g <;> rfl
  | succ f ih =>
    intro g l a acc h h'
    cases l with
    | nil => cases g <;> rfl
    | cons c r =>
      cases g with
      | zero => simp at h'
      | succ g =>
        simp only [List.length_cons] at h h'
        unfold scanG
        split
        · exact ih g r _ _ (by omega) (by omega)
        · split
          · rfl
          · rename_i hn
            exact ih g _ _ _ (by rw [List.length_drop, List.length_cons]; omega) (by rw [List.length_drop, List.length_cons]; omega)
/-- the words from a place on, behind those that were found ahead of it; or the place of the one that is wrong -/
def scanF (l : List UInt8) (a : Nat) (acc : List Wd) : Option (List Wd) × Nat := scanG l.length l a acc
theorem scanF_nil (a : Nat) (acc : List Wd) : scanF [] a acc = (some acc, 0) := rfl
theorem scanF_blank (r : List UInt8) (a : Nat) (acc : List Wd) : scanF (32 :: r) a acc = scanF r (a + 1) acc := by
  unfold scanF
  rw [List.length_cons, scanG]
  exact if_pos rfl
theorem scanF_bad {l : List UInt8} (a : Nat) (acc : List Wd) (h0 : l ≠ []) (h1 : l.headD 0 ≠ 32) (h : (wordF l).2.2 = 0) : scanF l a acc = (none, a) := by
  unfold scanF
  cases l with
  | nil => exact absurd rfl h0
  | cons c r =>
    simp only [List.headD_cons] at h1
    rw [List.length_cons, scanG, if_neg h1, if_pos h]
theorem scanF_word {l : List UInt8} (a : Nat) (acc : List Wd) (h0 : l ≠ []) (h1 : l.headD 0 ≠ 32) (h : (wordF l).2.2 ≠ 0) : scanF l a acc = scanF (l.drop (wordF l).2.2) (a + (wordF l).2.2) (acc ++ [⟨(wordF l).1, (wordF l).2.1, a⟩]) := by
  unfold scanF
  cases l with
  | nil => exact absurd rfl h0
  | cons c r =>
    simp only [List.headD_cons] at h1
    rw [List.length_cons, scanG, if_neg h1, if_neg h]
    refine scanG_fuel _ _ _ _ _ ?_ (Nat.le_refl _)
    rw [List.length_drop, List.length_cons]
    omega
/-- how many blanks stand at a text's head -/
def blk (l : List UInt8) : Nat := (l.takeWhile (· == 32)).length
theorem blk_le (l : List UInt8) : blk l ≤ l.length := by
  unfold blk
  exact (List.takeWhile_prefix _).length_le
theorem blk_zero {l : List UInt8} (h : l.headD 0 ≠ 32) : blk l = 0 := by
  unfold blk
  cases l with
  | nil => rfl
  | cons c r =>
    simp only [List.headD_cons] at h
    rw [List.takeWhile_cons, if_neg (by simpa using h)]
    rfl
theorem blk_succ (r : List UInt8) : blk (32 :: r) = blk r + 1 := by
  unfold blk
  rw [List.takeWhile_cons, if_pos (by rfl), List.length_cons]
theorem scanF_blk (l : List UInt8) (a : Nat) (acc : List Wd) : scanF l a acc = scanF (l.drop (blk l)) (a + blk l) acc := by
  induction l generalizing a with
  | nil => rfl
  | cons c r ih =>
    by_cases h : c = 32
    · subst h
      rw [scanF_blank, blk_succ, ih, List.drop_succ_cons, show a + 1 + blk r = a + (blk r + 1) by omega]
    · rw [blk_zero (by simpa using h)]
      rfl
theorem head_blk (l : List UInt8) (h : blk l < l.length) : (l.drop (blk l)).headD 0 ≠ 32 := by
  induction l with
  | nil => simp at h
  | cons c r ih =>
    by_cases hc : c = 32
    · subst hc
      rw [blk_succ] at h ⊢
      rw [List.drop_succ_cons]
      exact ih (by simpa using h)
    · rw [blk_zero (by simpa using hc)]
      simpa using hc
theorem quoF_not {c : UInt8} {r acc : List UInt8} {n : Nat} (h : c ≠ 34) : quoF (c :: r) acc n = quoF r (acc ++ [c]) (n + 1) := by
  cases r with
  | nil => simp [quoF, h]
  | cons d r => simp [quoF, h]
theorem quoF_two {r acc : List UInt8} {n : Nat} : quoF (34 :: 34 :: r) acc n = quoF r (acc ++ [34]) (n + 2) := by simp [quoF]
theorem quoF_end {r acc : List UInt8} {n : Nat} (h : Lib.hasPrefix r [34] = false) : quoF (34 :: r) acc n = some (acc, n + 1) := by
  cases r with
  | nil => simp [quoF]
  | cons d r =>
    have hd : d ≠ 34 := fun e => by subst e; simp [Lib.hasPrefix] at h
    simp [quoF, hd]
theorem two_of {r : List UInt8} (h : Lib.hasPrefix r [34] = true) : ∃ r', r = 34 :: r' := by
  cases r with
  | nil => simp [Lib.hasPrefix] at h
  | cons d r =>
    refine ⟨r, ?_⟩
    simp [Lib.hasPrefix] at h
    rw [← h]
end Go.Proofs.YtgheopdadfnilaaDoor
namespace Go.Proofs.YtgheopdadfnilaaDoor
open Go.RowKit
set_option linter.unusedVariables false
set_option linter.unusedSimpArgs false

theorem Q.block {a w : World} (h : Q a w) {b : Nat} (hb : b < a.heap.size) : w.heap[b]? = a.heap[b]? := Below.block h b hb
/-- a word as it lies in cells -/
def wd (x : Wd) : List Value := [.int .i64 (x.k : Int), .string ⟨x.t.toArray⟩, .int .i64 (x.p : Int)]
theorem wd_len (x : Wd) : (wd x).length = 3 := rfl
theorem wd_one (x : Wd) : ∀ u ∈ wd x, u.oneCell' = true := by
  intro u hu
  simp [wd] at hu
  rcases hu with rfl | rfl | rfl <;> rfl

section
variable {α : Type} (enc : α → List Value)
def flat (L : List α) : List Value := L.flatMap enc
theorem flat_nil : flat enc [] = [] := rfl
theorem flat_cons (x : α) (L : List α) : flat enc (x :: L) = enc x ++ flat enc L := by unfold flat; simp
theorem flat_append (L L' : List α) : flat enc (L ++ L') = flat enc L ++ flat enc L' := by unfold flat; simp
theorem flat_snoc (L : List α) (x : α) : flat enc (L ++ [x]) = flat enc L ++ enc x := by unfold flat; simp
theorem flat_len {k : Nat} (hk : ∀ x, (enc x).length = k) (L : List α) : (flat enc L).length = L.length * k := by
  induction L with
  | nil => simp [flat]
  | cons x L ih => rw [flat_cons, List.length_append, ih, hk, List.length_cons, Nat.succ_mul]; omega
theorem flat_at {k : Nat} (hk : ∀ x, (enc x).length = k) (L : List α) (i : Nat) (h : i < L.length) (j : Nat) (hj : j < k) : (flat enc L)[i * k + j]? = (enc L[i])[j]? := by
  induction L generalizing i with
  | nil => simp at h
  | cons x L ih =>
    rw [flat_cons]
    cases i with
    | zero =>
      rw [Nat.zero_mul, Nat.zero_add, List.getElem?_append_left (by rw [hk]; exact hj)]
      simp
    | succ i =>
      have e : (i + 1) * k + j = k + (i * k + j) := by rw [Nat.succ_mul]; omega
      rw [e, List.getElem?_append_right (by rw [hk]; omega), hk, Nat.add_sub_cancel_left, ih i (by simpa using h)]
      simp
theorem flat_one {L : List α} (h : ∀ x, ∀ u ∈ enc x, u.oneCell' = true) : ∀ u ∈ flat enc L, u.oneCell' = true := by
  intro u hu
  unfold flat at hu
  rw [List.mem_flatMap] at hu
  obtain ⟨x, _, hx⟩ := hu
  exact h x u hx

/-- the cells of one -/
def Ats (W : World) (b o : Nat) (x : α) : Prop := ∀ (j : Nat) (u : Value), (enc x)[j]? = some u → W.cell? ⟨b, o + j, none⟩ = some u
variable {enc}
theorem Ats.on {W W' : World} {b o : Nat} {x : α} (h : Ats enc W b o x) (q : Q W W') : Ats enc W' b o x := fun j u hu =>
  (q.cell (World.block_lt_of_cell? W ⟨b, o + j, none⟩ (h j u hu))).trans (h j u hu)
theorem Ats.blk {W W' : World} {b o : Nat} {x : α} (h : Ats enc W b o x) (q : W'.heap[b]? = W.heap[b]?) : Ats enc W' b o x := fun j u hu =>
  (World.cell?_of_block (w := W) (w' := W') (a := ⟨b, o + j, none⟩) q).trans (h j u hu)
variable (enc)
/-- a slice that reads as these; k: the cells of an element -/
def Sl (k : Nat) (W : World) (v : Value) (L : List α) : Prop :=
  ∃ (ao : Option Addr) (cap : Nat), v = .slice ao L.length cap ∧ L.length ≤ cap ∧ cap ≤ maxLen ∧ (0 < L.length → ∃ b off, ao = some ⟨b, off, none⟩ ∧ ∀ i (h : i < L.length), Ats enc W b (off + i * k) L[i])
variable {enc}
variable {k : Nat}
theorem Sl.on {W W' : World} {v : Value} {L : List α} (h : Sl enc k W v L) (q : Q W W') : Sl enc k W' v L := by
  obtain ⟨ao, cap, hv, h1, h2, h⟩ := h
  refine ⟨ao, cap, hv, h1, h2, fun hl => ?_⟩
  obtain ⟨b, off, ha, hc⟩ := h hl
  exact ⟨b, off, ha, fun i hi => (hc i hi).on q⟩
theorem Sl.len {W : World} {v : Value} {L : List α} (h : Sl enc k W v L) : ∃ (ao : Option Addr) (cap : Nat), v = .slice ao L.length cap ∧ L.length ≤ cap ∧ cap ≤ maxLen := by
  obtain ⟨ao, cap, hv, h1, h2, _⟩ := h
  exact ⟨ao, cap, hv, h1, h2⟩
theorem Sl.at {W : World} {v : Value} {L : List α} (h : Sl enc k W v L) {i : Nat} (hi : i < L.length) : ∃ b off cap, v = .slice (some ⟨b, off, none⟩) L.length cap ∧ L.length ≤ cap ∧ cap ≤ maxLen ∧ Ats enc W b (off + i * k) L[i] := by
  obtain ⟨ao, cap, hv, h1, h2, h⟩ := h
  obtain ⟨b, off, ha, hc⟩ := h (by omega)
  subst ha
  exact ⟨b, off, cap, hv, h1, h2, hc i hi⟩
theorem sl_nil (W : World) : Sl enc k W (.slice none 0 0) [] := ⟨none, 0, rfl, Nat.le_refl _, Nat.zero_le _, fun h => absurd h (by simp)⟩

/-- a row of the call's own -/
def Own (enc : α → List Value) (e : TypeId) (k B : Nat) (W : World) (v : Value) (L : List α) : Prop := W.ownsRow B e k v L.length (flat enc L)
variable {e : TypeId} {B : Nat}
theorem own_nil (W : World) : Own enc e k B W (.slice none 0 0) [] := World.ownsRow_nil _ _ _ _
theorem Own.sl {W : World} {v : Value} {L : List α} (h : Own enc e k B W v L) (hk : ∀ x, (enc x).length = k) (hp : 0 < k) : Sl enc k W v L := by
  have h0 := h
  obtain ⟨hl, h⟩ := h
  rcases h with ⟨hv, hn⟩ | ⟨g, cap, cur, hv, hb, hg, h1, h2, h3, h4⟩
  · exact ⟨none, 0, by rw [hv, hn], by omega, Nat.zero_le _, fun h => by omega⟩
  · refine ⟨some ⟨g, 0, none⟩, cap, hv, h1, h2, fun _ => ⟨g, 0, rfl, fun i hi j u hu => ?_⟩⟩
    have hj : j < k := by rw [← hk L[i]]; exact (List.getElem?_eq_some_iff.1 hu).1
    unfold Own at h0
    rw [hv] at h0
    have : i * k + j < L.length * k := Nat.lt_of_lt_of_le (Nat.add_lt_add_left hj _) (by rw [← Nat.succ_mul]; exact Nat.mul_le_mul_right _ hi)
    rw [Nat.zero_add, h0.cellAt (i * k + j) this, flat_at enc hk L i hi j hj]
    exact hu
theorem Own.alloc {W : World} {v : Value} {L : List α} (h : Own enc e k B W v L) (o : Obj) : Own enc e k B (W.alloc o) v L := World.ownsRow.alloc h o
theorem Own.on {W W' : World} {v : Value} {L : List α} (h : Own enc e k B W v L) (q : Q W W') : Own enc e k B W' v L := by
  obtain ⟨hl, h⟩ := h
  refine ⟨hl, ?_⟩
  rcases h with h | ⟨g, cap, cur, hv, hb, hg, h1, h2, h3, h4⟩
  · exact .inl h
  · have hlt : g < W.heap.size := by
      rcases Nat.lt_or_ge g W.heap.size with h' | h'
      · exact h'
      · rw [Array.getElem?_eq_none h'] at hg; cases hg
    exact .inr ⟨g, cap, cur, hv, hb, by rw [Below.block q g hlt]; exact hg, h1, h2, h3, h4⟩
theorem Own.blk {W : World} {v : Value} {L : List α} (h : Own enc e k B W v L) : ∀ j, v.ownBlock = some j → B ≤ j := by
  intro j hj
  obtain ⟨_, h⟩ := h
  rcases h with ⟨hv, _⟩ | ⟨g, cap, cur, hv, hg, _⟩
  · rw [hv] at hj; cases hj
  · rw [hv] at hj
    cases hj
    exact hg
theorem Own.lt {W : World} {v : Value} {L : List α} (h : Own enc e k B W v L) : ∀ j, v.ownBlock = some j → j < W.heap.size := by
  intro j hj
  obtain ⟨_, h⟩ := h
  rcases h with ⟨hv, _⟩ | ⟨g, cap, cur, hv, _, hg, _⟩
  · rw [hv] at hj; cases hj
  · rw [hv] at hj
    cases hj
    rcases Nat.lt_or_ge g W.heap.size with h' | h'
    · exact h'
    · rw [Array.getElem?_eq_none h'] at hg; cases hg
theorem Own.mono {W : World} {v : Value} {L : List α} {B' : Nat} (h : Own enc e k B W v L) (hB : B' ≤ B) : Own enc e k B' W v L := by
  obtain ⟨hl, h⟩ := h
  refine ⟨hl, ?_⟩
  rcases h with h | ⟨g, cap, cur, hv, hb, hr⟩
  · exact .inl h
  · exact .inr ⟨g, cap, cur, hv, by omega, hr⟩
/-- another row, of another type, grew, or was written -/
theorem Own.grown {W W' : World} {row : Option Nat} {v : Value} {L : List α} (h : Own enc e k B W v L) (g : W.grownBy W' row) (hr : v.ownBlock = none ∨ v.ownBlock ≠ row) : Own enc e k B W' v L := World.ownsRow.kept h g hr
/-- rows of two types lie in two blocks -/
theorem own_ne {β : Type} {enc' : β → List Value} {e' : TypeId} {k' B' : Nat} {W : World} {v v' : Value} {L : List α} {L' : List β} (h : Own enc e k B W v L) (h' : Own enc' e' k' B' W v' L') (hne : e ≠ e') : v.ownBlock = none ∨ v.ownBlock ≠ v'.ownBlock := by
  obtain ⟨_, h⟩ := h
  obtain ⟨_, h'⟩ := h'
  rcases h with ⟨hv, _⟩ | ⟨g, cap, cur, hv, hb, hg, _⟩
  · rw [hv]; exact .inl rfl
  · rcases h' with ⟨hv', _⟩ | ⟨g', cap', cur', hv', hb', hg', _⟩
    · rw [hv, hv']; exact .inr (fun h => by cases h)
    · rw [hv, hv']
      refine .inr (fun h => ?_)
      simp only [Value.ownBlock, Option.some.injEq] at h
      subst h
      rw [hg] at hg'
      simp only [Option.some.injEq, Obj.cells.injEq] at hg'
      exact hne hg'.2.1
theorem own_snoc {W : World} {v : Value} {L : List α} {x : α} (h : W.ownsRow B e k v (L.length + 1) (flat enc L ++ enc x)) : Own enc e k B W v (L ++ [x]) := by
  unfold Own
  rw [flat_snoc, List.length_append]
  exact h
theorem own_snoc' {W : World} {v : Value} {L : List α} {x : α} {n : Nat} (h : W.ownsRow B e k v n (flat enc L ++ enc x)) (hn : n = L.length + 1) : Own enc e k B W v (L ++ [x]) := own_snoc (hn ▸ h)
theorem own_append {W : World} {v : Value} {L L' : List α} (h : W.ownsRow B e k v (L.length + L'.length) (flat enc L ++ flat enc L')) : Own enc e k B W v (L ++ L') := by
  unfold Own
  rw [flat_append, List.length_append]
  exact h
theorem news_new (W : World) (cs : List Value) (t : TypeId) : ∀ j u, cs[j]? = some u → (W.alloc (.cells cs.toArray t)).cell? ((⟨W.heap.size, 0, none⟩ : Addr).add j) = some u := by
  intro j u hu
  have hj : j < cs.length := (List.getElem?_eq_some_iff.1 hu).1
  have e : ((⟨W.heap.size, 0, none⟩ : Addr).add j) = ⟨W.heap.size, j, none⟩ := by
    unfold Addr.add
    by_cases h : j = 0
    · subst h; simp
    · simp [h]
  rw [e]
  rw [World.cell?_alloc_new]
  simpa using hu
theorem news_at (W : World) (cs : List Value) (t : TypeId) (b : Nat) (hb : b = W.heap.size) : ∀ j u, cs[j]? = some u → (W.alloc (.cells cs.toArray t)).cell? ((⟨b, 0, none⟩ : Addr).add j) = some u := by
  subst hb
  exact news_new W cs t
theorem own_eq {W : World} {v : Value} {L L' : List α} (h : Own enc e k B W v L) (e' : L = L') : Own enc e k B W v L' := e' ▸ h
theorem sl_eq {W : World} {v : Value} {L L' : List α} (h : Sl enc k W v L) (e' : L = L') : Sl enc k W v L' := e' ▸ h
theorem Own.shape {W : World} {v : Value} {L : List α} (h : Own enc e k B W v L) (hl : 0 < L.length) : ∃ g cap, v = .slice (some ⟨g, 0, none⟩) L.length cap ∧ B ≤ g ∧ g < W.heap.size ∧ L.length ≤ cap ∧ cap ≤ maxLen := by
  have hlt := h.lt
  obtain ⟨_, h⟩ := h
  rcases h with ⟨hv, hn⟩ | ⟨g, cap, cur, hv, hb, hg, h1, h2, _⟩
  · omega
  · exact ⟨g, cap, hv, hb, hlt g (by rw [hv]; rfl), h1, h2⟩
theorem Own.cell {W : World} {g cap i : Nat} {L : List α} (h : Own enc e k B W (.slice (some ⟨g, 0, none⟩) L.length cap) L) (hk : ∀ x, (enc x).length = k) (hi : i < L.length) : Ats enc W g (i * k) L[i] := by
  intro j u hu
  have hj : j < k := by rw [← hk L[i]]; exact (List.getElem?_eq_some_iff.1 hu).1
  have : i * k + j < L.length * k := Nat.lt_of_lt_of_le (Nat.add_lt_add_left hj _) (by rw [← Nat.succ_mul]; exact Nat.mul_le_mul_right _ hi)
  rw [World.ownsRow.cellAt h (i * k + j) this, flat_at enc hk L i hi j hj]
  exact hu
theorem flat_set {L : List α} (hk : ∀ x, (enc x).length = k) (i : Nat) (hi : i < L.length) (j : Nat) (hj : j < k) (u : Value) (x' : α) (hx : enc x' = (enc L[i]).set j u) : (flat enc L).set (i * k + j) u = flat enc (L.set i x') := by
  induction L generalizing i with
  | nil => simp at hi
  | cons x L ih =>
    rw [flat_cons]
    cases i with
    | zero =>
      simp only [List.set_cons_zero, List.getElem_cons_zero] at *
      rw [flat_cons, hx, Nat.zero_mul, Nat.zero_add, List.set_append_left _ _ (by rw [hk]; exact hj)]
    | succ i =>
      simp only [List.set_cons_succ, List.getElem_cons_succ] at *
      have e : (i + 1) * k + j = k + (i * k + j) := by rw [Nat.succ_mul]; omega
      rw [flat_cons, e, List.set_append_right _ _ (by rw [hk]; omega), hk, Nat.add_sub_cancel_left, ih i (by simpa using hi) hx]
theorem Own.set {W : World} {g cap i : Nat} {L : List α} (h : Own enc e k B W (.slice (some ⟨g, 0, none⟩) L.length cap) L) (hk : ∀ x, (enc x).length = k) (hi : i < L.length) (j : Nat) (hj : j < k) (u : Value) (x' : α) (hx : enc x' = (enc L[i]).set j u) :
    Own enc e k B (W.setCell ⟨g, i * k + j, none⟩ u) (.slice (some ⟨g, 0, none⟩) L.length cap) (L.set i x') := by
  have h1 := (World.ownsRow.stored h (i * k + j) u).1
  rw [flat_set hk i hi j hj u x' hx] at h1
  unfold Own
  rw [List.length_set]
  exact h1
theorem Sl.cells {W : World} {v : Value} {L : List α} (h : Sl enc k W v L) (hk : ∀ x, (enc x).length = k) (hp : 0 < k) : ∃ (ao : Option Addr) (cap : Nat), v = .slice ao L.length cap ∧ (L = [] ∨ ∃ ad, ao = some ad ∧ ∀ j u, (flat enc L)[j]? = some u → W.cell? (ad.add j) = some u) := by
  obtain ⟨ao, cap, hv, h1, h2, h⟩ := h
  refine ⟨ao, cap, hv, ?_⟩
  rcases Nat.eq_zero_or_pos L.length with h0 | h0
  · exact .inl (List.eq_nil_of_length_eq_zero h0)
  · obtain ⟨b, off, rfl, hc⟩ := h h0
    refine .inr ⟨_, rfl, fun j u hu => ?_⟩
    have hj : j < L.length * k := by rw [← flat_len enc hk L]; exact (List.getElem?_eq_some_iff.1 hu).1
    have hi : j / k < L.length := Nat.div_lt_of_lt_mul (by rw [Nat.mul_comm]; exact hj)
    have hm : j % k < k := Nat.mod_lt _ hp
    have ej : j / k * k + j % k = j := by rw [Nat.mul_comm]; exact Nat.div_add_mod j k
    have e : ((⟨b, off, none⟩ : Addr).add j) = ⟨b, off + j, none⟩ := by
      unfold Addr.add
      by_cases h : j = 0
      · subst h; simp
      · simp [h]
    rw [e]
    have h5 := flat_at enc hk L (j / k) hi (j % k) hm
    rw [ej, hu] at h5
    have h6 := hc (j / k) hi (j % k) u h5.symm
    rw [show off + j / k * k + j % k = off + j by omega] at h6
    exact h6
end
theorem bx_new {α : Type} (enc : α → List Value) (W : World) (x : α) (t : TypeId) : Ats enc (W.alloc (.cells (enc x).toArray t)) W.heap.size 0 x := by
  intro j u hu
  rw [Nat.zero_add, World.cell?_alloc_new]
  simpa using hu
/-- how long a slice is -/
def slen : Value → Nat
  | .slice _ n _ => n
  | _ => 0
/-- what an append asks of the element's type -/
def Inf (e : TypeId) (z : Value) (k by' : Nat) (i : TypeInfo) : Prop := Tryd.prog.info? e = some i ∧ i.zero = some z ∧ i.size = k ∧ i.bytes = by'
theorem inf_of {e : TypeId} {z : Value} {k b : Nat} (h : (Tryd.prog.info? e).map (fun i => (i.zero, i.size, i.bytes)) = some (some z, k, b)) : ∃ i, Inf e z k b i := by
  obtain ⟨i, hi, hz⟩ := Option.map_eq_some_iff.1 h
  simp only [Prod.mk.injEq] at hz
  exact ⟨i, hi, hz.1, hz.2.1, hz.2.2⟩

theorem info31 : (Tryd.prog.info? 46).map (fun i => (i.zero, i.size, i.bytes)) = some (some (.agg #[.int .i64 0, .string ⟨#[]⟩, .int .i64 0]), 3, 32) := by kernel_rfl
end Go.Proofs.YtgheopdadfnilaaDoor
namespace Go.Proofs.YtgheopdadfnilaaDoor
set_option linter.unusedVariables false
set_option linter.unusedSimpArgs false

/-- more fuel changes nothing -/
theorem mono_ref (E : Env) (L : List Wd) : ∀ f : Nat,
    (∀ lv s r, treeF E L f lv s = some r → treeF E L (f + 1) lv s = some r) ∧
    (∀ lv x s r, treeF.loopF E L f lv x s = some r → treeF.loopF E L (f + 1) lv x s = some r) ∧
    (∀ s r, treeF.aheadF E L f s = some r → treeF.aheadF E L (f + 1) s = some r) ∧
    (∀ s r, treeF.firstF E L f s = some r → treeF.firstF E L (f + 1) s = some r) ∧
    (∀ t ks s r, treeF.argsF E L f t ks s = some r → treeF.argsF E L (f + 1) t ks s = some r) := by
  intro f
  induction f with
  | zero =>
    refine ⟨?_, ?_, ?_, ?_, ?_⟩
    · intro lv s r h; unfold treeF at h; cases h
    · intro lv x s r h; unfold treeF.loopF at h; cases h
    · intro s r h; unfold treeF.aheadF at h; cases h
    · intro s r h; unfold treeF.firstF at h; cases h
    · intro t ks s r h; unfold treeF.argsF at h; cases h
  | succ f ih =>
    obtain ⟨iT, iL, iA, iF, iG⟩ := ih
    refine ⟨?_, ?_, ?_, ?_, ?_⟩
    · intro lv s r h
      rw [treeF] at h ⊢
      (revert h; split <;> intro h)
      · exact h
      · (revert h; split <;> intro h)
        · exact iA _ _ h
        · obtain ⟨r1, h1, h2⟩ := Option.bind_eq_some_iff.1 h
          exact Option.bind_eq_some_iff.2 ⟨r1, iT _ _ _ h1, iL _ _ _ _ h2⟩
    · intro lv x s r h
      rw [treeF.loopF] at h ⊢
      (revert h; split <;> intro h)
      · obtain ⟨r1, h1, h2⟩ := Option.bind_eq_some_iff.1 h
        exact Option.bind_eq_some_iff.2 ⟨r1, iT _ _ _ h1, iL _ _ _ _ h2⟩
      · exact h
    · intro s r h
      rw [treeF.aheadF] at h ⊢
      (revert h; split <;> intro h)
      · obtain ⟨r1, h1, h2⟩ := Option.bind_eq_some_iff.1 h
        exact Option.bind_eq_some_iff.2 ⟨r1, iT _ _ _ h1, h2⟩
      · exact iF _ _ h
    · intro s r h
      rw [treeF.firstF] at h ⊢
      (revert h; split <;> intro h)
      · obtain ⟨r1, h1, h2⟩ := Option.bind_eq_some_iff.1 h
        exact Option.bind_eq_some_iff.2 ⟨r1, iT _ _ _ h1, h2⟩
      · (revert h; split <;> intro h)
        · (revert h; split <;> intro h)
          · exact h
          · (revert h; split <;> intro h)
            · (revert h; split <;> intro h)
              · exact h
              · exact iG _ _ _ _ h
            · exact h
        · exact h
    · intro t ks s r h
      rw [treeF.argsF] at h ⊢
      (revert h; split <;> intro h)
      · exact h
      · (revert h; split <;> intro h)
        · exact h
        · (revert h; split <;> intro h)
          · exact h
          · obtain ⟨r1, h1, h2⟩ := Option.bind_eq_some_iff.1 h
            exact Option.bind_eq_some_iff.2 ⟨r1, iT _ _ _ h1, iG _ _ _ _ h2⟩
theorem treeF_le {E : Env} {L : List Wd} {f g lv : Nat} {s : St} {r : Ex × St} (h : treeF E L f lv s = some r) (hg : f ≤ g) : treeF E L g lv s = some r := by
  obtain ⟨d, rfl⟩ := Nat.le.dest hg
  clear hg
  induction d with
  | zero => exact h
  | succ d ih => exact (mono_ref E L _).1 _ _ _ ih
theorem loopF_le {E : Env} {L : List Wd} {f g lv : Nat} {x : Ex} {s : St} {r : Ex × St} (h : treeF.loopF E L f lv x s = some r) (hg : f ≤ g) : treeF.loopF E L g lv x s = some r := by
  obtain ⟨d, rfl⟩ := Nat.le.dest hg
  clear hg
  induction d with
  | zero => exact h
  | succ d ih => exact (mono_ref E L _).2.1 _ _ _ _ ih
theorem aheadF_le {E : Env} {L : List Wd} {f g : Nat} {s : St} {r : Ex × St} (h : treeF.aheadF E L f s = some r) (hg : f ≤ g) : treeF.aheadF E L g s = some r := by
  obtain ⟨d, rfl⟩ := Nat.le.dest hg
  clear hg
  induction d with
  | zero => exact h
  | succ d ih => exact (mono_ref E L _).2.2.1 _ _ ih
theorem firstF_le {E : Env} {L : List Wd} {f g : Nat} {s : St} {r : Ex × St} (h : treeF.firstF E L f s = some r) (hg : f ≤ g) : treeF.firstF E L g s = some r := by
  obtain ⟨d, rfl⟩ := Nat.le.dest hg
  clear hg
  induction d with
  | zero => exact h
  | succ d ih => exact (mono_ref E L _).2.2.2.1 _ _ ih
theorem argsF_le {E : Env} {L : List Wd} {f g : Nat} {t : List UInt8} {ks : List Ex} {s : St} {r : Ex × St} (h : treeF.argsF E L f t ks s = some r) (hg : f ≤ g) : treeF.argsF E L g t ks s = some r := by
  obtain ⟨d, rfl⟩ := Nat.le.dest hg
  clear hg
  induction d with
  | zero => exact h
  | succ d ih => exact (mono_ref E L _).2.2.2.2 _ _ _ _ ih

theorem mono_pro (E : Env) (L : List Wd) : ∀ f : Nat,
    (∀ lv i o, ptF E L f lv i = some o → ptF E L (f + 1) lv i = some o) ∧
    (∀ lv x i o, ptF.plF E L f lv x i = some o → ptF.plF E L (f + 1) lv x i = some o) ∧
    (∀ i o, ptF.paF E L f i = some o → ptF.paF E L (f + 1) i = some o) ∧
    (∀ i o, ptF.pfF E L f i = some o → ptF.pfF E L (f + 1) i = some o) ∧
    (∀ t ks i o, ptF.pgF E L f t ks i = some o → ptF.pgF E L (f + 1) t ks i = some o) := by
  intro f
  induction f with
  | zero =>
    refine ⟨?_, ?_, ?_, ?_, ?_⟩
    · intro lv s r h; unfold ptF at h; cases h
    · intro lv x s r h; unfold ptF.plF at h; cases h
    · intro s r h; unfold ptF.paF at h; cases h
    · intro s r h; unfold ptF.pfF at h; cases h
    · intro t ks s r h; unfold ptF.pgF at h; cases h
  | succ f ih =>
    obtain ⟨iT, iL, iA, iF, iG⟩ := ih
    refine ⟨?_, ?_, ?_, ?_, ?_⟩
    · intro lv i o h
      rw [ptF] at h ⊢
      obtain ⟨o1, h1, h2⟩ := Option.bind_eq_some_iff.1 h
      refine Option.bind_eq_some_iff.2 ⟨o1, iA _ _ h1, ?_⟩
      cases o1 with
      | none => exact h2
      | some r => exact iL _ _ _ _ h2
    · intro lv x j o h
      rw [ptF.plF] at h ⊢
      (revert h; split <;> intro h)
      · obtain ⟨o1, h1, h2⟩ := Option.bind_eq_some_iff.1 h
        refine Option.bind_eq_some_iff.2 ⟨o1, iT _ _ _ h1, ?_⟩
        cases o1 with
        | none => exact h2
        | some r => exact iL _ _ _ _ h2
      · exact h
    · intro i o h
      rw [ptF.paF] at h ⊢
      (revert h; split <;> intro h)
      · obtain ⟨o1, h1, h2⟩ := Option.bind_eq_some_iff.1 h
        exact Option.bind_eq_some_iff.2 ⟨o1, iA _ _ h1, h2⟩
      · exact iF _ _ h
    · intro i o h
      rw [ptF.pfF] at h ⊢
      (revert h; split <;> intro h)
      · obtain ⟨o1, h1, h2⟩ := Option.bind_eq_some_iff.1 h
        exact Option.bind_eq_some_iff.2 ⟨o1, iT _ _ _ h1, h2⟩
      · (revert h; split <;> intro h)
        · (revert h; split <;> intro h)
          · exact h
          · (revert h; split <;> intro h)
            · (revert h; split <;> intro h)
              · exact h
              · exact iG _ _ _ _ h
            · exact h
        · exact h
    · intro t ks i o h
      rw [ptF.pgF] at h ⊢
      (revert h; split <;> intro h)
      · obtain ⟨o1, h1, h2⟩ := Option.bind_eq_some_iff.1 h
        refine Option.bind_eq_some_iff.2 ⟨o1, iT _ _ _ h1, ?_⟩
        cases o1 with
        | none => exact h2
        | some r =>
          simp only at h2 ⊢
          (revert h2; split <;> intro h2)
          · exact iG _ _ _ _ h2
          · exact h2
      · exact h
theorem ptF_le {E : Env} {L : List Wd} {f g lv i : Nat} {o : Option (Ex × Nat)} (h : ptF E L f lv i = some o) (hg : f ≤ g) : ptF E L g lv i = some o := by
  obtain ⟨d, rfl⟩ := Nat.le.dest hg
  clear hg
  induction d with
  | zero => exact h
  | succ d ih => exact (mono_pro E L _).1 _ _ _ ih
theorem plF_le {E : Env} {L : List Wd} {f g lv i : Nat} {x : Ex} {o : Option (Ex × Nat)} (h : ptF.plF E L f lv x i = some o) (hg : f ≤ g) : ptF.plF E L g lv x i = some o := by
  obtain ⟨d, rfl⟩ := Nat.le.dest hg
  clear hg
  induction d with
  | zero => exact h
  | succ d ih => exact (mono_pro E L _).2.1 _ _ _ _ ih
theorem paF_le {E : Env} {L : List Wd} {f g i : Nat} {o : Option (Ex × Nat)} (h : ptF.paF E L f i = some o) (hg : f ≤ g) : ptF.paF E L g i = some o := by
  obtain ⟨d, rfl⟩ := Nat.le.dest hg
  clear hg
  induction d with
  | zero => exact h
  | succ d ih => exact (mono_pro E L _).2.2.1 _ _ ih
theorem pgF_le {E : Env} {L : List Wd} {f g i : Nat} {t : List UInt8} {ks : List Ex} {o : Option (Ex × Nat)} (h : ptF.pgF E L f t ks i = some o) (hg : f ≤ g) : ptF.pgF E L g t ks i = some o := by
  obtain ⟨d, rfl⟩ := Nat.le.dest hg
  clear hg
  induction d with
  | zero => exact h
  | succ d ih => exact (mono_pro E L _).2.2.2.2 _ _ _ _ ih
/-- every word but the last has one behind it -/
def Ends (L : List Wd) : Prop := ∀ i, i < L.length → kAt L i ≠ 7 → i + 1 < L.length
/-- from one state to a later one -/
structure Fwd (L : List Wd) (s s' : St) : Prop where
  le : s.i ≤ s'.i
  lt : s'.i < L.length
  nd : s'.n + s.i ≤ s.n + s'.i
  bd : s.bd = true → s'.bd = true
theorem Fwd.refl {L : List Wd} {s : St} (h : s.i < L.length) : Fwd L s s := ⟨Nat.le_refl _, h, by omega, id⟩
theorem Fwd.trans {L : List Wd} {a b c : St} (h : Fwd L a b) (k : Fwd L b c) : Fwd L a c := ⟨Nat.le_trans h.le k.le, k.lt, by have := h.nd; have := k.nd; omega, fun e => k.bd (h.bd e)⟩
theorem Fwd.bad {L : List Wd} {a b : St} (h : Fwd L a b) : Fwd L a b.bad := ⟨h.le, h.lt, h.nd, fun _ => rfl⟩
theorem on_i (s : St) : s.on.i = s.i + 1 := rfl
theorem on_n (s : St) : s.on.n = s.n := rfl
theorem on_bd (s : St) : s.on.bd = s.bd := rfl
theorem node_i (s : St) : s.node.i = s.i := rfl
theorem node_n (s : St) : s.node.n = s.n + 1 := rfl
theorem node_bd (s : St) : s.node.bd = s.bd := rfl
theorem bad_i (s : St) : s.bad.i = s.i := rfl
theorem bad_n (s : St) : s.bad.n = s.n := rfl
theorem bad_bd (s : St) : s.bad.bd = true := rfl
theorem argS_i (ks : List Ex) (s : St) : (argS ks s).i = s.i := rfl
theorem argS_n (ks : List Ex) (s : St) : (argS ks s).n = s.n := rfl
theorem argS_bd (ks : List Ex) (s : St) : (argS ks s).bd = (s.bd || decide (30 < ks.length + 1)) := rfl
theorem Ends.on {L : List Wd} (hE : Ends L) {s : St} (h : s.i < L.length) (hk : kAt L s.i ≠ 7) : Fwd L s s.on ∧ s.on.i < L.length := ⟨⟨Nat.le_succ _, hE _ h hk, by simp only [on_i, on_n]; omega, id⟩, hE _ h hk⟩
theorem Ends.sign {L : List Wd} (hE : Ends L) {i : Nat} {t : List UInt8} (h : isW L i t = true) : i + 1 < L.length := by
  obtain ⟨h1, h2, _⟩ := isW_six h
  exact hE i h1 (by omega)
theorem stg_six {L : List Wd} {i : Nat} (h : 0 < stg L i) : kAt L i = 6 := by
  unfold stg at h
  split at h
  · assumption
  · omega
theorem stg_le (L : List Wd) (i : Nat) : stg L i ≤ 4 := by
  unfold stg
  split
  · exact lvl_le _
  · omega
theorem one_fwd {E : Env} {L : List Wd} (hE : Ends L) {s : St} (h : s.i < L.length) : Fwd L s (oneF E L s).2 ∧ ((oneF E L s).2.bd = false → s.i < (oneF E L s).2.i) := by
  have one : kAt L s.i ≠ 7 → Fwd L s s.on.node ∧ (s.on.node.bd = false → s.i < s.on.node.i) := fun hk => by
    have := hE _ h hk
    exact ⟨⟨by simp only [node_i, on_i]; omega, this, by simp only [node_i, node_n, on_n, on_i]; omega, id⟩, fun _ => by simp only [node_i, on_i]; omega⟩
  unfold oneF
  split
  · rename_i hk; exact one (by omega)
  · split
    · rename_i hk; exact one (by omega)
    · split
      · rename_i hk
        split
        · exact ⟨(Fwd.refl h).bad, fun e => by cases e⟩
        · exact one (by omega)
      · split
        · rename_i hk
          split
          · rename_i hc
            have h2 := hE.sign hc
            split
            · rename_i hr
              have h3 := hE (s.i + 2) h2 (by rw [hr.1]; decide)
              exact ⟨⟨by simp only [node_i, on_i]; omega, h3, by simp only [node_i, node_n, on_n, on_i]; omega, id⟩, fun _ => by simp only [node_i, on_i]; omega⟩
            · exact ⟨⟨by simp only [bad_i, on_i]; omega, h2, by simp only [bad_i, bad_n, on_n, on_i]; omega, fun _ => rfl⟩, fun e => by cases e⟩
          · exact one (by omega)
        · exact ⟨(Fwd.refl h).bad, fun e => by cases e⟩
theorem close_fwd {L : List Wd} (hE : Ends L) {s : St} (h : s.i < L.length) : Fwd L s (closeS L s) := by
  unfold closeS
  split
  · exact Fwd.refl h
  · split
    · rename_i hc
      exact (hE.on h (by have := (isW_six hc).2.1; omega)).1
    · exact (Fwd.refl h).bad
theorem close_bd {L : List Wd} {s : St} (h : s.bd = true) : (closeS L s).bd = true := by unfold closeS; rw [if_pos h]; exact h
/-- readers go on -/
theorem fwd_all (E : Env) (L : List Wd) (hE : Ends L) : ∀ f : Nat,
    (∀ lv s r, 1 ≤ lv → treeF E L f lv s = some r → s.i < L.length → Fwd L s r.2 ∧ (r.2.bd = false → s.i < r.2.i)) ∧
    (∀ lv x s r, 1 ≤ lv → treeF.loopF E L f lv x s = some r → s.i < L.length → Fwd L s r.2) ∧
    (∀ s r, treeF.aheadF E L f s = some r → s.i < L.length → Fwd L s r.2 ∧ (r.2.bd = false → s.i < r.2.i)) ∧
    (∀ s r, treeF.firstF E L f s = some r → s.i < L.length → Fwd L s r.2 ∧ (r.2.bd = false → s.i < r.2.i)) ∧
    (∀ t ks s r, treeF.argsF E L f t ks s = some r → s.i < L.length → s.i ≤ r.2.i ∧ r.2.i < L.length ∧ r.2.n + s.i ≤ s.n + r.2.i + 1 ∧ (s.bd = true → r.2.bd = true)) := by
  intro f
  induction f with
  | zero =>
    refine ⟨?_, ?_, ?_, ?_, ?_⟩
    · intro lv s r _ h; unfold treeF at h; cases h
    · intro lv x s r _ h; unfold treeF.loopF at h; cases h
    · intro s r h; unfold treeF.aheadF at h; cases h
    · intro s r h; unfold treeF.firstF at h; cases h
    · intro t ks s r h; unfold treeF.argsF at h; cases h
  | succ f ih =>
    obtain ⟨iT, iL, iA, iF, iG⟩ := ih
    refine ⟨?_, ?_, ?_, ?_, ?_⟩
    · intro lv s r hv h hs
      rw [treeF] at h
      split at h
      · rename_i hb
        cases h
        exact ⟨Fwd.refl hs, fun e => by rw [hb] at e; cases e⟩
      · split at h
        · exact iA _ _ h hs
        · obtain ⟨r1, h1, h2⟩ := Option.bind_eq_some_iff.1 h
          obtain ⟨a1, a2⟩ := iT _ _ _ (by omega) h1 hs
          have a3 := iL _ _ _ _ hv h2 a1.lt
          refine ⟨a1.trans a3, fun e => ?_⟩
          have : r1.2.bd = false := by
            cases hc : r1.2.bd
            · rfl
            · rw [a3.bd hc] at e; cases e
          have := a2 this
          have := a3.le
          omega
    · intro lv x s r hv h hs
      rw [treeF.loopF] at h
      split at h
      · rename_i hc
        obtain ⟨r1, h1, h2⟩ := Option.bind_eq_some_iff.1 h
        obtain ⟨b1, b2⟩ := hE.on hs (by have := stg_six (L := L) (i := s.i) (by omega); omega)
        obtain ⟨a1, a2⟩ := iT _ _ _ (by omega) h1 b2
        have a3 := iL _ _ _ _ hv h2 a1.lt
        have c1 := a1.le
        have c2 := a1.nd
        have c3 := a3.le
        have c4 := a3.nd
        simp only [on_i, on_n, node_i, node_n] at c1 c2 c3 c4
        exact ⟨by omega, a3.lt, by omega, fun e => by rw [hc.1] at e; cases e⟩
      · cases h
        exact Fwd.refl hs
    · intro s r h hs
      rw [treeF.aheadF] at h
      split at h
      · rename_i hc
        obtain ⟨r1, h1, h2⟩ := Option.bind_eq_some_iff.1 h
        cases h2
        have b2 := hE.sign hc
        obtain ⟨a1, a2⟩ := iT _ _ _ (by omega) h1 b2
        have c1 := a1.le
        have c2 := a1.nd
        simp only [on_i, on_n] at c1 c2
        exact ⟨⟨by simp only [node_i]; omega, a1.lt, by simp only [node_i, node_n]; omega, a1.bd⟩, fun _ => by simp only [node_i]; omega⟩
      · exact iF _ _ h hs
    · intro s r h hs
      rw [treeF.firstF] at h
      split at h
      · rename_i hc
        obtain ⟨r1, h1, h2⟩ := Option.bind_eq_some_iff.1 h
        cases h2
        have b2 := hE.sign hc
        obtain ⟨a1, a2⟩ := iT _ _ _ (by omega) h1 b2
        have a3 := close_fwd hE a1.lt
        have c1 := a1.le
        have c2 := a1.nd
        have c3 := a3.le
        have c4 := a3.nd
        simp only [on_i, on_n] at c1 c2
        exact ⟨⟨by simp only; omega, a3.lt, by simp only; omega, fun e => a3.bd (a1.bd e)⟩, fun _ => by simp only; omega⟩
      · split at h
        · rename_i hk
          have b1 := hE _ hs (by omega)
          split at h
          · cases h
            exact ⟨⟨by simp only [node_i, on_i]; omega, b1, by simp only [node_i, node_n, on_n, on_i]; omega, id⟩, fun _ => by simp only [node_i, on_i]; omega⟩
          · split at h
            · rename_i hc
              have b2 := hE.sign hc
              split at h
              · cases h
                exact ⟨⟨by simp only [bad_i, on_i]; omega, b2, by simp only [bad_i, bad_n, on_n, on_i]; omega, fun _ => rfl⟩, fun e => by cases e⟩
              · obtain ⟨c1, c2, c3, c4⟩ := iG _ _ _ _ h b2
                simp only [on_i, on_n] at c1 c3
                exact ⟨⟨by omega, c2, by omega, c4⟩, fun _ => by omega⟩
            · cases h
              exact ⟨⟨by simp only [bad_i, on_i]; omega, b1, by simp only [bad_i, bad_n, on_n, on_i]; omega, fun _ => rfl⟩, fun e => by cases e⟩
        · cases h
          exact one_fwd hE hs
    · intro t ks s r h hs
      rw [treeF.argsF] at h
      split at h
      · cases h
        exact ⟨by simp only [node_i]; omega, hs, by simp only [node_i, node_n]; omega, id⟩
      · rename_i hb
        split at h
        · rename_i hc
          cases h
          exact ⟨by simp only [node_i, on_i]; omega, hE.sign hc, by simp only [node_i, node_n, on_n, on_i]; omega, id⟩
        · split at h
          · cases h
            exact ⟨by simp only [bad_i]; omega, hs, by simp only [bad_i, bad_n]; omega, fun _ => rfl⟩
          · rename_i hn
            obtain ⟨r1, h1, h2⟩ := Option.bind_eq_some_iff.1 h
            have hs2 : (if ks = [] then s else s.on).i < L.length ∧ s.i ≤ (if ks = [] then s else s.on).i ∧ (if ks = [] then s else s.on).n = s.n := by
              split
              · exact ⟨hs, Nat.le_refl _, rfl⟩
              · rename_i hne
                refine ⟨?_, by simp only [on_i]; omega, rfl⟩
                have : isW L s.i [44] = true := by
                  cases hw : isW L s.i [44]
                  · exact absurd ⟨hne, hw⟩ hn
                  · rfl
                exact hE.sign this
            obtain ⟨a1, _⟩ := iT _ _ _ (by omega) h1 hs2.1
            obtain ⟨c1, c2, c3, c4⟩ := iG _ _ _ _ h2 a1.lt
            simp only [argS_i, argS_n] at c1 c3
            have d1 := a1.le
            have d2 := a1.nd
            exact ⟨by omega, c2, by omega, fun e => absurd e hb⟩
end Go.Proofs.YtgheopdadfnilaaDoor
namespace Go.Proofs.YtgheopdadfnilaaDoor
set_option linter.unusedVariables false
set_option linter.unusedSimpArgs false

/-- the reference comes to an end -/
theorem total_ref (E : Env) (L : List Wd) (hE : Ends L) : ∀ (d : Nat) (s : St), L.length - s.i ≤ d → s.i < L.length → ∀ lv, 1 ≤ lv → lv ≤ 5 → ∃ f r, treeF E L f lv s = some r := by
  intro d
  induction d with
  | zero => intro s h1 h2; omega
  | succ d ih =>
    intro s hd hs
    have IH : ∀ s1 : St, s.i < s1.i → s1.i < L.length → ∀ lv, 1 ≤ lv → lv ≤ 5 → ∃ f r, treeF E L f lv s1 = some r := fun s1 h1 h2 lv h3 h4 => ih s1 (by omega) h2 lv h3 h4
    have LT : ∀ (m : Nat) (s1 : St) (x : Ex) (lv : Nat), L.length - s1.i ≤ m → s.i ≤ s1.i → s1.i < L.length → 1 ≤ lv → ∃ f r, treeF.loopF E L f lv x s1 = some r := by
      intro m
      induction m with
      | zero => intro s1 x lv h1 h2 h3 h4; omega
      | succ m ihm =>
        intro s1 x lv h1 h2 h3 h4
        by_cases hc : s1.bd = false ∧ stg L s1.i = lv
        · have b2 : s1.on.i < L.length := hE _ h3 (by have := stg_six (L := L) (i := s1.i) (by omega); omega)
          have hl := stg_le L s1.i
          obtain ⟨f, r, hf⟩ := IH s1.on (by simp only [on_i]; omega) b2 (lv + 1) (by omega) (by omega)
          have hw := ((fwd_all E L hE f).1 _ _ _ (by omega) hf b2).1
          have hle := hw.le
          simp only [on_i] at hle
          obtain ⟨g, q, hg⟩ := ihm r.2.node (binE (tAt L s1.i) x r.1) lv (by simp only [node_i]; omega) (by simp only [node_i]; omega) hw.lt h4
          refine ⟨max f g + 1, q, ?_⟩
          rw [treeF.loopF, if_pos hc]
          exact Option.bind_eq_some_iff.2 ⟨r, treeF_le hf (Nat.le_max_left _ _), loopF_le hg (Nat.le_max_right _ _)⟩
        · exact ⟨1, _, by rw [treeF.loopF, if_neg hc]⟩
    have GT : ∀ (m : Nat) (s1 : St) (t : List UInt8) (ks : List Ex), L.length - s1.i ≤ m → s.i < s1.i → s1.i < L.length → ∃ f r, treeF.argsF E L f t ks s1 = some r := by
      intro m
      induction m with
      | zero => intro s1 t ks h1 h2 h3; omega
      | succ m ihm =>
        intro s1 t ks h1 h2 h3
        by_cases hb : s1.bd = true
        · exact ⟨1, _, by rw [treeF.argsF, if_pos hb]⟩
        · by_cases h41 : isW L s1.i [41] = true
          · exact ⟨1, _, by rw [treeF.argsF, if_neg hb, if_pos h41]⟩
          · by_cases hn : ks ≠ [] ∧ isW L s1.i [44] = false
            · exact ⟨1, _, by rw [treeF.argsF, if_neg hb, if_neg h41, if_pos hn]⟩
            · have hs2 : (if ks = [] then s1 else s1.on).i < L.length ∧ s1.i ≤ (if ks = [] then s1 else s1.on).i := by
                split
                · exact ⟨h3, Nat.le_refl _⟩
                · rename_i hne
                  refine ⟨?_, by simp only [on_i]; omega⟩
                  have : isW L s1.i [44] = true := by
                    cases hw : isW L s1.i [44]
                    · exact absurd ⟨hne, hw⟩ hn
                    · rfl
                  exact hE.sign this
              obtain ⟨f, r, hf⟩ := IH (if ks = [] then s1 else s1.on) (by omega) hs2.1 1 (by omega) (by omega)
              obtain ⟨a1, a2⟩ := (fwd_all E L hE f).1 _ _ _ (by omega) hf hs2.1
              have hle := a1.le
              by_cases hr : r.2.bd = true
              · refine ⟨f + 1 + 1, (callE t (ks ++ [r.1]), (argS ks r.2).node), ?_⟩
                rw [treeF.argsF, if_neg hb, if_neg h41, if_neg hn]
                refine Option.bind_eq_some_iff.2 ⟨r, treeF_le hf (by omega), ?_⟩
                rw [treeF.argsF, if_pos (by rw [argS_bd, hr]; rfl)]
              · have := a2 (by simpa using hr)
                obtain ⟨g, q, hg⟩ := ihm (argS ks r.2) t (ks ++ [r.1]) (by simp only [argS_i]; omega) (by simp only [argS_i]; omega) a1.lt
                refine ⟨max f g + 1, q, ?_⟩
                rw [treeF.argsF, if_neg hb, if_neg h41, if_neg hn]
                exact Option.bind_eq_some_iff.2 ⟨r, treeF_le hf (Nat.le_max_left _ _), argsF_le hg (Nat.le_max_right _ _)⟩
    have FT : ∃ f r, treeF.firstF E L f s = some r := by
      by_cases h40 : isW L s.i [40] = true
      · have b2 := hE.sign h40
        obtain ⟨f, r, hf⟩ := IH s.on (by simp only [on_i]; omega) b2 1 (by omega) (by omega)
        exact ⟨f + 1, _, by rw [treeF.firstF, if_pos h40]; exact Option.bind_eq_some_iff.2 ⟨r, hf, rfl⟩⟩
      · by_cases hk : kAt L s.i = 4
        · by_cases ht : tAt L s.i = truW ∨ tAt L s.i = flsW
          · exact ⟨1, _, by rw [treeF.firstF, if_neg h40, if_pos hk, if_pos ht]⟩
          · by_cases hc : isW L (s.i + 1) [40] = true
            · by_cases hl : 20 < (tAt L s.i).length
              · exact ⟨1, _, by rw [treeF.firstF, if_neg h40, if_pos hk, if_neg ht, if_pos hc, if_pos hl]⟩
              · have b2 := hE.sign hc
                obtain ⟨f, r, hf⟩ := GT L.length s.on.on (tAt L s.i) [] (by omega) (by simp only [on_i]; omega) b2
                exact ⟨f + 1, r, by rw [treeF.firstF, if_neg h40, if_pos hk, if_neg ht, if_pos hc, if_neg hl]; exact hf⟩
            · exact ⟨1, _, by rw [treeF.firstF, if_neg h40, if_pos hk, if_neg ht, if_neg hc]⟩
        · exact ⟨1, _, by rw [treeF.firstF, if_neg h40, if_neg hk]⟩
    have AT : ∃ f r, treeF.aheadF E L f s = some r := by
      by_cases h45 : isW L s.i [45] = true
      · have b2 := hE.sign h45
        obtain ⟨f, r, hf⟩ := IH s.on (by simp only [on_i]; omega) b2 5 (by omega) (by omega)
        exact ⟨f + 1, _, by rw [treeF.aheadF, if_pos h45]; exact Option.bind_eq_some_iff.2 ⟨r, hf, rfl⟩⟩
      · obtain ⟨f, r, hf⟩ := FT
        exact ⟨f + 1, r, by rw [treeF.aheadF, if_neg h45]; exact hf⟩
    by_cases hb : s.bd = true
    · intro lv _ _
      exact ⟨1, _, by rw [treeF, if_pos hb]⟩
    · have T5 : ∃ f r, treeF E L f 5 s = some r := by
        obtain ⟨f, r, hf⟩ := AT
        exact ⟨f + 1, r, by rw [treeF, if_neg hb, if_pos rfl]; exact hf⟩
      have TS : ∀ lv, 1 ≤ lv → lv < 5 → (∃ f r, treeF E L f (lv + 1) s = some r) → ∃ f r, treeF E L f lv s = some r := by
        intro lv h1 h2 ⟨f, r, hf⟩
        obtain ⟨a1, _⟩ := (fwd_all E L hE f).1 _ _ _ (by omega) hf hs
        obtain ⟨g, q, hg⟩ := LT L.length r.2 r.1 lv (by omega) a1.le a1.lt h1
        refine ⟨max f g + 1, q, ?_⟩
        rw [treeF, if_neg hb, if_neg (by omega)]
        exact Option.bind_eq_some_iff.2 ⟨r, treeF_le hf (Nat.le_max_left _ _), loopF_le hg (Nat.le_max_right _ _)⟩
      have T4 := TS 4 (by omega) (by omega) T5
      have T3 := TS 3 (by omega) (by omega) T4
      have T2 := TS 2 (by omega) (by omega) T3
      have T1 := TS 1 (by omega) (by omega) T2
      intro lv h1 h2
      have : lv = 1 ∨ lv = 2 ∨ lv = 3 ∨ lv = 4 ∨ lv = 5 := by omega
      rcases this with rfl | rfl | rfl | rfl | rfl
      · exact T1
      · exact T2
      · exact T3
      · exact T4
      · exact T5
end Go.Proofs.YtgheopdadfnilaaDoor
namespace Go.Proofs.YtgheopdadfnilaaDoor
set_option linter.unusedVariables false
set_option linter.unusedSimpArgs false

/-- how many nodes a tree has -/
def nodes : Ex → Nat
  | .mk _ _ _ _ _ _ ks => 1 + nodesL ks
  where
  nodesL : List Ex → Nat
  | [] => 0
  | x :: xs => nodes x + nodesL xs
theorem nodesL_snoc (ks : List Ex) (x : Ex) : nodes.nodesL (ks ++ [x]) = nodes.nodesL ks + nodes x := by
  induction ks with
  | nil => simp [nodes.nodesL]
  | cons y ys ih => rw [List.cons_append, nodes.nodesL, nodes.nodesL, ih]; omega
theorem nodes_leaf (k n : Int) (t : List UInt8) (b : Bool) (e : Int) (rs : List Rf) : nodes (.mk k n t b e rs []) = 1 := by simp [nodes, nodes.nodesL]
theorem nodes_neg (x : Ex) : nodes (negE x) = nodes x + 1 := by simp [negE, nodes, nodes.nodesL]; omega
theorem nodes_bin (t : List UInt8) (x y : Ex) : nodes (binE t x y) = nodes x + nodes y + 1 := by simp [binE, nodes, nodes.nodesL]; omega
theorem nodes_call (t : List UInt8) (ks : List Ex) : nodes (callE t ks) = nodes.nodesL ks + 1 := by simp [callE, nodes]; omega
/-- what lies in the words -/
structure Good (E : Env) (L : List Wd) : Prop where
  num : ∀ i, i < L.length → kAt L i = 1 → E.nok (tAt L i) = true
  ref : ∀ i, i < L.length → kAt L i = 3 → E.rok (tAt L i) = true
  err : ∀ i, i < L.length → kAt L i = 5 → E.err (tAt L i) ≠ 0
  nam : ∀ i, i < L.length → kAt L i = 4 → tAt L i = truW ∨ tAt L i = flsW ∨ E.nam (tAt L i) = decide ((tAt L i).length ≤ 20)
/-- both say the same -/
def Ag (c : Nat) (r : Ex × St) : Option (Ex × Nat) → Prop
  | none => r.2.bd = true
  | some (x, j) => r.1 = x ∧ r.2.i = j ∧ r.2.bd = false ∧ r.2.n = c + nodes x
theorem loop_post {E : Env} {L : List Wd} : ∀ {g lv : Nat} {x y : Ex} {j k : Nat}, ptF.plF E L g lv x j = some (some (y, k)) → stg L k < lv := by
  intro g
  induction g with
  | zero => intro lv x y j k h; unfold ptF.plF at h; cases h
  | succ g ih =>
    intro lv x y j k h
    rw [ptF.plF] at h
    split at h
    · obtain ⟨o, h1, h2⟩ := Option.bind_eq_some_iff.1 h
      cases o with
      | none => cases h2
      | some r => exact ih h2
    · cases h
      omega
theorem tree_post {E : Env} {L : List Wd} {g lv i : Nat} {y : Ex} {k : Nat} (h : ptF E L g lv i = some (some (y, k))) : stg L k < lv := by
  cases g with
  | zero => unfold ptF at h; cases h
  | succ g =>
    rw [ptF] at h
    obtain ⟨o, h1, h2⟩ := Option.bind_eq_some_iff.1 h
    cases o with
    | none => cases h2
    | some r => exact loop_post h2
/-- a loop goes on where the stronger one stopped -/
theorem loop_split {E : Env} {L : List Wd} : ∀ {g lv : Nat} {x : Ex} {j : Nat} {o : Option (Ex × Nat)}, ptF.plF E L g (lv + 1) x j = some o →
    (o = none → ∃ g', ptF.plF E L g' lv x j = some none) ∧ (∀ y k q g2, o = some (y, k) → ptF.plF E L g2 lv y k = some q → ∃ g', ptF.plF E L g' lv x j = some q) := by
  intro g
  induction g with
  | zero => intro lv x j o h; unfold ptF.plF at h; cases h
  | succ g ih =>
    intro lv x j o h
    rw [ptF.plF] at h
    split at h
    · rename_i hc
      obtain ⟨o1, h1, h2⟩ := Option.bind_eq_some_iff.1 h
      cases o1 with
      | none =>
        cases h2
        refine ⟨fun _ => ⟨g + 1, ?_⟩, fun y k q g2 e => by cases e⟩
        rw [ptF.plF, if_pos (by omega)]
        exact Option.bind_eq_some_iff.2 ⟨none, h1, rfl⟩
      | some r =>
        obtain ⟨a1, a2⟩ := ih h2
        refine ⟨fun e => ?_, fun y k q g2 e hq => ?_⟩
        · obtain ⟨g', hg⟩ := a1 e
          refine ⟨max g g' + 1, ?_⟩
          rw [ptF.plF, if_pos (by omega)]
          exact Option.bind_eq_some_iff.2 ⟨some r, ptF_le h1 (Nat.le_max_left _ _), plF_le hg (Nat.le_max_right _ _)⟩
        · obtain ⟨g', hg⟩ := a2 y k q g2 e hq
          refine ⟨max g g' + 1, ?_⟩
          rw [ptF.plF, if_pos (by omega)]
          exact Option.bind_eq_some_iff.2 ⟨some r, ptF_le h1 (Nat.le_max_left _ _), plF_le hg (Nat.le_max_right _ _)⟩
    · cases h
      refine ⟨(fun e => by cases e), fun y k q g2 e hq => ?_⟩
      cases e
      exact ⟨g2, hq⟩
theorem ag_some {c : Nat} {r : Ex × St} {x : Ex} {j : Nat} (h1 : r.1 = x) (h2 : r.2.i = j) (h3 : r.2.bd = false) (h4 : r.2.n = c + nodes x) : Ag c r (some (x, j)) := ⟨h1, h2, h3, h4⟩
theorem ag_none {c : Nat} {r : Ex × St} (h : r.2.bd = true) : Ag c r none := h
theorem one_same {E : Env} {L : List Wd} (hG : Good E L) {s : St} (hs : s.i < L.length) (hb : s.bd = false) : Ag s.n (oneF E L s) (poneF E L s.i) := by
  unfold oneF poneF
  by_cases k1 : kAt L s.i = 1
  · rw [if_pos k1, if_pos k1, if_pos (hG.num _ hs k1)]
    exact ag_some rfl rfl hb (by rw [numE, nodes_leaf]; rfl)
  · rw [if_neg k1, if_neg k1]
    by_cases k2 : kAt L s.i = 2
    · rw [if_pos k2, if_pos k2]
      exact ag_some rfl rfl hb (by rw [textE, nodes_leaf]; rfl)
    · rw [if_neg k2, if_neg k2]
      by_cases k5 : kAt L s.i = 5
      · rw [if_pos k5, if_pos k5, if_neg (hG.err _ hs k5)]
        exact ag_some rfl rfl hb (by rw [errE, nodes_leaf]; rfl)
      · rw [if_neg k5, if_neg k5]
        by_cases k3 : kAt L s.i = 3
        · rw [if_pos k3, if_pos k3, if_neg (show ¬ E.rok (tAt L s.i) = false by rw [hG.ref _ hs k3]; simp)]
          by_cases hc : isW L (s.i + 1) [58] = true
          · rw [if_pos hc, if_pos hc]
            by_cases hr : kAt L (s.i + 2) = 3 ∧ E.rok (tAt L (s.i + 2)) = true ∧ (E.ref (tAt L (s.i + 2))).1 = []
            · rw [if_pos hr, if_pos hr]
              exact ag_some rfl rfl hb (by rw [rangeE, nodes_leaf]; rfl)
            · rw [if_neg hr, if_neg hr]
              exact ag_none rfl
          · rw [if_neg hc, if_neg hc]
            exact ag_some rfl rfl hb (by rw [refE, nodes_leaf]; rfl)
        · rw [if_neg k3, if_neg k3]
          exact ag_none rfl
/-- what follows an argument -/
def contF (E : Env) (L : List Wd) (g : Nat) (t : List UInt8) (ks : List Ex) (j : Nat) : Option (Option (Ex × Nat)) :=
  if isW L j [44] then ptF.pgF E L g t ks (j + 1) else some (if isW L j [41] then some (callE t ks, j + 1) else none)
theorem isW_one {L : List Wd} {i : Nat} {s t : List UInt8} (h : isW L i s = true) (hn : s ≠ t) : isW L i t = false := by
  cases hw : isW L i t
  · rfl
  · exact absurd ((isW_six h).2.2.symm.trans (isW_six hw).2.2) hn
theorem stg_sign {L : List Wd} {i : Nat} {s : List UInt8} (h : isW L i s = true) : stg L i = lvl s := by
  obtain ⟨_, h2, h3⟩ := isW_six h
  unfold stg
  rw [if_pos h2, h3]
theorem pt_five {E : Env} {L : List Wd} {g i : Nat} {o : Option (Ex × Nat)} (h : ptF E L g 5 i = some o) : ∃ g', ptF.paF E L g' i = some o := by
  cases g with
  | zero => unfold ptF at h; cases h
  | succ g =>
    rw [ptF] at h
    obtain ⟨o1, h1, h2⟩ := Option.bind_eq_some_iff.1 h
    refine ⟨g, ?_⟩
    cases o1 with
    | none => cases h2; exact h1
    | some r =>
      have hl := stg_le L r.2
      cases g with
      | zero => unfold ptF.plF at h2; cases h2
      | succ g =>
        simp only at h2
        rw [ptF.plF, if_neg (by omega)] at h2
        cases h2
        exact h1
/-- the program reads what the reference reads -/
theorem same_all (E : Env) (L : List Wd) (hE : Ends L) (hG : Good E L) : ∀ f : Nat,
    (∀ lv s r, 1 ≤ lv → lv ≤ 5 → s.i < L.length → s.bd = false → treeF E L f lv s = some r → ∃ g o, ptF E L g lv s.i = some o ∧ Ag s.n r o) ∧
    (∀ lv x s r c, 1 ≤ lv → s.i < L.length → s.bd = false → stg L s.i ≤ lv → s.n = c + nodes x → treeF.loopF E L f lv x s = some r → ∃ g o, ptF.plF E L g lv x s.i = some o ∧ Ag c r o) ∧
    (∀ s r, s.i < L.length → s.bd = false → treeF.aheadF E L f s = some r → ∃ g o, ptF.paF E L g s.i = some o ∧ Ag s.n r o) ∧
    (∀ s r, s.i < L.length → s.bd = false → treeF.firstF E L f s = some r → ∃ g o, ptF.pfF E L g s.i = some o ∧ Ag s.n r o) ∧
    (∀ t ks s r c, s.i < L.length → s.bd = false → ks ≠ [] → ks.length ≤ 30 → s.n = c + nodes.nodesL ks → treeF.argsF E L f t ks s = some r → ∃ g o, contF E L g t ks s.i = some o ∧ Ag c r o) := by
  intro f
  induction f with
  | zero =>
    refine ⟨?_, ?_, ?_, ?_, ?_⟩
    · intro lv s r _ _ _ _ h; unfold treeF at h; cases h
    · intro lv x s r c _ _ _ _ _ h; unfold treeF.loopF at h; cases h
    · intro s r _ _ h; unfold treeF.aheadF at h; cases h
    · intro s r _ _ h; unfold treeF.firstF at h; cases h
    · intro t ks s r c _ _ _ _ _ h; unfold treeF.argsF at h; cases h
  | succ f ih =>
    obtain ⟨iT, iL, iA, iF, iG⟩ := ih
    refine ⟨?_, ?_, ?_, ?_, ?_⟩
    · intro lv s r hv hv5 hs hb h
      rw [treeF, if_neg (by rw [hb]; simp)] at h
      split at h
      · rename_i e5
        subst e5
        obtain ⟨g, o, h1, h2⟩ := iA _ _ hs hb h
        cases o with
        | none => exact ⟨g + 1, none, by rw [ptF]; exact Option.bind_eq_some_iff.2 ⟨none, h1, rfl⟩, h2⟩
        | some q =>
          refine ⟨g + 1 + 1, some q, ?_, h2⟩
          rw [ptF]
          refine Option.bind_eq_some_iff.2 ⟨some q, paF_le h1 (by omega), ?_⟩
          have hl := stg_le L q.2
          simp only
          rw [ptF.plF, if_neg (by omega)]
      · rename_i hn5
        obtain ⟨r1, h1, h2⟩ := Option.bind_eq_some_iff.1 h
        obtain ⟨g, o, h3, h4⟩ := iT _ _ _ (by omega) (by omega) hs hb h1
        have hw := ((fwd_all E L hE f).1 _ _ _ (by omega) h1 hs).1
        -- the program's tree at the next level
        cases g with
        | zero => unfold ptF at h3; cases h3
        | succ g =>
          rw [ptF] at h3
          obtain ⟨oa, h5, h6⟩ := Option.bind_eq_some_iff.1 h3
          cases oa with
          | none =>
            cases h6
            have hbd : r1.2.bd = true := h4
            have e : r = (r1.1, r1.2) := by
              cases f with
              | zero => unfold treeF.loopF at h2; cases h2
              | succ f => rw [treeF.loopF, if_neg (by rw [hbd]; simp)] at h2; exact (Option.some.inj h2).symm
            refine ⟨g + 1, none, by rw [ptF]; exact Option.bind_eq_some_iff.2 ⟨none, h5, rfl⟩, ?_⟩
            rw [e]
            exact hbd
          | some q =>
            simp only at h6
            obtain ⟨b1, b2⟩ := loop_split h6
            cases o with
            | none =>
              have hbd : r1.2.bd = true := h4
              have e : r = (r1.1, r1.2) := by
                cases f with
                | zero => unfold treeF.loopF at h2; cases h2
                | succ f => rw [treeF.loopF, if_neg (by rw [hbd]; simp)] at h2; exact (Option.some.inj h2).symm
              obtain ⟨g', hg⟩ := b1 rfl
              refine ⟨max g g' + 1, none, ?_, by rw [e]; exact hbd⟩
              rw [ptF]
              exact Option.bind_eq_some_iff.2 ⟨some q, paF_le h5 (Nat.le_max_left _ _), plF_le hg (Nat.le_max_right _ _)⟩
            | some yk =>
              obtain ⟨y, k⟩ := yk
              obtain ⟨c1, c2, c3, c4⟩ := h4
              have hp := loop_post h6
              obtain ⟨g2, o2, h7, h8⟩ := iL lv r1.1 r1.2 r s.n hv hw.lt c3 (by rw [c2]; omega) (by rw [c1]; exact c4) h2
              rw [c1, c2] at h7
              obtain ⟨g', hg⟩ := b2 y k o2 g2 rfl h7
              refine ⟨max g g' + 1, o2, ?_, h8⟩
              rw [ptF]
              exact Option.bind_eq_some_iff.2 ⟨some q, paF_le h5 (Nat.le_max_left _ _), plF_le hg (Nat.le_max_right _ _)⟩
    · intro lv x s r c hv hs hb hst hn h
      rw [treeF.loopF] at h
      split at h
      · rename_i hc
        obtain ⟨r1, h1, h2⟩ := Option.bind_eq_some_iff.1 h
        have hs2 : s.on.i < L.length := hE _ hs (by have := stg_six (L := L) (i := s.i) (by omega); omega)
        have hl := stg_le L s.i
        obtain ⟨g, o, h3, h4⟩ := iT _ _ _ (by omega) (by omega) hs2 hb h1
        have hw := ((fwd_all E L hE f).1 _ _ _ (by omega) h1 hs2).1
        simp only [on_i] at h3
        have e1 : stg L s.i + 1 = lv + 1 := by omega
        cases o with
        | none =>
          have hbd : r1.2.bd = true := h4
          have e : r = (binE (tAt L s.i) x r1.1, r1.2.node) := by
            cases f with
            | zero => unfold treeF.loopF at h2; cases h2
            | succ f => rw [treeF.loopF, if_neg (by rw [node_bd, hbd]; simp)] at h2; exact (Option.some.inj h2).symm
          refine ⟨g + 1, none, ?_, by rw [e]; exact hbd⟩
          rw [ptF.plF, if_pos (by omega), e1]
          exact Option.bind_eq_some_iff.2 ⟨none, h3, rfl⟩
        | some yk =>
          obtain ⟨y, k⟩ := yk
          obtain ⟨c1, c2, c3, c4⟩ := h4
          have hp := tree_post h3
          obtain ⟨g2, o2, h7, h8⟩ := iL lv _ r1.2.node r c hv hw.lt c3 (by rw [node_i, c2]; omega) (by rw [node_n, c4, nodes_bin, c1, on_n, hn]; omega) h2
          simp only [node_i] at h7
          rw [c1, c2] at h7
          refine ⟨max g g2 + 1, o2, ?_, h8⟩
          rw [ptF.plF, if_pos (by omega), e1]
          exact Option.bind_eq_some_iff.2 ⟨some (y, k), ptF_le h3 (Nat.le_max_left _ _), plF_le h7 (Nat.le_max_right _ _)⟩
      · rename_i hc
        cases h
        have : stg L s.i ≠ lv := fun e => hc ⟨hb, e⟩
        exact ⟨1, some (x, s.i), by rw [ptF.plF, if_neg (by omega)], rfl, rfl, hb, hn⟩
    · intro s r hs hb h
      rw [treeF.aheadF] at h
      split at h
      · rename_i hc
        obtain ⟨r1, h1, h2⟩ := Option.bind_eq_some_iff.1 h
        cases h2
        have hs2 : s.on.i < L.length := hE.sign hc
        obtain ⟨g, o, h3, h4⟩ := iT _ _ _ (by omega) (by omega) hs2 hb h1
        obtain ⟨g', h5⟩ := pt_five h3
        simp only [on_i] at h5
        cases o with
        | none => exact ⟨g' + 1, none, by rw [ptF.paF, if_pos hc]; exact Option.bind_eq_some_iff.2 ⟨none, h5, rfl⟩, h4⟩
        | some yk =>
          obtain ⟨y, k⟩ := yk
          obtain ⟨c1, c2, c3, c4⟩ := h4
          refine ⟨g' + 1, some (negE y, k), by rw [ptF.paF, if_pos hc]; exact Option.bind_eq_some_iff.2 ⟨some (y, k), h5, rfl⟩, by simp only [c1], c2, c3, ?_⟩
          rw [nodes_neg]
          simp only [node_n, c4, on_n]
          omega
      · rename_i hc
        obtain ⟨g, o, h1, h2⟩ := iF _ _ hs hb h
        exact ⟨g + 1, o, by rw [ptF.paF, if_neg hc]; exact h1, h2⟩
    · intro s r hs hb h
      rw [treeF.firstF] at h
      split at h
      · rename_i hc
        obtain ⟨r1, h1, h2⟩ := Option.bind_eq_some_iff.1 h
        cases h2
        have hs2 : s.on.i < L.length := hE.sign hc
        obtain ⟨g, o, h3, h4⟩ := iT _ _ _ (by omega) (by omega) hs2 hb h1
        simp only [on_i] at h3
        cases o with
        | none => exact ⟨g + 1, none, by rw [ptF.pfF, if_pos hc]; exact Option.bind_eq_some_iff.2 ⟨none, h3, rfl⟩, close_bd h4⟩
        | some yk =>
          obtain ⟨y, k⟩ := yk
          obtain ⟨c1, c2, c3, c4⟩ := h4
          refine ⟨g + 1, if isW L k [41] then some (y, k + 1) else none, by rw [ptF.pfF, if_pos hc]; exact Option.bind_eq_some_iff.2 ⟨some (y, k), h3, rfl⟩, ?_⟩
          unfold closeS
          rw [if_neg (by rw [c3]; simp), c2]
          split
          · exact ⟨c1, by simp only [on_i, c2], c3, by simp only [on_n]; exact c4⟩
          · rfl
      · rename_i hc
        split at h
        · rename_i hk
          split at h
          · rename_i ht
            cases h
            exact ⟨1, some (boolE (decide (tAt L s.i = truW)), s.i + 1), by rw [ptF.pfF, if_neg hc, if_pos hk, if_pos ht], ag_some rfl rfl hb (by rw [boolE, nodes_leaf]; rfl)⟩
          · rename_i ht
            have hnam : E.nam (tAt L s.i) = decide ((tAt L s.i).length ≤ 20) := by
              rcases hG.nam _ hs hk with e | e | e
              · exact absurd (.inl e) ht
              · exact absurd (.inr e) ht
              · exact e
            split at h
            · rename_i h40
              have hs3 : s.on.on.i < L.length := hE.sign h40
              split at h
              · rename_i hl
                cases h
                refine ⟨1, none, ?_, rfl⟩
                rw [ptF.pfF, if_neg hc, if_pos hk, if_neg ht, if_neg]
                rintro ⟨e, _⟩
                rw [hnam] at e
                simp at e
                omega
              · rename_i hl
                have hy : E.nam (tAt L s.i) = true ∧ isW L (s.i + 1) [40] = true := ⟨by rw [hnam]; simp; omega, h40⟩
                cases f with
                | zero => unfold treeF.argsF at h; cases h
                | succ f =>
                  by_cases h41 : isW L (s.i + 2) [41] = true
                  · rw [treeF.argsF, if_neg (by rw [on_bd, on_bd, hb]; simp), if_pos (show isW L s.on.on.i [41] = true from h41)] at h
                    cases h
                    exact ⟨1, some (callE (tAt L s.i) [], s.i + 3), by rw [ptF.pfF, if_neg hc, if_pos hk, if_neg ht, if_pos hy, if_pos h41], ag_some rfl rfl hb (by rw [nodes_call, nodes.nodesL]; rfl)⟩
                  · rw [treeF.argsF, if_neg (by rw [on_bd, on_bd, hb]; simp), if_neg (show ¬ isW L s.on.on.i [41] = true from h41), if_neg (by simp), if_pos rfl] at h
                    obtain ⟨r1, h1, h2⟩ := Option.bind_eq_some_iff.1 h
                    obtain ⟨g, o, h3, h4⟩ := iT _ _ _ (by omega) (by omega) hs3 hb ((mono_ref E L _).1 _ _ _ h1)
                    have hw := ((fwd_all E L hE f).1 _ _ _ (by omega) h1 hs3).1
                    simp only [on_i] at h3
                    cases o with
                    | none =>
                      have hbd : r1.2.bd = true := h4
                      refine ⟨g + 1 + 1, none, ?_, ?_⟩
                      · rw [ptF.pfF, if_neg hc, if_pos hk, if_neg ht, if_pos hy, if_neg h41, ptF.pgF, if_pos (by simp)]
                        exact Option.bind_eq_some_iff.2 ⟨none, h3, rfl⟩
                      · cases f with
                        | zero => unfold treeF.argsF at h2; cases h2
                        | succ f =>
                          rw [treeF.argsF, if_pos (by rw [argS_bd, hbd]; rfl)] at h2
                          cases h2
                          show (argS [] r1.2).bd = true
                          rw [argS_bd, hbd]
                          rfl
                    | some yk =>
                      obtain ⟨y, k⟩ := yk
                      obtain ⟨c1, c2, c3, c4⟩ := h4
                      obtain ⟨g2, o2, h7, h8⟩ := iG _ _ (argS [] r1.2) r s.n hw.lt (by rw [argS_bd, c3]; rfl) (by simp) (by simp) (by rw [argS_n, c4, List.nil_append, nodes.nodesL, nodes.nodesL, c1]; rfl) ((mono_ref E L _).2.2.2.2 _ _ _ _ h2)
                      simp only [argS_i] at h7
                      rw [c1, c2] at h7
                      refine ⟨max g g2 + 1 + 1, o2, ?_, h8⟩
                      rw [ptF.pfF, if_neg hc, if_pos hk, if_neg ht, if_pos hy, if_neg h41, ptF.pgF, if_pos (by simp)]
                      refine Option.bind_eq_some_iff.2 ⟨some (y, k), ptF_le h3 (Nat.le_max_left _ _), ?_⟩
                      unfold contF at h7
                      simp only
                      (revert h7; split <;> intro h7)
                      · exact pgF_le h7 (Nat.le_max_right _ _)
                      · exact h7
            · rename_i h40
              cases h
              exact ⟨1, none, by rw [ptF.pfF, if_neg hc, if_pos hk, if_neg ht, if_neg (fun e => h40 e.2)], rfl⟩
        · rename_i hk
          cases h
          exact ⟨1, _, by rw [ptF.pfF, if_neg hc, if_neg hk], one_same hG hs hb⟩
    · intro t ks s r c hs hb hne hlen hn h
      rw [treeF.argsF, if_neg (by rw [hb]; simp)] at h
      split at h
      · rename_i h41
        cases h
        refine ⟨0, some (callE t ks, s.i + 1), ?_, rfl, rfl, hb, by rw [nodes_call]; simp only [node_n, on_n, hn]; omega⟩
        unfold contF
        rw [isW_one h41 (by simp), if_neg (by simp), if_pos h41]
      · rename_i h41
        split at h
        · rename_i h44
          cases h
          refine ⟨0, none, ?_, rfl⟩
          unfold contF
          rw [h44.2, if_neg (by simp), if_neg h41]
        · rename_i h44
          have w44 : isW L s.i [44] = true := by
            cases hw : isW L s.i [44]
            · exact absurd ⟨hne, hw⟩ h44
            · rfl
          have hs2 : s.on.i < L.length := hE.sign w44
          obtain ⟨r1, h1, h2⟩ := Option.bind_eq_some_iff.1 h
          obtain ⟨g, o, h3, h4⟩ := iT _ _ _ (by omega) (by omega) hs2 hb h1
          have hw := ((fwd_all E L hE f).1 _ _ _ (by omega) h1 hs2).1
          simp only [on_i] at h3
          have stop : (argS ks r1.2).bd = true → r.2.bd = true := by
            intro hbd
            cases f with
            | zero => unfold treeF.argsF at h2; cases h2
            | succ f =>
              rw [treeF.argsF, if_pos hbd] at h2
              cases h2
              exact hbd
          by_cases hl : ks.length < 30
          · cases o with
            | none =>
              refine ⟨g + 1, none, ?_, stop (by rw [argS_bd]; show (r1.2.bd || _) = true; rw [show r1.2.bd = true from h4]; rfl)⟩
              unfold contF
              rw [if_pos w44, ptF.pgF, if_pos hl]
              exact Option.bind_eq_some_iff.2 ⟨none, h3, rfl⟩
            | some yk =>
              obtain ⟨y, k⟩ := yk
              obtain ⟨c1, c2, c3, c4⟩ := h4
              obtain ⟨g2, o2, h7, h8⟩ := iG _ _ (argS ks r1.2) r c hw.lt (by rw [argS_bd, c3]; simp; omega) (by simp) (by simp; omega) (by rw [argS_n, c4, nodesL_snoc, c1, on_n, hn]; omega) h2
              simp only [argS_i] at h7
              rw [c1, c2] at h7
              refine ⟨max g g2 + 1, o2, ?_, h8⟩
              unfold contF
              rw [if_pos w44, ptF.pgF, if_pos hl]
              refine Option.bind_eq_some_iff.2 ⟨some (y, k), ptF_le h3 (Nat.le_max_left _ _), ?_⟩
              unfold contF at h7
              simp only
              (revert h7; split <;> intro h7)
              · exact pgF_le h7 (Nat.le_max_right _ _)
              · exact h7
          · refine ⟨1, none, ?_, stop (by rw [argS_bd]; simp; exact .inr (by omega))⟩
            unfold contF
            rw [if_pos w44, ptF.pgF, if_neg hl]
end Go.Proofs.YtgheopdadfnilaaDoor
namespace Go.Proofs.YtgheopdadfnilaaDoor
open Go.RowKit
set_option linter.unusedVariables false
set_option linter.unusedSimpArgs false


/-- a reference as it lies in cells -/
def rf (x : Rf) : List Value := [.string ⟨x.1.toArray⟩, .int .i64 x.2.1, .int .i64 x.2.2.1, .bool x.2.2.2.1, .bool x.2.2.2.2]
theorem rf_len (x : Rf) : (rf x).length = 5 := rfl
/-- a block of plain cells -/
def Pl (W : World) (b : Nat) : Prop := ∃ c t, W.heap[b]? = some (.cells c t (0, 0))
theorem Pl.lt {W : World} {b : Nat} (h : Pl W b) : b < W.heap.size := by
  obtain ⟨c, t, h⟩ := h
  rcases Nat.lt_or_ge b W.heap.size with h' | h'
  · exact h'
  · rw [Array.getElem?_eq_none h'] at h; cases h
theorem Pl.on {W W' : World} {b : Nat} (h : Pl W b) (q : Q W W') : Pl W' b := by
  have hb := h.lt
  obtain ⟨c, t, h⟩ := h
  exact ⟨c, t, (Q.block q hb).trans h⟩
theorem pl_new (W : World) (c : Array Value) (t : TypeId) : Pl (W.alloc (.cells c t)) W.heap.size := ⟨c, t, by show (W.heap.push _)[W.heap.size]? = _; simp⟩
/-- a value that reads as a tree -/
def Rd (W : World) : Ex → Value → Prop
  | .mk k n t b e rs ks, v => ∃ rv kv, v = .agg #[.int .i64 k, .int .i64 n, .string ⟨t.toArray⟩, .bool b, .int .i64 e, rv, kv] ∧ Sl rf 5 W rv rs ∧
      ∃ (ao : Option Addr) (cap : Nat), kv = .slice ao ks.length cap ∧ ks.length ≤ cap ∧ cap ≤ maxLen ∧ (ks ≠ [] → ∃ b' off, ao = some ⟨b', off, none⟩ ∧ Pl W b' ∧ RdL W ks b' off)
  where
  RdL (W : World) : List Ex → Nat → Nat → Prop
  | [], _, _ => True
  | x :: xs, b, off => (∃ c0 c1 c2 c3 c4 c5 c6, W.cell? ⟨b, off, none⟩ = some c0 ∧ W.cell? ⟨b, off + 1, none⟩ = some c1 ∧ W.cell? ⟨b, off + 2, none⟩ = some c2 ∧ W.cell? ⟨b, off + 3, none⟩ = some c3 ∧ W.cell? ⟨b, off + 4, none⟩ = some c4 ∧ W.cell? ⟨b, off + 5, none⟩ = some c5 ∧ W.cell? ⟨b, off + 6, none⟩ = some c6 ∧ Rd W x (.agg #[c0, c1, c2, c3, c4, c5, c6])) ∧ RdL W xs b (off + 7)
theorem Rd.on {W W' : World} (q : Q W W') : ∀ (x : Ex) (v : Value), Rd W x v → Rd W' x v
  | .mk k n t b e rs ks, v, h => by
    unfold Rd at h ⊢
    obtain ⟨rv, kv, hv, hr, ao, cap, hk, h1, h2, h3⟩ := h
    refine ⟨rv, kv, hv, hr.on q, ao, cap, hk, h1, h2, fun hn => ?_⟩
    obtain ⟨b', off, ha, hp, hl⟩ := h3 hn
    exact ⟨b', off, ha, hp.on q, go q ks b' off hl⟩
  where
  go {W W' : World} (q : Q W W') : ∀ (l : List Ex) (b off : Nat), Rd.RdL W l b off → Rd.RdL W' l b off
  | [], _, _, _ => by unfold Rd.RdL; trivial
  | x :: xs, b, off, h => by
    unfold Rd.RdL at h ⊢
    obtain ⟨⟨c0, c1, c2, c3, c4, c5, c6, g0, g1, g2, g3, g4, g5, g6, hx⟩, hr⟩ := h
    have ce : ∀ {o : Nat} {c : Value}, W.cell? ⟨b, o, none⟩ = some c → W'.cell? ⟨b, o, none⟩ = some c := fun h => (q.cell (World.block_lt_of_cell? W ⟨b, _, none⟩ h)).trans h
    exact ⟨⟨c0, c1, c2, c3, c4, c5, c6, ce g0, ce g1, ce g2, ce g3, ce g4, ce g5, ce g6, Rd.on q x _ hx⟩, go q xs b (off + 7) hr⟩
theorem Rd.RdL.on {W W' : World} (q : Q W W') : ∀ (l : List Ex) (b off : Nat), Rd.RdL W l b off → Rd.RdL W' l b off := Rd.on.go q
end Go.Proofs.YtgheopdadfnilaaDoor
namespace Go.Proofs.YtgheopdadfnilaaDoor
open Go.RowKit
set_option linter.unusedVariables false
set_option linter.unusedSimpArgs false


/-- the cells of one tree in a row -/
structure Kid (W : World) (x : Ex) (b off : Nat) (c0 c1 c2 c3 c4 c5 c6 : Value) : Prop where
  g0 : W.cell? ⟨b, off, none⟩ = some c0
  g1 : W.cell? ⟨b, off + 1, none⟩ = some c1
  g2 : W.cell? ⟨b, off + 2, none⟩ = some c2
  g3 : W.cell? ⟨b, off + 3, none⟩ = some c3
  g4 : W.cell? ⟨b, off + 4, none⟩ = some c4
  g5 : W.cell? ⟨b, off + 5, none⟩ = some c5
  g6 : W.cell? ⟨b, off + 6, none⟩ = some c6
  rd : Rd W x (.agg #[c0, c1, c2, c3, c4, c5, c6])
theorem Rd.RdL.kid {W : World} : ∀ {ks : List Ex} {b off : Nat}, Rd.RdL W ks b off → ∀ i (h : i < ks.length), ∃ c0 c1 c2 c3 c4 c5 c6, Kid W ks[i] b (off + i * 7) c0 c1 c2 c3 c4 c5 c6
  | [], _, _, _, i, h => absurd h (by simp)
  | x :: xs, b, off, hr, i, h => by
    unfold Rd.RdL at hr
    obtain ⟨⟨c0, c1, c2, c3, c4, c5, c6, g0, g1, g2, g3, g4, g5, g6, hx⟩, hr⟩ := hr
    cases i with
    | zero => exact ⟨c0, c1, c2, c3, c4, c5, c6, by simpa using g0, by simpa using g1, by simpa using g2, by simpa using g3, by simpa using g4, by simpa using g5, by simpa using g6, hx⟩
    | succ i =>
      obtain ⟨c0, c1, c2, c3, c4, c5, c6, hk⟩ := Rd.RdL.kid hr i (by simpa using h)
      rw [show off + 7 + i * 7 = off + (i + 1) * 7 by omega] at hk
      exact ⟨c0, c1, c2, c3, c4, c5, c6, hk⟩
/-- what a tree's value is made of -/
structure Prt (W : World) (x : Ex) (k n : Int) (t : ByteArray) (b : Bool) (e : Int) (rs : List Rf) (ks : List Ex) (rv kv : Value) (ao : Option Addr) (cap : Nat) : Prop where
  ex : x = .mk k n t.data.toList b e rs ks
  rl : Sl rf 5 W rv rs
  kl : kv = .slice ao ks.length cap
  le : ks.length ≤ cap
  mx : cap ≤ maxLen
  kd : ks ≠ [] → ∃ b' off, ao = some ⟨b', off, none⟩ ∧ Rd.RdL W ks b' off
theorem Rd.prt {W : World} {x : Ex} {v : Value} (h : Rd W x v) : ∃ k n t b e rs ks rv kv ao cap, v = .agg #[.int .i64 k, .int .i64 n, .string t, .bool b, .int .i64 e, rv, kv] ∧ Prt W x k n t b e rs ks rv kv ao cap := by
  cases x with
  | mk k n t b e rs ks =>
    unfold Rd at h
    obtain ⟨rv, kv, hv, hr, ao, cap, hk, h1, h2, h3⟩ := h
    exact ⟨k, n, ⟨t.toArray⟩, b, e, rs, ks, rv, kv, ao, cap, hv, rfl, hr, hk, h1, h2, fun hn => by
      obtain ⟨b', off, ha, _, hl⟩ := h3 hn
      exact ⟨b', off, ha, hl⟩⟩
theorem Prt.on {W W' : World} {x : Ex} {k n : Int} {t : ByteArray} {b : Bool} {e : Int} {rs : List Rf} {ks : List Ex} {rv kv : Value} {ao : Option Addr} {cap : Nat} (h : Prt W x k n t b e rs ks rv kv ao cap) (q : Q W W') : Prt W' x k n t b e rs ks rv kv ao cap :=
  ⟨h.ex, h.rl.on q, h.kl, h.le, h.mx, fun hn => by
    obtain ⟨b', off, ha, hl⟩ := h.kd hn
    exact ⟨b', off, ha, Rd.RdL.on q _ _ _ hl⟩⟩
/-- the seven cells of a tree in a block of its own -/
structure Bx (w W : World) (c0 c1 c2 c3 c4 c5 c6 : Value) : Prop where
  q : Q w W
  lt : w.heap.size < W.heap.size
  g0 : W.cell? ⟨w.heap.size, 0, none⟩ = some c0
  g1 : W.cell? ⟨w.heap.size, 1, none⟩ = some c1
  g2 : W.cell? ⟨w.heap.size, 2, none⟩ = some c2
  g3 : W.cell? ⟨w.heap.size, 3, none⟩ = some c3
  g4 : W.cell? ⟨w.heap.size, 4, none⟩ = some c4
  g5 : W.cell? ⟨w.heap.size, 5, none⟩ = some c5
  g6 : W.cell? ⟨w.heap.size, 6, none⟩ = some c6
theorem Bx.start (w : World) (c0 c1 c2 c3 c4 c5 c6 : Value) (t : TypeId) : Bx w (w.alloc (.cells #[c0, c1, c2, c3, c4, c5, c6] t)) c0 c1 c2 c3 c4 c5 c6 := by
  refine ⟨(Q.refl _).alloc _, by simp, ?_, ?_, ?_, ?_, ?_, ?_, ?_⟩
  all_goals simp [World.cell?_alloc_new]
theorem Bx.on {w W W' : World} {c0 c1 c2 c3 c4 c5 c6 : Value} (h : Bx w W c0 c1 c2 c3 c4 c5 c6) (q : Q W W') : Bx w W' c0 c1 c2 c3 c4 c5 c6 :=
  ⟨h.q.trans q, q.lt h.lt, (q.cell h.lt).trans h.g0, (q.cell h.lt).trans h.g1, (q.cell h.lt).trans h.g2, (q.cell h.lt).trans h.g3, (q.cell h.lt).trans h.g4, (q.cell h.lt).trans h.g5, (q.cell h.lt).trans h.g6⟩

/-- how deep a tree is, to so many -/
def mxN (l : List Nat) : Nat := l.foldl max 0
def dp : Nat → Ex → Nat
  | 0, _ => 1
  | m + 1, .mk _ _ _ _ _ _ ks => mxN (ks.map (dp m)) + 1
theorem mxN_snoc (l : List Nat) (d : Nat) : mxN (l ++ [d]) = max (mxN l) d := by unfold mxN; rw [List.foldl_append]; rfl
theorem mxN_le {l : List Nat} {m : Nat} (h : ∀ x ∈ l, x ≤ m) : mxN l ≤ m := by
  unfold mxN
  suffices ∀ (a : Nat), a ≤ m → l.foldl max a ≤ m by exact this 0 (Nat.zero_le _)
  induction l with
  | nil => intro a ha; exact ha
  | cons x l ih =>
    intro a ha
    rw [List.foldl_cons]
    exact ih (fun y hy => h y (by simp [hy])) _ (Nat.max_le.2 ⟨ha, h x (by simp)⟩)
theorem dp_le : ∀ (m : Nat) (x : Ex), dp m x ≤ m + 1
  | 0, x => by unfold dp; exact Nat.le_refl _
  | m + 1, .mk _ _ _ _ _ _ ks => by
    unfold dp
    have : mxN (ks.map (dp m)) ≤ m + 1 := mxN_le (fun y hy => by
      obtain ⟨z, _, rfl⟩ := List.mem_map.1 hy
      exact dp_le m z)
    omega
theorem take_map_snoc {α β : Type} (f : α → β) (l : List α) (i : Nat) (h : i < l.length) : (l.take (i + 1)).map f = (l.take i).map f ++ [f l[i]] := by
  rw [List.take_succ_eq_append_getElem h, List.map_append]
  rfl

end Go.Proofs.YtgheopdadfnilaaDoor
namespace Go.Proofs.YtgheopdadfnilaaDoor
open Go.RowKit
set_option linter.unusedVariables false
set_option linter.unusedSimpArgs false


/-- nodes added to some, as far as the cap goes -/
def cnt : Ex → Nat → Nat
  | .mk _ _ _ _ _ _ ks, n => cntL ks (n + 1)
  where
  cntL : List Ex → Nat → Nat
  | [], n => n
  | x :: xs, n => if n ≤ 200 then cntL xs (cnt x n) else n
theorem cntL_stop {ks : List Ex} {n : Nat} (h : ¬ n ≤ 200) : cnt.cntL ks n = n := by
  cases ks with
  | nil => rw [cnt.cntL]
  | cons x xs => rw [cnt.cntL, if_neg h]
theorem cnt_le : ∀ (x : Ex) (n : Nat), n ≤ 200 → cnt x n ≤ 201
  | .mk _ _ _ _ _ _ ks, n, h => by
    rw [cnt]
    exact go ks (n + 1) (by omega)
  where
  go : ∀ (ks : List Ex) (n : Nat), n ≤ 201 → cnt.cntL ks n ≤ 201
  | [], n, h => by rw [cnt.cntL]; exact h
  | x :: xs, n, h => by
    rw [cnt.cntL]
    split
    · rename_i h'
      exact go xs _ (cnt_le x n h')
    · exact h
theorem cntL_le : ∀ (ks : List Ex) (n : Nat), n ≤ 201 → cnt.cntL ks n ≤ 201 := cnt_le.go
theorem kid_size {k n : Int} {t : List UInt8} {b : Bool} {e : Int} {rs : List Rf} {ks : List Ex} (i : Nat) (h : i < ks.length) : SizeOf.sizeOf ks[i] < SizeOf.sizeOf (Ex.mk k n t b e rs ks) := by
  have := List.sizeOf_lt_of_mem (List.getElem_mem h)
  simp
  omega

end Go.Proofs.YtgheopdadfnilaaDoor
namespace Go.Proofs.YtgheopdadfnilaaDoor
open Go.RowKit
set_option linter.unusedVariables false
set_option linter.unusedSimpArgs false


/-- the answer to a question -/
def Ans (p : Prop) (e : Ending) : Prop := ∃ r : Bool, e = .returned (.bool r) ∧ (r = true ↔ p)
theorem Ans.no {p : Prop} (h : ¬ p) : Ans p (.returned (.bool false)) := ⟨false, rfl, by simp [h]⟩
theorem Ans.yes {p : Prop} (h : p) : Ans p (.returned (.bool true)) := ⟨true, rfl, by simp [h]⟩
theorem beq_no {α : Type} [BEq α] [LawfulBEq α] {a b : α} (h : a ≠ b) : (a == b) = false := by rw [beq_eq_false_iff_ne]; exact h
theorem str_no {a b : ByteArray} (h : a.data.toList ≠ b.data.toList) : (a.toList == b.toList) = false := by rw [Lib.toList_data, Lib.toList_data]; exact beq_no h
theorem str_eq {a b : ByteArray} (h : a.data.toList = b.data.toList) : a = b := by
  apply ByteArray.ext
  apply Array.ext'
  exact h
theorem Bx.start2 (w : World) (o : Obj) (c0 c1 c2 c3 c4 c5 c6 : Value) (t : TypeId) : Bx (w.alloc o) ((w.alloc o).alloc (.cells #[c0, c1, c2, c3, c4, c5, c6] t)) c0 c1 c2 c3 c4 c5 c6 := Bx.start _ _ _ _ _ _ _ _ _
/-- two trees in two blocks -/
structure Two (w W : World) (k n : Int) (t : ByteArray) (b : Bool) (e : Int) (rv kv : Value) (k' n' : Int) (t' : ByteArray) (b' : Bool) (e' : Int) (rv' kv' : Value) : Prop where
  one : Bx w W (.int .i64 k) (.int .i64 n) (.string t) (.bool b) (.int .i64 e) rv kv
  lt : w.heap.size + 1 < W.heap.size
  g5 : W.cell? ⟨w.heap.size + 1, 5, none⟩ = some rv'
  g6 : W.cell? ⟨w.heap.size + 1, 6, none⟩ = some kv'
theorem Two.on {w W W' : World} {k n : Int} {t : ByteArray} {b : Bool} {e : Int} {rv kv : Value} {k' n' : Int} {t' : ByteArray} {b' : Bool} {e' : Int} {rv' kv' : Value} (h : Two w W k n t b e rv kv k' n' t' b' e' rv' kv') (q : Q W W') : Two w W' k n t b e rv kv k' n' t' b' e' rv' kv' :=
  ⟨h.one.on q, q.lt h.lt, (q.cell h.lt).trans h.g5, (q.cell h.lt).trans h.g6⟩
theorem Two.start (w : World) (k n : Int) (t : ByteArray) (b : Bool) (e : Int) (rv kv : Value) (k' n' : Int) (t' : ByteArray) (b' : Bool) (e' : Int) (rv' kv' : Value) (ty : TypeId) :
    Two w ((w.alloc (.cells #[.int .i64 k, .int .i64 n, .string t, .bool b, .int .i64 e, rv, kv] ty)).alloc (.cells #[.int .i64 k', .int .i64 n', .string t', .bool b', .int .i64 e', rv', kv'] ty)) k n t b e rv kv k' n' t' b' e' rv' kv' := by
  refine ⟨(Bx.start _ _ _ _ _ _ _ _ _).on ((Q.refl _).alloc _), by simp, ?_, ?_⟩
  · have e : w.heap.size + 1 = (w.alloc (.cells #[.int .i64 k, .int .i64 n, .string t, .bool b, .int .i64 e, rv, kv] ty)).heap.size := by simp
    rw [e]; simp [World.cell?_alloc_new]
  · have e : w.heap.size + 1 = (w.alloc (.cells #[.int .i64 k, .int .i64 n, .string t, .bool b, .int .i64 e, rv, kv] ty)).heap.size := by simp
    rw [e]; simp [World.cell?_alloc_new]

set_option maxHeartbeats 4000000 in
theorem eq_heads (k n : Int) (t : ByteArray) (b : Bool) (e : Int) (a1 : Option Addr) (l1 c1 : Nat) (a2 : Option Addr) (l2 c2 : Nat) (k' n' : Int) (t' : ByteArray) (b' : Bool) (e' : Int) (a3 : Option Addr) (l3 c3 : Nat) (a4 : Option Addr) (l4 c4 : Nat) (w : World)
    (h : ¬ (k = k' ∧ n = n' ∧ t.data.toList = t'.data.toList ∧ b = b' ∧ e = e' ∧ l1 = l3 ∧ l2 = l4)) :
    Calls Tryd.prog 6 #[.agg #[.int .i64 k, .int .i64 n, .string t, .bool b, .int .i64 e, .slice a1 l1 c1, .slice a2 l2 c2], .agg #[.int .i64 k', .int .i64 n', .string t', .bool b', .int .i64 e', .slice a3 l3 c3, .slice a4 l4 c4]] w fun x w' => x = .returned (.bool false) ∧ Q w w' := by
  by_cases h1 : k = k'
  · subst h1
    by_cases h2 : n = n'
    · subst h2
      by_cases h3 : t.data.toList = t'.data.toList
      · obtain rfl := str_eq h3
        by_cases h4 : b = b'
        · subst h4
          by_cases h5 : e = e'
          · subst h5
            by_cases h6 : l1 = l3
            · subst h6
              have h7 : l2 ≠ l4 := fun e => h ⟨rfl, rfl, rfl, rfl, rfl, rfl, e⟩
              have f7 : ((l2 : Int) == (l4 : Int)) = false := beq_no (by omega)
              clear h h3 h7
              go_enter Tryd.func6, Tryd.ntmps6
              go_wp2
              go_ret
              exact ⟨rfl, ((Q.refl _).alloc _).alloc _⟩
            · have f6 : ((l1 : Int) == (l3 : Int)) = false := beq_no (by omega)
              clear h h3 h6
              go_enter Tryd.func6, Tryd.ntmps6
              go_wp2
              go_ret
              exact ⟨rfl, ((Q.refl _).alloc _).alloc _⟩
          · have f5 : (e == e') = false := beq_no h5
            clear h h3
            go_enter Tryd.func6, Tryd.ntmps6
            go_wp2
            go_ret
            exact ⟨rfl, ((Q.refl _).alloc _).alloc _⟩
        · have f4 : b' = !b := by cases b <;> cases b' <;> simp_all
          subst f4
          clear h h3 h4
          cases b
          · go_enter Tryd.func6, Tryd.ntmps6
            go_wp2
            go_ret
            exact ⟨rfl, ((Q.refl _).alloc _).alloc _⟩
          · go_enter Tryd.func6, Tryd.ntmps6
            go_wp2
            go_ret
            exact ⟨rfl, ((Q.refl _).alloc _).alloc _⟩
      · have f3 := str_no h3
        clear h h3
        go_enter Tryd.func6, Tryd.ntmps6
        go_wp2
        go_ret
        exact ⟨rfl, ((Q.refl _).alloc _).alloc _⟩
    · have f2 : (n == n') = false := beq_no h2
      clear h
      go_enter Tryd.func6, Tryd.ntmps6
      go_wp2
      go_ret
      exact ⟨rfl, ((Q.refl _).alloc _).alloc _⟩
  · have f1 : (k == k') = false := beq_no h1
    clear h
    go_enter Tryd.func6, Tryd.ntmps6
    go_wp2
    go_ret
    exact ⟨rfl, ((Q.refl _).alloc _).alloc _⟩
end Go.Proofs.YtgheopdadfnilaaDoor
