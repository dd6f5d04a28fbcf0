/- Operations on lines, plainly: two that were made side by side, each transformed behind the other, lead every line to one place. No program in this text. -/
namespace Go.Proofs.Ytkdapaebcjgckaa.Ax
set_option linter.unusedVariables false
set_option linter.unusedSimpArgs false
set_option maxHeartbeats 4000000
/-- a gap behind a line that is taken away -/
def lf (g a : Int) : Int := if a < g then g - 1 else g
/-- where line i goes: kinds 1 (a new line), 2 (a line goes), 3 (a line moves); -1: nowhere -/
def idx (k a t i : Int) : Int :=
  if k = 1 then (if a ≤ i then i + 1 else i)
  else if k = 2 then (if i = a then -1 else lf i a)
  else if i = a then lf t a else if lf t a ≤ lf i a then lf i a + 1 else lf i a
def gap (k a t g : Int) (bh : Bool) : Int :=
  if k = 1 then (if a < g ∨ (g = a ∧ bh = true) then g + 1 else g)
  else if k = 2 then lf g a
  else if lf t a < lf g a ∨ (lf g a = lf t a ∧ bh = true) then lf g a + 1 else lf g a
/-- may an operation be? (its numbers are from 0 on) -/
def ok (k a t : Int) : Prop := (k = 1 ∧ t = 0) ∨ (k = 2 ∧ t = 0) ∨ (k = 3 ∧ t ≠ a ∧ t ≠ a + 1)
def okB (k a t : Int) : Bool := if k = 1 then decide (t = 0) else if k = 2 then decide (t = 0) else if k = 3 then decide (t ≠ a ∧ t ≠ a + 1) else false
theorem okB_iff (k a t : Int) : okB k a t = true ↔ ok k a t := by
  unfold okB ok; by_cases h1 : k = 1 <;> by_cases h2 : k = 2 <;> by_cases h3 : k = 3 <;> simp [h1, h2, h3] <;> omega
/-- an operation behind another one: where, to where, and whether it stands -/
def trA (ka aa ta kb ab tb : Int) (pr : Bool) : Int := if ka = 1 then gap kb ab tb aa (!pr) else idx kb ab tb aa
def trT (ka aa ta kb ab tb : Int) (pr : Bool) : Int := if ka = 3 then gap kb ab tb ta (!pr) else 0
abbrev trO (ka aa ta kb ab tb : Int) (pr : Bool) : Prop :=
  ¬ (ka = 3 ∧ kb = 3 ∧ ab = aa ∧ pr = true) ∧ 0 ≤ trA ka aa ta kb ab tb pr ∧ (ka = 3 → trT ka aa ta kb ab tb pr ≠ trA ka aa ta kb ab tb pr ∧ trT ka aa ta kb ab tb pr ≠ trA ka aa ta kb ab tb pr + 1)
/-- by one operation, and by another one behind it, if it stands -/
def two (ka aa ta kb ab tb i : Int) (pr : Bool) : Int :=
  if idx ka aa ta i < 0 ∨ ¬ trO kb ab tb ka aa ta pr then idx ka aa ta i else idx kb (trA kb ab tb ka aa ta pr) (trT kb ab tb ka aa ta pr) (idx ka aa ta i)

/-- the new line of a: made by a, then by way of b; or made by a behind b -/
theorem madeA (a kb ab tb : Int) (ha : 0 ≤ a) (hb : 0 ≤ ab) (ht : 0 ≤ tb) (h : ok kb ab tb) :
    trO 1 a 0 kb ab tb true ∧ (if trO kb ab tb 1 a 0 false then idx kb (trA kb ab tb 1 a 0 false) (trT kb ab tb 1 a 0 false) a else a) = trA 1 a 0 kb ab tb true := by
  unfold ok at h
  unfold trO trA trT idx gap lf
  rcases h with ⟨rfl, rfl⟩ | ⟨rfl, rfl⟩ | ⟨rfl, h1, h2⟩ <;> simp at * <;> omega
theorem madeB (b ka aa ta : Int) (hb : 0 ≤ b) (ha : 0 ≤ aa) (ht : 0 ≤ ta) (h : ok ka aa ta) :
    trO 1 b 0 ka aa ta false ∧ (if trO ka aa ta 1 b 0 true then idx ka (trA ka aa ta 1 b 0 true) (trT ka aa ta 1 b 0 true) b else b) = trA 1 b 0 ka aa ta false := by
  unfold ok at h
  unfold trO trA trT idx gap lf
  rcases h with ⟨rfl, rfl⟩ | ⟨rfl, rfl⟩ | ⟨rfl, h1, h2⟩ <;> simp at * <;> omega
/-- what stands behind another one may be, and its numbers are at most one more -/
theorem tr_may (ka aa ta kb ab tb : Int) (pr : Bool) (ha : 0 ≤ aa) (hta : 0 ≤ ta) (h : ok ka aa ta) (hb : 0 ≤ ab) (htb : 0 ≤ tb) (h' : ok kb ab tb) (ho : trO ka aa ta kb ab tb pr) (m : Int) (h1 : aa ≤ m) (h2 : ta ≤ m) (h3 : ab ≤ m) (h4 : tb ≤ m) :
    ok ka (trA ka aa ta kb ab tb pr) (trT ka aa ta kb ab tb pr) ∧ 0 ≤ trT ka aa ta kb ab tb pr ∧ trA ka aa ta kb ab tb pr ≤ m + 1 ∧ trT ka aa ta kb ab tb pr ≤ m + 1 := by
  unfold ok at *
  unfold trO trA trT idx gap lf at *
  rcases h with ⟨rfl, rfl⟩ | ⟨rfl, rfl⟩ | ⟨rfl, g1, g2⟩ <;> rcases h' with ⟨rfl, rfl⟩ | ⟨rfl, rfl⟩ | ⟨rfl, g3, g4⟩ <;> simp at * <;> omega

/-- where a line goes, if it may be asked -/
def I (k a t i : Int) : Int := if 0 ≤ i ∧ i ≤ 1152921504606846976 then idx k a t i else -1
/-- the line that goes to i, looked for near it -/
def bkR (k a t i : Int) : Int :=
  if 0 ≤ i - 1 ∧ I k a t (i - 1) = i then i - 1 else if 0 ≤ i ∧ I k a t i = i then i else if 0 ≤ i + 1 ∧ I k a t (i + 1) = i then i + 1 else if 0 ≤ a ∧ I k a t a = i then a else -1
theorem idx_lo (k a t i : Int) (h : ok k a t) (ha : 0 ≤ a) (ht : 0 ≤ t) (hi : 0 ≤ i) : -1 ≤ idx k a t i := by
  unfold ok at h
  unfold idx lf
  rcases h with ⟨rfl, rfl⟩ | ⟨rfl, rfl⟩ | ⟨rfl, g1, g2⟩ <;> simp at * <;> omega
theorem idx_hi (k a t i m : Int) (h : ok k a t) (ha : 0 ≤ a) (ht : 0 ≤ t) (hi : 0 ≤ i) (h1 : i ≤ m) (h2 : t ≤ m) : idx k a t i ≤ m + 1 := by
  unfold ok at h
  unfold idx lf
  rcases h with ⟨rfl, rfl⟩ | ⟨rfl, rfl⟩ | ⟨rfl, g1, g2⟩ <;> simp at * <;> omega
theorem idx_apart (k a t i j : Int) (h : ok k a t) (ha : 0 ≤ a) (ht : 0 ≤ t) (hi : 0 ≤ i) (hj : 0 ≤ j) (hne : i ≠ j) (h0 : 0 ≤ idx k a t i) : idx k a t i ≠ idx k a t j := by
  unfold ok at h
  unfold idx lf at *
  rcases h with ⟨rfl, rfl⟩ | ⟨rfl, rfl⟩ | ⟨rfl, g1, g2⟩ <;> simp at * <;> omega
theorem idx_stays (k a t i : Int) (h : ok k a t) (ha : 0 ≤ a) (ht : 0 ≤ t) (hi : 0 ≤ i) : 0 ≤ idx k a t i ↔ (k ≠ 2 ∨ i ≠ a) := by
  unfold ok at h
  unfold idx lf at *
  rcases h with ⟨rfl, rfl⟩ | ⟨rfl, rfl⟩ | ⟨rfl, g1, g2⟩ <;> simp at * <;> omega
/-- the line that goes to i, outright -/
def bk (k a t i : Int) : Int :=
  if k = 1 then (if i < a then i else if i = a then -1 else i - 1)
  else if k = 2 then (if i < a then i else i + 1)
  else if i = lf t a then a else if a ≤ lf i (lf t a) then lf i (lf t a) + 1 else lf i (lf t a)
theorem bk_eq (k a t i : Int) (h : ok k a t) (ha : 0 ≤ a) (ht : 0 ≤ t) (ha1 : a ≤ 2199023255552) (ht1 : t ≤ 2199023255552) (hi : 0 ≤ i) (hi1 : i < 1152921504606846976) : bkR k a t i = bk k a t i := by
  unfold ok at h
  unfold bkR I bk idx lf
  rcases h with ⟨rfl, rfl⟩ | ⟨rfl, rfl⟩ | ⟨rfl, g1, g2⟩ <;> simp at * <;> omega
theorem bk_idx (k a t i : Int) (h : ok k a t) (ha : 0 ≤ a) (ht : 0 ≤ t) (hi : 0 ≤ i) (h0 : 0 ≤ idx k a t i) : bk k a t (idx k a t i) = i := by
  unfold ok at h
  unfold bk idx lf at *
  rcases h with ⟨rfl, rfl⟩ | ⟨rfl, rfl⟩ | ⟨rfl, g1, g2⟩ <;> simp at * <;> omega
theorem idx_bk (k a t i : Int) (h : ok k a t) (ha : 0 ≤ a) (ht : 0 ≤ t) (hi : 0 ≤ i) (h0 : 0 ≤ bk k a t i) : idx k a t (bk k a t i) = i := by
  unfold ok at h
  unfold bk idx lf at *
  rcases h with ⟨rfl, rfl⟩ | ⟨rfl, rfl⟩ | ⟨rfl, g1, g2⟩ <;> simp at * <;> omega
theorem bk_from (k a t i : Int) (h : ok k a t) (ha : 0 ≤ a) (ht : 0 ≤ t) (hi : 0 ≤ i) : 0 ≤ bk k a t i ↔ (k ≠ 1 ∨ i ≠ a) := by
  unfold ok at h
  unfold bk lf at *
  rcases h with ⟨rfl, rfl⟩ | ⟨rfl, rfl⟩ | ⟨rfl, g1, g2⟩ <;> simp at * <;> omega
theorem bk_hi (k a t i m : Int) (h : ok k a t) (ha : 0 ≤ a) (ht : 0 ≤ t) (hi : 0 ≤ i) (h1 : i ≤ m) (h2 : a ≤ m) : bk k a t i ≤ m + 1 := by
  unfold ok at h
  unfold bk lf at *
  rcases h with ⟨rfl, rfl⟩ | ⟨rfl, rfl⟩ | ⟨rfl, g1, g2⟩ <;> simp at * <;> omega
/-- a line comes and goes; a line moves and moves back -/
theorem ins_del (a i : Int) (ha : 0 ≤ a) (hi : 0 ≤ i) : idx 2 a 0 (idx 1 a 0 i) = i := by
  unfold idx lf; simp only [Int.reduceEq, reduceIte, if_true, if_false, Bool.not_true, Bool.not_false, and_true, and_false, or_false, true_and, false_and, not_false_eq_true, true_or, Bool.false_eq_true, reduceCtorEq, false_implies, forall_const, not_true_eq_false, imp_self, ne_eq]; omega
theorem mov_back (a t i k s : Int) (ha : 0 ≤ a) (ht : 0 ≤ t) (h1 : t ≠ a) (h2 : t ≠ a + 1) (hi : 0 ≤ i) (hk : k = idx 3 a t a) (hs : s = if k < a then a + 1 else a) : idx 3 k s (idx 3 a t i) = i ∧ ok 3 k s ∧ 0 ≤ k := by
  unfold ok idx lf at *; simp only [Int.reduceEq, reduceIte, if_true, if_false, Bool.not_true, Bool.not_false, and_true, and_false, or_false, true_and, false_and, not_false_eq_true, true_or, Bool.false_eq_true, reduceCtorEq, false_implies, forall_const, not_true_eq_false, imp_self, ne_eq]; omega
end Go.Proofs.Ytkdapaebcjgckaa.Ax
