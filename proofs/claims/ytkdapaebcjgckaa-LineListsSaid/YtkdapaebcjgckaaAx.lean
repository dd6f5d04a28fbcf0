/- Operations on lines, plainly: two that were made side by side, each transformed behind the other, lead every line to one place. No program in this text. -/
namespace Go.Proofs.Ytkdapaebcjgckaa.Ax
set_option linter.unusedVariables false
set_option maxHeartbeats 4000000
/-- a gap behind a line that is taken away -/
def lf (g a : Int) : Int := if a < g then g - 1 else g
/-- where line i goes: kinds 1 (a new line), 2 (a line goes), 3 (a line moves); -1: nowhere -/
def idx (k a t i : Int) : Int :=
  if k = 1 then (if a ≤ i then i + 1 else i)
  else if k = 2 then (if i = a then -1 else lf i a)
  else if i = a then lf t a else if lf t a ≤ lf i a then lf i a + 1 else lf i a
def gap (k a t g : Int) (bh : Bool) : Int :=
  if k = 1 then (if a < g ∨ (g = a ∧ bh = true) then g + 1 else g)
  else if k = 2 then lf g a
  else if lf t a < lf g a ∨ (lf g a = lf t a ∧ bh = true) then lf g a + 1 else lf g a
/-- may an operation be? (its numbers are from 0 on) -/
def ok (k a t : Int) : Prop := (k = 1 ∧ t = 0) ∨ (k = 2 ∧ t = 0) ∨ (k = 3 ∧ t ≠ a ∧ t ≠ a + 1)
def okB (k a t : Int) : Bool := if k = 1 then decide (t = 0) else if k = 2 then decide (t = 0) else if k = 3 then decide (t ≠ a ∧ t ≠ a + 1) else false
theorem okB_iff (k a t : Int) : okB k a t = true ↔ ok k a t := by
  unfold okB ok; grind
/-- an operation behind another one: where, to where, and whether it stands -/
def trA (ka aa ta kb ab tb : Int) (pr : Bool) : Int := if ka = 1 then gap kb ab tb aa (!pr) else idx kb ab tb aa
def trT (ka aa ta kb ab tb : Int) (pr : Bool) : Int := if ka = 3 then gap kb ab tb ta (!pr) else 0
abbrev trO (ka aa ta kb ab tb : Int) (pr : Bool) : Prop :=
  ¬ (ka = 3 ∧ kb = 3 ∧ ab = aa ∧ pr = true) ∧ 0 ≤ trA ka aa ta kb ab tb pr ∧ (ka = 3 → trT ka aa ta kb ab tb pr ≠ trA ka aa ta kb ab tb pr ∧ trT ka aa ta kb ab tb pr ≠ trA ka aa ta kb ab tb pr + 1)
/-- by one operation, and by another one behind it, if it stands -/
def two (ka aa ta kb ab tb i : Int) (pr : Bool) : Int :=
  if idx ka aa ta i < 0 ∨ ¬ trO kb ab tb ka aa ta pr then idx ka aa ta i else idx kb (trA kb ab tb ka aa ta pr) (trT kb ab tb ka aa ta pr) (idx ka aa ta i)

theorem s11 (a b i : Int) (ha : 0 ≤ a) (hb : 0 ≤ b) (hi : 0 ≤ i) : two 1 a 0 1 b 0 i false = two 1 b 0 1 a 0 i true := by
  unfold two trO trA trT idx gap lf; grind
theorem s12 (a b i : Int) (ha : 0 ≤ a) (hb : 0 ≤ b) (hi : 0 ≤ i) : two 1 a 0 2 b 0 i false = two 2 b 0 1 a 0 i true := by
  unfold two trO trA trT idx gap lf; grind
theorem s21 (a b i : Int) (ha : 0 ≤ a) (hb : 0 ≤ b) (hi : 0 ≤ i) : two 2 a 0 1 b 0 i false = two 1 b 0 2 a 0 i true := by
  unfold two trO trA trT idx gap lf; grind
theorem s22 (a b i : Int) (ha : 0 ≤ a) (hb : 0 ≤ b) (hi : 0 ≤ i) : two 2 a 0 2 b 0 i false = two 2 b 0 2 a 0 i true := by
  unfold two trO trA trT idx gap lf; grind
theorem s13 (a b t i : Int) (ha : 0 ≤ a) (hb : 0 ≤ b) (ht : 0 ≤ t) (h1 : t ≠ b) (h2 : t ≠ b + 1) (hi : 0 ≤ i) : two 1 a 0 3 b t i false = two 3 b t 1 a 0 i true := by
  unfold two trO trA trT idx gap lf; grind (splits := 60)

theorem s31 (a b t i : Int) (ha : 0 ≤ a) (hb : 0 ≤ b) (ht : 0 ≤ t) (h1 : t ≠ a) (h2 : t ≠ a + 1) (hi : 0 ≤ i) : two 3 a t 1 b 0 i false = two 1 b 0 3 a t i true := by
  unfold two trO trA trT idx gap lf; grind (splits := 60)

theorem s23 (a b t i : Int) (ha : 0 ≤ a) (hb : 0 ≤ b) (ht : 0 ≤ t) (h1 : t ≠ b) (h2 : t ≠ b + 1) (hi : 0 ≤ i) : two 2 a 0 3 b t i false = two 3 b t 2 a 0 i true := by
  unfold two trO trA trT idx gap lf; grind (splits := 60)

theorem s32 (a b t i : Int) (ha : 0 ≤ a) (hb : 0 ≤ b) (ht : 0 ≤ t) (h1 : t ≠ a) (h2 : t ≠ a + 1) (hi : 0 ≤ i) : two 3 a t 2 b 0 i false = two 2 b 0 3 a t i true := by
  unfold two trO trA trT idx gap lf; grind (splits := 60)

theorem s33 (a s b t i : Int) (ha : 0 ≤ a) (hs : 0 ≤ s) (hb : 0 ≤ b) (ht : 0 ≤ t) (h1 : t ≠ b) (h2 : t ≠ b + 1) (h3 : s ≠ a) (h4 : s ≠ a + 1) (hi : 0 ≤ i) : two 3 a s 3 b t i false = two 3 b t 3 a s i true := by
  unfold two trO trA trT idx gap lf; grind (splits := 60)

/-- the new line of a: made by a, then by way of b; or made by a behind b -/
theorem madeA (a kb ab tb : Int) (ha : 0 ≤ a) (hb : 0 ≤ ab) (ht : 0 ≤ tb) (h : ok kb ab tb) :
    trO 1 a 0 kb ab tb true ∧ (if trO kb ab tb 1 a 0 false then idx kb (trA kb ab tb 1 a 0 false) (trT kb ab tb 1 a 0 false) a else a) = trA 1 a 0 kb ab tb true := by
  unfold ok at h
  unfold trO trA trT idx gap lf
  rcases h with ⟨rfl, rfl⟩ | ⟨rfl, rfl⟩ | ⟨rfl, h1, h2⟩ <;> grind (splits := 60)
theorem madeB (b ka aa ta : Int) (hb : 0 ≤ b) (ha : 0 ≤ aa) (ht : 0 ≤ ta) (h : ok ka aa ta) :
    trO 1 b 0 ka aa ta false ∧ (if trO ka aa ta 1 b 0 true then idx ka (trA ka aa ta 1 b 0 true) (trT ka aa ta 1 b 0 true) b else b) = trA 1 b 0 ka aa ta false := by
  unfold ok at h
  unfold trO trA trT idx gap lf
  rcases h with ⟨rfl, rfl⟩ | ⟨rfl, rfl⟩ | ⟨rfl, h1, h2⟩ <;> grind (splits := 60)
/-- what stands behind another one may be, and its numbers are at most one more -/
theorem tr_may (ka aa ta kb ab tb : Int) (pr : Bool) (ha : 0 ≤ aa) (hta : 0 ≤ ta) (h : ok ka aa ta) (hb : 0 ≤ ab) (htb : 0 ≤ tb) (h' : ok kb ab tb) (ho : trO ka aa ta kb ab tb pr) (m : Int) (h1 : aa ≤ m) (h2 : ta ≤ m) (h3 : ab ≤ m) (h4 : tb ≤ m) :
    ok ka (trA ka aa ta kb ab tb pr) (trT ka aa ta kb ab tb pr) ∧ 0 ≤ trT ka aa ta kb ab tb pr ∧ trA ka aa ta kb ab tb pr ≤ m + 1 ∧ trT ka aa ta kb ab tb pr ≤ m + 1 := by
  unfold ok at *
  unfold trO trA trT idx gap lf at *
  rcases h with ⟨rfl, rfl⟩ | ⟨rfl, rfl⟩ | ⟨rfl, g1, g2⟩ <;> rcases h' with ⟨rfl, rfl⟩ | ⟨rfl, rfl⟩ | ⟨rfl, g3, g4⟩ <;> grind (splits := 60)

/-- where a line goes, if it may be asked -/
def I (k a t i : Int) : Int := if 0 ≤ i ∧ i ≤ 1152921504606846976 then idx k a t i else -1
/-- the line that goes to i, looked for near it -/
def bkR (k a t i : Int) : Int :=
  if 0 ≤ i - 1 ∧ I k a t (i - 1) = i then i - 1 else if 0 ≤ i ∧ I k a t i = i then i else if 0 ≤ i + 1 ∧ I k a t (i + 1) = i then i + 1 else if 0 ≤ a ∧ I k a t a = i then a else -1
theorem idx_lo (k a t i : Int) (h : ok k a t) (ha : 0 ≤ a) (ht : 0 ≤ t) (hi : 0 ≤ i) : -1 ≤ idx k a t i := by
  unfold ok at h
  unfold idx lf
  rcases h with ⟨rfl, rfl⟩ | ⟨rfl, rfl⟩ | ⟨rfl, g1, g2⟩ <;> grind (splits := 60)
theorem idx_hi (k a t i m : Int) (h : ok k a t) (ha : 0 ≤ a) (ht : 0 ≤ t) (hi : 0 ≤ i) (h1 : i ≤ m) (h2 : t ≤ m) : idx k a t i ≤ m + 1 := by
  unfold ok at h
  unfold idx lf
  rcases h with ⟨rfl, rfl⟩ | ⟨rfl, rfl⟩ | ⟨rfl, g1, g2⟩ <;> grind (splits := 60)
theorem idx_apart (k a t i j : Int) (h : ok k a t) (ha : 0 ≤ a) (ht : 0 ≤ t) (hi : 0 ≤ i) (hj : 0 ≤ j) (hne : i ≠ j) (h0 : 0 ≤ idx k a t i) : idx k a t i ≠ idx k a t j := by
  unfold ok at h
  unfold idx lf at *
  rcases h with ⟨rfl, rfl⟩ | ⟨rfl, rfl⟩ | ⟨rfl, g1, g2⟩ <;> grind (splits := 60)
theorem idx_stays (k a t i : Int) (h : ok k a t) (ha : 0 ≤ a) (ht : 0 ≤ t) (hi : 0 ≤ i) : 0 ≤ idx k a t i ↔ (k ≠ 2 ∨ i ≠ a) := by
  unfold ok at h
  unfold idx lf at *
  rcases h with ⟨rfl, rfl⟩ | ⟨rfl, rfl⟩ | ⟨rfl, g1, g2⟩ <;> grind (splits := 60)
/-- the line that goes to i, outright -/
def bk (k a t i : Int) : Int :=
  if k = 1 then (if i < a then i else if i = a then -1 else i - 1)
  else if k = 2 then (if i < a then i else i + 1)
  else if i = lf t a then a else if a ≤ lf i (lf t a) then lf i (lf t a) + 1 else lf i (lf t a)
theorem bk_eq (k a t i : Int) (h : ok k a t) (ha : 0 ≤ a) (ht : 0 ≤ t) (ha1 : a ≤ 2199023255552) (ht1 : t ≤ 2199023255552) (hi : 0 ≤ i) (hi1 : i < 1152921504606846976) : bkR k a t i = bk k a t i := by
  unfold ok at h
  unfold bkR I bk idx lf
  rcases h with ⟨rfl, rfl⟩ | ⟨rfl, rfl⟩ | ⟨rfl, g1, g2⟩ <;> grind (splits := 80)
theorem bk_idx (k a t i : Int) (h : ok k a t) (ha : 0 ≤ a) (ht : 0 ≤ t) (hi : 0 ≤ i) (h0 : 0 ≤ idx k a t i) : bk k a t (idx k a t i) = i := by
  unfold ok at h
  unfold bk idx lf at *
  rcases h with ⟨rfl, rfl⟩ | ⟨rfl, rfl⟩ | ⟨rfl, g1, g2⟩ <;> grind (splits := 80)
theorem idx_bk (k a t i : Int) (h : ok k a t) (ha : 0 ≤ a) (ht : 0 ≤ t) (hi : 0 ≤ i) (h0 : 0 ≤ bk k a t i) : idx k a t (bk k a t i) = i := by
  unfold ok at h
  unfold bk idx lf at *
  rcases h with ⟨rfl, rfl⟩ | ⟨rfl, rfl⟩ | ⟨rfl, g1, g2⟩ <;> grind (splits := 80)
theorem bk_from (k a t i : Int) (h : ok k a t) (ha : 0 ≤ a) (ht : 0 ≤ t) (hi : 0 ≤ i) : 0 ≤ bk k a t i ↔ (k ≠ 1 ∨ i ≠ a) := by
  unfold ok at h
  unfold bk lf at *
  rcases h with ⟨rfl, rfl⟩ | ⟨rfl, rfl⟩ | ⟨rfl, g1, g2⟩ <;> grind (splits := 60)
theorem bk_hi (k a t i m : Int) (h : ok k a t) (ha : 0 ≤ a) (ht : 0 ≤ t) (hi : 0 ≤ i) (h1 : i ≤ m) (h2 : a ≤ m) : bk k a t i ≤ m + 1 := by
  unfold ok at h
  unfold bk lf at *
  rcases h with ⟨rfl, rfl⟩ | ⟨rfl, rfl⟩ | ⟨rfl, g1, g2⟩ <;> grind (splits := 60)
/-- a line comes and goes; a line moves and moves back -/
theorem ins_del (a i : Int) (ha : 0 ≤ a) (hi : 0 ≤ i) : idx 2 a 0 (idx 1 a 0 i) = i := by
  unfold idx lf; grind (splits := 60)
theorem mov_back (a t i k s : Int) (ha : 0 ≤ a) (ht : 0 ≤ t) (h1 : t ≠ a) (h2 : t ≠ a + 1) (hi : 0 ≤ i) (hk : k = idx 3 a t a) (hs : s = if k < a then a + 1 else a) : idx 3 k s (idx 3 a t i) = i ∧ ok 3 k s ∧ 0 ≤ k := by
  unfold ok idx lf at *; grind (splits := 80)

/-! ### lists of operations -/
structure Ln where
  k : Int
  a : Int
  t : Int
/-- it may be, and its numbers are from 0 to m -/
def Ln.fine (m : Int) (l : Ln) : Prop := ok l.k l.a l.t ∧ 0 ≤ l.a ∧ l.a ≤ m ∧ 0 ≤ l.t ∧ l.t ≤ m
theorem Ln.fine.mono {m m' : Int} {l : Ln} (h : l.fine m) (hm : m ≤ m') : l.fine m' := ⟨h.1, h.2.1, by have := h.2.2.1; omega, h.2.2.2.1, by have := h.2.2.2.2; omega⟩
def tr (x y : Ln) (pr : Bool) : Option Ln := if trO x.k x.a x.t y.k y.a y.t pr then some ⟨x.k, trA x.k x.a x.t y.k y.a y.t pr, trT x.k x.a x.t y.k y.a y.t pr⟩ else none
def ap (l : Ln) (i : Int) : Int := if i < 0 then i else idx l.k l.a l.t i
def apO : Option Ln → Int → Int
  | none, i => i
  | some l, i => ap l i
def along (l : List Ln) (i : Int) : Int := l.foldl (fun i l => ap l i) i
theorem tr_fine {m : Int} {x y z : Ln} {pr : Bool} (hx : x.fine m) (hy : y.fine m) (h : tr x y pr = some z) : z.fine (m + 1) := by
  unfold tr at h
  split at h
  · rename_i ho
    cases h
    have := tr_may x.k x.a x.t y.k y.a y.t pr hx.2.1 hx.2.2.2.1 hx.1 hy.2.1 hy.2.2.2.1 hy.1 ho m hx.2.2.1 hx.2.2.2.2 hy.2.2.1 hy.2.2.2.2
    exact ⟨this.1, ho.2.1, this.2.2.1, this.2.1, this.2.2.2⟩
  · cases h
/-- side by side: every line, to one place -/
theorem sides (ka aa ta kb ab tb i : Int) (ha : 0 ≤ aa) (hta : 0 ≤ ta) (h : ok ka aa ta) (hb : 0 ≤ ab) (htb : 0 ≤ tb) (h' : ok kb ab tb) (hi : 0 ≤ i) : two ka aa ta kb ab tb i false = two kb ab tb ka aa ta i true := by
  rcases h with ⟨rfl, rfl⟩ | ⟨rfl, rfl⟩ | ⟨rfl, g1, g2⟩ <;> rcases h' with ⟨rfl, rfl⟩ | ⟨rfl, rfl⟩ | ⟨rfl, g3, g4⟩
  · exact s11 aa ab i ha hb hi
  · exact s12 aa ab i ha hb hi
  · exact s13 aa ab tb i ha hb htb g3 g4 hi
  · exact s21 aa ab i ha hb hi
  · exact s22 aa ab i ha hb hi
  · exact s23 aa ab tb i ha hb htb g3 g4 hi
  · exact s31 aa ab ta i ha hb hta g1 g2 hi
  · exact s32 aa ab ta i ha hb hta g1 g2 hi
  · exact s33 aa ta ab tb i ha hta hb htb g3 g4 g1 g2 hi
theorem two_ap (x y : Ln) (i : Int) (hi : 0 ≤ i) (pr : Bool) : two x.k x.a x.t y.k y.a y.t i pr = apO (tr y x pr) (ap x i) := by
  unfold two tr
  have e : ap x i = idx x.k x.a x.t i := by unfold ap; rw [if_neg (by omega)]
  rw [e]
  by_cases ho : trO y.k y.a y.t x.k x.a x.t pr
  · rw [if_pos ho]
    by_cases hn : idx x.k x.a x.t i < 0
    · rw [if_pos (.inl hn)]
      show _ = ap _ _
      unfold ap
      rw [if_pos hn]
    · rw [if_neg (by rintro (h | h); exact hn h; exact h ho)]
      show _ = ap _ _
      unfold ap
      rw [if_neg hn]
  · rw [if_pos (.inr ho), if_neg ho]
    rfl
theorem ap_neg {l : Ln} {i : Int} (h : i < 0) : ap l i = i := by unfold ap; rw [if_pos h]
theorem apO_neg {o : Option Ln} {i : Int} (h : i < 0) : apO o i = i := by cases o; rfl; exact ap_neg h
theorem diamond {m : Int} {x y : Ln} (hx : x.fine m) (hy : y.fine m) (i : Int) : apO (tr y x false) (ap x i) = apO (tr x y true) (ap y i) := by
  by_cases hi : 0 ≤ i
  · rw [← two_ap x y i hi, ← two_ap y x i hi]
    exact sides _ _ _ _ _ _ _ hx.2.1 hx.2.2.2.1 hx.1 hy.2.1 hy.2.2.2.1 hy.1 hi
  · rw [ap_neg (by omega), ap_neg (by omega), apO_neg (by omega), apO_neg (by omega)]
theorem along_app (l m : List Ln) (i : Int) : along (l ++ m) i = along m (along l i) := by unfold along; rw [List.foldl_append]
theorem along_opt (o : Option Ln) (i : Int) : along o.toList i = apO o i := by cases o <;> rfl
/-- one operation through some -/
def pass : Ln → List Ln → Option Ln × List Ln
  | x, [] => (some x, [])
  | x, y :: r => match tr x y true with
    | none => (none, (tr y x false).toList ++ r)
    | some z => ((pass z r).1, (tr y x false).toList ++ (pass z r).2)
theorem pass_fine : ∀ (r : List Ln) {m : Int} {x : Ln}, x.fine m → (∀ y ∈ r, y.fine m) → (∀ z, (pass x r).1 = some z → z.fine (m + r.length)) ∧ ∀ z ∈ (pass x r).2, z.fine (m + r.length)
  | [], m, x, hx, _ => by
    refine ⟨fun z hz => ?_, fun z hz => by simp [pass] at hz⟩
    simp [pass] at hz
    subst hz
    exact hx.mono (by simp)
  | y :: r, m, x, hx, hr => by
    have hy := hr y (by simp)
    have hyf : ∀ z ∈ (tr y x false).toList, z.fine (m + 1) := fun z hz => by
      cases h : tr y x false with
      | none => rw [h] at hz; simp at hz
      | some v => rw [h] at hz; simp at hz; subst hz; exact tr_fine hy hx h
    unfold pass
    cases hz : tr x y true with
    | none =>
      refine ⟨fun z h => (by cases h), fun z h => ?_⟩
      rcases List.mem_append.1 h with h | h
      · exact (hyf z h).mono (by simp; omega)
      · exact (hr z (by simp [h])).mono (by simp; omega)
    | some v =>
      have ih := pass_fine r (m := m + 1) (x := v) (tr_fine hx hy hz) (fun y h => (hr y (by simp [h])).mono (by omega))
      refine ⟨fun z h => (ih.1 z h).mono (by simp; omega), fun z h => ?_⟩
      rcases List.mem_append.1 h with h | h
      · exact (hyf z h).mono (by simp; omega)
      · exact (ih.2 z h).mono (by simp; omega)
theorem pass_ok : ∀ (r : List Ln) {m : Int} {x : Ln}, x.fine m → (∀ y ∈ r, y.fine m) → ∀ i, along (pass x r).2 (ap x i) = apO (pass x r).1 (along r i)
  | [], m, x, hx, _, i => rfl
  | y :: r, m, x, hx, hr, i => by
    have hy := hr y (by simp)
    have hd := diamond hx hy i
    have e : along (y :: r) i = along r (ap y i) := rfl
    rw [e]
    unfold pass
    cases hz : tr x y true with
    | none =>
      rw [hz] at hd
      show along ((tr y x false).toList ++ r) (ap x i) = along r (ap y i)
      rw [along_app, along_opt, hd]
      rfl
    | some v =>
      rw [hz] at hd
      show along ((tr y x false).toList ++ (pass v r).2) (ap x i) = apO (pass v r).1 (along r (ap y i))
      rw [along_app, along_opt, hd]
      exact pass_ok r (m := m + 1) (tr_fine hx hy hz) (fun y h => (hr y (by simp [h])).mono (by omega)) _
/-- some operations through some others -/
def lists : List Ln → List Ln → List Ln × List Ln
  | [], r => ([], r)
  | x :: l, r => ((pass x r).1.toList ++ (lists l (pass x r).2).1, (lists l (pass x r).2).2)
theorem pass_len : ∀ (r : List Ln) (x : Ln), (pass x r).2.length ≤ r.length
  | [], x => by simp [pass]
  | y :: r, x => by
    have ho : ∀ o : Option Ln, o.toList.length ≤ 1 := fun o => by cases o <;> simp
    have := ho (tr y x false)
    unfold pass
    cases tr x y true with
    | none => simp only [List.length_append, List.length_cons]; omega
    | some v => have := pass_len r v; simp only [List.length_append, List.length_cons]; omega
theorem lists_ok : ∀ (l r : List Ln) {m : Int}, (∀ x ∈ l, x.fine m) → (∀ y ∈ r, y.fine m) → ∀ i, along (lists l r).2 (along l i) = along (lists l r).1 (along r i)
  | [], r, m, _, _, i => rfl
  | x :: l, r, m, hl, hr, i => by
    have hp := pass_ok r (hl x (by simp)) hr i
    have hf := pass_fine r (hl x (by simp)) hr
    have ih := lists_ok l (pass x r).2 (m := m + r.length) (fun y h => (hl y (by simp [h])).mono (by omega)) hf.2 (ap x i)
    show along (lists l (pass x r).2).2 (along l (ap x i)) = along ((pass x r).1.toList ++ (lists l (pass x r).2).1) (along r i)
    rw [ih, along_app, along_opt, hp]
end Go.Proofs.Ytkdapaebcjgckaa.Ax
