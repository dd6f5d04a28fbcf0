/- Operations on lines, plainly: two that were made side by side, and lists of them, lead every line to one place. No program in this text. -/
import Derived.Test.YtkdapaebcjgckaaAy1
import Derived.Test.YtkdapaebcjgckaaAy2
import Derived.Test.YtkdapaebcjgckaaAy3
import Derived.Test.YtkdapaebcjgckaaAy4
namespace Go.Proofs.Ytkdapaebcjgckaa.Ax
set_option linter.unusedVariables false
set_option linter.unusedSimpArgs false
set_option maxHeartbeats 4000000
theorem s11 (a b i : Int) (ha : 0 ≤ a) (hb : 0 ≤ b) (hi : 0 ≤ i) : two 1 a 0 1 b 0 i false = two 1 b 0 1 a 0 i true := by
  unfold two trO trA trT idx gap lf; simp only [Int.reduceEq, reduceIte, if_true, if_false, Bool.not_true, Bool.not_false, and_true, and_false, or_false, true_and, false_and, not_false_eq_true, true_or, Bool.false_eq_true, reduceCtorEq, false_implies, forall_const, not_true_eq_false, imp_self, ne_eq]; omega
theorem s12 (a b i : Int) (ha : 0 ≤ a) (hb : 0 ≤ b) (hi : 0 ≤ i) : two 1 a 0 2 b 0 i false = two 2 b 0 1 a 0 i true := by
  unfold two trO trA trT idx gap lf; simp only [Int.reduceEq, reduceIte, if_true, if_false, Bool.not_true, Bool.not_false, and_true, and_false, or_false, true_and, false_and, not_false_eq_true, true_or, Bool.false_eq_true, reduceCtorEq, false_implies, forall_const, not_true_eq_false, imp_self, ne_eq]; omega
theorem s21 (a b i : Int) (ha : 0 ≤ a) (hb : 0 ≤ b) (hi : 0 ≤ i) : two 2 a 0 1 b 0 i false = two 1 b 0 2 a 0 i true := by
  unfold two trO trA trT idx gap lf; simp only [Int.reduceEq, reduceIte, if_true, if_false, Bool.not_true, Bool.not_false, and_true, and_false, or_false, true_and, false_and, not_false_eq_true, true_or, Bool.false_eq_true, reduceCtorEq, false_implies, forall_const, not_true_eq_false, imp_self, ne_eq]; omega
theorem s22 (a b i : Int) (ha : 0 ≤ a) (hb : 0 ≤ b) (hi : 0 ≤ i) : two 2 a 0 2 b 0 i false = two 2 b 0 2 a 0 i true := by
  unfold two trO trA trT idx gap lf; simp only [Int.reduceEq, reduceIte, if_true, if_false, Bool.not_true, Bool.not_false, and_true, and_false, or_false, true_and, false_and, not_false_eq_true, true_or, Bool.false_eq_true, reduceCtorEq, false_implies, forall_const, not_true_eq_false, imp_self, ne_eq]; omega
theorem s13 (a b t i : Int) (ha : 0 ≤ a) (hb : 0 ≤ b) (ht : 0 ≤ t) (h1 : t ≠ b) (h2 : t ≠ b + 1) (hi : 0 ≤ i) : two 1 a 0 3 b t i false = two 3 b t 1 a 0 i true := by
  unfold two trO trA trT idx gap lf; simp only [Int.reduceEq, reduceIte, if_true, if_false, Bool.not_true, Bool.not_false, and_true, and_false, or_false, true_and, false_and, not_false_eq_true, true_or, Bool.false_eq_true, reduceCtorEq, false_implies, forall_const, not_true_eq_false, imp_self, ne_eq]; omega

theorem s31 (a b t i : Int) (ha : 0 ≤ a) (hb : 0 ≤ b) (ht : 0 ≤ t) (h1 : t ≠ a) (h2 : t ≠ a + 1) (hi : 0 ≤ i) : two 3 a t 1 b 0 i false = two 1 b 0 3 a t i true := by
  unfold two trO trA trT idx gap lf; simp only [Int.reduceEq, reduceIte, if_true, if_false, Bool.not_true, Bool.not_false, and_true, and_false, or_false, true_and, false_and, not_false_eq_true, true_or, Bool.false_eq_true, reduceCtorEq, false_implies, forall_const, not_true_eq_false, imp_self, ne_eq]; omega

theorem s23 (a b t i : Int) (ha : 0 ≤ a) (hb : 0 ≤ b) (ht : 0 ≤ t) (h1 : t ≠ b) (h2 : t ≠ b + 1) (hi : 0 ≤ i) : two 2 a 0 3 b t i false = two 3 b t 2 a 0 i true := by
  unfold two trO trA trT idx gap lf; simp only [Int.reduceEq, reduceIte, if_true, if_false, Bool.not_true, Bool.not_false, and_true, and_false, or_false, true_and, false_and, not_false_eq_true, true_or, Bool.false_eq_true, reduceCtorEq, false_implies, forall_const, not_true_eq_false, imp_self, ne_eq]; omega

theorem s32 (a b t i : Int) (ha : 0 ≤ a) (hb : 0 ≤ b) (ht : 0 ≤ t) (h1 : t ≠ a) (h2 : t ≠ a + 1) (hi : 0 ≤ i) : two 3 a t 2 b 0 i false = two 2 b 0 3 a t i true := by
  unfold two trO trA trT idx gap lf; simp only [Int.reduceEq, reduceIte, if_true, if_false, Bool.not_true, Bool.not_false, and_true, and_false, or_false, true_and, false_and, not_false_eq_true, true_or, Bool.false_eq_true, reduceCtorEq, false_implies, forall_const, not_true_eq_false, imp_self, ne_eq]; omega

theorem s33 (a s b t i : Int) (ha : 0 ≤ a) (hs : 0 ≤ s) (hb : 0 ≤ b) (ht : 0 ≤ t) (h1 : t ≠ b) (h2 : t ≠ b + 1) (h3 : s ≠ a) (h4 : s ≠ a + 1) (hi : 0 ≤ i) : two 3 a s 3 b t i false = two 3 b t 3 a s i true := by
  have hx : a < b ∨ a = b ∨ b < a := by omega
  have hy : s < a ∨ a + 1 < s := by omega
  have hz : t < b ∨ b + 1 < t := by omega
  have hu : i < a ∨ i = a ∨ a < i := by omega
  rcases hx with c1 | c1 | c1 <;> rcases hy with c2 | c2 <;> rcases hz with c3 | c3 <;> rcases hu with c4 | c4 | c4
  · exact q0 a s b t i ha hs hb ht h1 h2 h3 h4 hi c1 c2 c3 c4
  · exact q1 a s b t i ha hs hb ht h1 h2 h3 h4 hi c1 c2 c3 c4
  · exact q2 a s b t i ha hs hb ht h1 h2 h3 h4 hi c1 c2 c3 c4
  · exact q3 a s b t i ha hs hb ht h1 h2 h3 h4 hi c1 c2 c3 c4
  · exact q4 a s b t i ha hs hb ht h1 h2 h3 h4 hi c1 c2 c3 c4
  · exact q5 a s b t i ha hs hb ht h1 h2 h3 h4 hi c1 c2 c3 c4
  · exact q6 a s b t i ha hs hb ht h1 h2 h3 h4 hi c1 c2 c3 c4
  · exact q7 a s b t i ha hs hb ht h1 h2 h3 h4 hi c1 c2 c3 c4
  · exact q8 a s b t i ha hs hb ht h1 h2 h3 h4 hi c1 c2 c3 c4
  · exact q9 a s b t i ha hs hb ht h1 h2 h3 h4 hi c1 c2 c3 c4
  · exact q10 a s b t i ha hs hb ht h1 h2 h3 h4 hi c1 c2 c3 c4
  · exact q11 a s b t i ha hs hb ht h1 h2 h3 h4 hi c1 c2 c3 c4
  · exact q12 a s b t i ha hs hb ht h1 h2 h3 h4 hi c1 c2 c3 c4
  · exact q13 a s b t i ha hs hb ht h1 h2 h3 h4 hi c1 c2 c3 c4
  · exact q14 a s b t i ha hs hb ht h1 h2 h3 h4 hi c1 c2 c3 c4
  · exact q15 a s b t i ha hs hb ht h1 h2 h3 h4 hi c1 c2 c3 c4
  · exact q16 a s b t i ha hs hb ht h1 h2 h3 h4 hi c1 c2 c3 c4
  · exact q17 a s b t i ha hs hb ht h1 h2 h3 h4 hi c1 c2 c3 c4
  · exact q18 a s b t i ha hs hb ht h1 h2 h3 h4 hi c1 c2 c3 c4
  · exact q19 a s b t i ha hs hb ht h1 h2 h3 h4 hi c1 c2 c3 c4
  · exact q20 a s b t i ha hs hb ht h1 h2 h3 h4 hi c1 c2 c3 c4
  · exact q21 a s b t i ha hs hb ht h1 h2 h3 h4 hi c1 c2 c3 c4
  · exact q22 a s b t i ha hs hb ht h1 h2 h3 h4 hi c1 c2 c3 c4
  · exact q23 a s b t i ha hs hb ht h1 h2 h3 h4 hi c1 c2 c3 c4
  · exact q24 a s b t i ha hs hb ht h1 h2 h3 h4 hi c1 c2 c3 c4
  · exact q25 a s b t i ha hs hb ht h1 h2 h3 h4 hi c1 c2 c3 c4
  · exact q26 a s b t i ha hs hb ht h1 h2 h3 h4 hi c1 c2 c3 c4
  · exact q27 a s b t i ha hs hb ht h1 h2 h3 h4 hi c1 c2 c3 c4
  · exact q28 a s b t i ha hs hb ht h1 h2 h3 h4 hi c1 c2 c3 c4
  · exact q29 a s b t i ha hs hb ht h1 h2 h3 h4 hi c1 c2 c3 c4
  · exact q30 a s b t i ha hs hb ht h1 h2 h3 h4 hi c1 c2 c3 c4
  · exact q31 a s b t i ha hs hb ht h1 h2 h3 h4 hi c1 c2 c3 c4
  · exact q32 a s b t i ha hs hb ht h1 h2 h3 h4 hi c1 c2 c3 c4
  · exact q33 a s b t i ha hs hb ht h1 h2 h3 h4 hi c1 c2 c3 c4
  · exact q34 a s b t i ha hs hb ht h1 h2 h3 h4 hi c1 c2 c3 c4
  · exact q35 a s b t i ha hs hb ht h1 h2 h3 h4 hi c1 c2 c3 c4

/- lists of operations -/
structure Ln where
  k : Int
  a : Int
  t : Int
/-- it may be, and its numbers are from 0 to m -/
def Ln.fine (m : Int) (l : Ln) : Prop := ok l.k l.a l.t ∧ 0 ≤ l.a ∧ l.a ≤ m ∧ 0 ≤ l.t ∧ l.t ≤ m
theorem Ln.fine.mono {m m' : Int} {l : Ln} (h : l.fine m) (hm : m ≤ m') : l.fine m' := ⟨h.1, h.2.1, by have := h.2.2.1; omega, h.2.2.2.1, by have := h.2.2.2.2; omega⟩
def tr (x y : Ln) (pr : Bool) : Option Ln := if trO x.k x.a x.t y.k y.a y.t pr then some ⟨x.k, trA x.k x.a x.t y.k y.a y.t pr, trT x.k x.a x.t y.k y.a y.t pr⟩ else none
def ap (l : Ln) (i : Int) : Int := if i < 0 then i else idx l.k l.a l.t i
def apO : Option Ln → Int → Int
  | none, i => i
  | some l, i => ap l i
def along (l : List Ln) (i : Int) : Int := l.foldl (fun i l => ap l i) i
theorem tr_fine {m : Int} {x y z : Ln} {pr : Bool} (hx : x.fine m) (hy : y.fine m) (h : tr x y pr = some z) : z.fine (m + 1) := by
  unfold tr at h
  split at h
  · rename_i ho
    cases h
    have := tr_may x.k x.a x.t y.k y.a y.t pr hx.2.1 hx.2.2.2.1 hx.1 hy.2.1 hy.2.2.2.1 hy.1 ho m hx.2.2.1 hx.2.2.2.2 hy.2.2.1 hy.2.2.2.2
    exact ⟨this.1, ho.2.1, this.2.2.1, this.2.1, this.2.2.2⟩
  · cases h
/-- side by side: every line, to one place -/
theorem sides (ka aa ta kb ab tb i : Int) (ha : 0 ≤ aa) (hta : 0 ≤ ta) (h : ok ka aa ta) (hb : 0 ≤ ab) (htb : 0 ≤ tb) (h' : ok kb ab tb) (hi : 0 ≤ i) : two ka aa ta kb ab tb i false = two kb ab tb ka aa ta i true := by
  rcases h with ⟨rfl, rfl⟩ | ⟨rfl, rfl⟩ | ⟨rfl, g1, g2⟩ <;> rcases h' with ⟨rfl, rfl⟩ | ⟨rfl, rfl⟩ | ⟨rfl, g3, g4⟩
  · exact s11 aa ab i ha hb hi
  · exact s12 aa ab i ha hb hi
  · exact s13 aa ab tb i ha hb htb g3 g4 hi
  · exact s21 aa ab i ha hb hi
  · exact s22 aa ab i ha hb hi
  · exact s23 aa ab tb i ha hb htb g3 g4 hi
  · exact s31 aa ab ta i ha hb hta g1 g2 hi
  · exact s32 aa ab ta i ha hb hta g1 g2 hi
  · exact s33 aa ta ab tb i ha hta hb htb g3 g4 g1 g2 hi
theorem two_ap (x y : Ln) (i : Int) (hi : 0 ≤ i) (pr : Bool) : two x.k x.a x.t y.k y.a y.t i pr = apO (tr y x pr) (ap x i) := by
  unfold two tr
  have e : ap x i = idx x.k x.a x.t i := by unfold ap; rw [if_neg (by omega)]
  rw [e]
  by_cases ho : trO y.k y.a y.t x.k x.a x.t pr
  · rw [if_pos ho]
    by_cases hn : idx x.k x.a x.t i < 0
    · rw [if_pos (.inl hn)]
      show _ = ap _ _
      unfold ap
      rw [if_pos hn]
    · rw [if_neg (by rintro (h | h); exact hn h; exact h ho)]
      show _ = ap _ _
      unfold ap
      rw [if_neg hn]
  · rw [if_pos (.inr ho), if_neg ho]
    rfl
theorem ap_neg {l : Ln} {i : Int} (h : i < 0) : ap l i = i := by unfold ap; rw [if_pos h]
theorem apO_neg {o : Option Ln} {i : Int} (h : i < 0) : apO o i = i := by cases o; rfl; exact ap_neg h
theorem diamond {m : Int} {x y : Ln} (hx : x.fine m) (hy : y.fine m) (i : Int) : apO (tr y x false) (ap x i) = apO (tr x y true) (ap y i) := by
  by_cases hi : 0 ≤ i
  · rw [← two_ap x y i hi, ← two_ap y x i hi]
    exact sides _ _ _ _ _ _ _ hx.2.1 hx.2.2.2.1 hx.1 hy.2.1 hy.2.2.2.1 hy.1 hi
  · rw [ap_neg (by omega), ap_neg (by omega), apO_neg (by omega), apO_neg (by omega)]
theorem along_app (l m : List Ln) (i : Int) : along (l ++ m) i = along m (along l i) := by unfold along; rw [List.foldl_append]
theorem along_opt (o : Option Ln) (i : Int) : along o.toList i = apO o i := by cases o <;> rfl
/-- one operation through some -/
def pass : Ln → List Ln → Option Ln × List Ln
  | x, [] => (some x, [])
  | x, y :: r => match tr x y true with
    | none => (none, (tr y x false).toList ++ r)
    | some z => ((pass z r).1, (tr y x false).toList ++ (pass z r).2)
theorem pass_fine : ∀ (r : List Ln) {m : Int} {x : Ln}, x.fine m → (∀ y ∈ r, y.fine m) → (∀ z, (pass x r).1 = some z → z.fine (m + r.length)) ∧ ∀ z ∈ (pass x r).2, z.fine (m + r.length)
  | [], m, x, hx, _ => by
    refine ⟨fun z hz => ?_, fun z hz => by simp [pass] at hz⟩
    simp [pass] at hz
    subst hz
    exact hx.mono (by simp)
  | y :: r, m, x, hx, hr => by
    have hy := hr y (by simp)
    have hyf : ∀ z ∈ (tr y x false).toList, z.fine (m + 1) := fun z hz => by
      cases h : tr y x false with
      | none => rw [h] at hz; simp at hz
      | some v => rw [h] at hz; simp at hz; subst hz; exact tr_fine hy hx h
    unfold pass
    cases hz : tr x y true with
    | none =>
      refine ⟨fun z h => (by cases h), fun z h => ?_⟩
      rcases List.mem_append.1 h with h | h
      · exact (hyf z h).mono (by simp; omega)
      · exact (hr z (by simp [h])).mono (by simp; omega)
    | some v =>
      have ih := pass_fine r (m := m + 1) (x := v) (tr_fine hx hy hz) (fun y h => (hr y (by simp [h])).mono (by omega))
      refine ⟨fun z h => (ih.1 z h).mono (by simp; omega), fun z h => ?_⟩
      rcases List.mem_append.1 h with h | h
      · exact (hyf z h).mono (by simp; omega)
      · exact (ih.2 z h).mono (by simp; omega)
theorem pass_ok : ∀ (r : List Ln) {m : Int} {x : Ln}, x.fine m → (∀ y ∈ r, y.fine m) → ∀ i, along (pass x r).2 (ap x i) = apO (pass x r).1 (along r i)
  | [], m, x, hx, _, i => rfl
  | y :: r, m, x, hx, hr, i => by
    have hy := hr y (by simp)
    have hd := diamond hx hy i
    have e : along (y :: r) i = along r (ap y i) := rfl
    rw [e]
    unfold pass
    cases hz : tr x y true with
    | none =>
      rw [hz] at hd
      show along ((tr y x false).toList ++ r) (ap x i) = along r (ap y i)
      rw [along_app, along_opt, hd]
      rfl
    | some v =>
      rw [hz] at hd
      show along ((tr y x false).toList ++ (pass v r).2) (ap x i) = apO (pass v r).1 (along r (ap y i))
      rw [along_app, along_opt, hd]
      exact pass_ok r (m := m + 1) (tr_fine hx hy hz) (fun y h => (hr y (by simp [h])).mono (by omega)) _
/-- some operations through some others -/
def lists : List Ln → List Ln → List Ln × List Ln
  | [], r => ([], r)
  | x :: l, r => ((pass x r).1.toList ++ (lists l (pass x r).2).1, (lists l (pass x r).2).2)
theorem pass_len : ∀ (r : List Ln) (x : Ln), (pass x r).2.length ≤ r.length
  | [], x => by simp [pass]
  | y :: r, x => by
    have ho : ∀ o : Option Ln, o.toList.length ≤ 1 := fun o => by cases o <;> simp
    have := ho (tr y x false)
    unfold pass
    cases tr x y true with
    | none => simp only [List.length_append, List.length_cons]; omega
    | some v => have := pass_len r v; simp only [List.length_append, List.length_cons]; omega
theorem lists_ok : ∀ (l r : List Ln) {m : Int}, (∀ x ∈ l, x.fine m) → (∀ y ∈ r, y.fine m) → ∀ i, along (lists l r).2 (along l i) = along (lists l r).1 (along r i)
  | [], r, m, _, _, i => rfl
  | x :: l, r, m, hl, hr, i => by
    have hp := pass_ok r (hl x (by simp)) hr i
    have hf := pass_fine r (hl x (by simp)) hr
    have ih := lists_ok l (pass x r).2 (m := m + r.length) (fun y h => (hl y (by simp [h])).mono (by omega)) hf.2 (ap x i)
    show along (lists l (pass x r).2).2 (along l (ap x i)) = along ((pass x r).1.toList ++ (lists l (pass x r).2).1) (along r i)
    rw [ih, along_app, along_opt, hp]
end Go.Proofs.Ytkdapaebcjgckaa.Ax
