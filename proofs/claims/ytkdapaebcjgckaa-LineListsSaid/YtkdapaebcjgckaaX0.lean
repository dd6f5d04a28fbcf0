/- Lists of operations side by side, as the law's own functions reckon them, lead every line to one place. -/
import Derived.Test.YtkdapaebcjgckaaV0
namespace Go.Proofs.Ytkdapaebcjgckaa
open Go.RowKit
set_option linter.unusedVariables false

/-- may it be, with numbers to m? -/
def Fm (m : Int) (x : Ax.Ln) : Prop := mayB x.k x.a x.t = true ∧ x.a ≤ m ∧ x.t ≤ m
theorem Fm.mono {m m' : Int} {x : Ax.Ln} (h : Fm m x) (hm : m ≤ m') : Fm m' x := ⟨h.1, by have := h.2.1; omega, by have := h.2.2; omega⟩
theorem Fm.fine {m : Int} {x : Ax.Ln} (h : Fm m x) : x.fine m := by
  obtain ⟨⟨a0, a1⟩, ⟨t0, t1⟩, _⟩ := may_bd h.1
  exact ⟨may_ok h.1, a0, h.2.1, t0, h.2.2⟩
/-- one behind another one, as an option -/
theorem tr_opt {m : Int} {x y : Ax.Ln} (pr : Bool) (hx : Fm m x) (hy : Fm m y) (hm : m + 1 < 2199023255552) :
    Ax.tr x y pr = (if trb x y pr = true then some (trL x y pr) else none) ∧ (trb x y pr = true → Fm (m + 1) (trL x y pr)) := by
  have hp := tr_plain pr hx.1 hy.1 hx.2.1 hx.2.2 hy.2.1 hy.2.2 hm
  have key : trb x y pr = true → trL x y pr = ⟨x.k, Ax.trA x.k x.a x.t y.k y.a y.t pr, Ax.trT x.k x.a x.t y.k y.a y.t pr⟩ := by
    intro hb
    unfold trb at hb
    unfold trL trK trA trT
    rw [hb, if_pos rfl, if_pos rfl, if_pos rfl, hp.2.1, hp.2.2]
  constructor
  · unfold Ax.tr
    cases hb : trb x y pr
    · have hn : ¬ Ax.trO x.k x.a x.t y.k y.a y.t pr := fun h => by
        have := hp.1.2 h
        unfold trb at hb
        rw [hb] at this
        cases this
      rw [if_neg hn, if_neg (by decide)]
    · have hO := hp.1.1 hb
      rw [if_pos hO, if_pos rfl, key hb]
  · intro hb
    have hO := hp.1.1 hb
    obtain ⟨⟨a0, a1⟩, ⟨t0, t1⟩, _⟩ := may_bd hx.1
    obtain ⟨⟨b0, b1⟩, ⟨u0, u1⟩, _⟩ := may_bd hy.1
    have hq := Ax.tr_may x.k x.a x.t y.k y.a y.t pr a0 t0 (may_ok hx.1) b0 u0 (may_ok hy.1) hO m hx.2.1 hx.2.2 hy.2.1 hy.2.2
    have hmm : mayB x.k (Ax.trA x.k x.a x.t y.k y.a y.t pr) (Ax.trT x.k x.a x.t y.k y.a y.t pr) = true := may_mk hO.2.1 (by omega) hq.2.1 (by omega) hq.1
    rw [key hb]
    exact ⟨hmm, hq.2.2.1, hq.2.2.2⟩
/-- what comes behind one that does not stand is left as it is -/
theorem fold_no (r : List Ax.Ln) (x : Ax.Ln) (nx : List Ax.Ln) : r.foldl stp (x, false, nx) = (x, false, nx ++ r) := by
  induction r generalizing nx with
  | nil => simp
  | cons y r ih => rw [List.foldl_cons, stp_no, ih]; simp
/-- one operation through some: the law's way is the plain one -/
theorem fold_pass : ∀ (r : List Ax.Ln) {m : Int} (x : Ax.Ln) (nx : List Ax.Ln), Fm m x → (∀ y ∈ r, Fm m y) → m + r.length < 2199023255551 →
    ((if (r.foldl stp (x, true, nx)).2.1 = true then some (r.foldl stp (x, true, nx)).1 else none) = (Ax.pass x r).1 ∧ (r.foldl stp (x, true, nx)).2.2 = nx ++ (Ax.pass x r).2) ∧
    ((r.foldl stp (x, true, nx)).2.1 = true → Fm (m + r.length) (r.foldl stp (x, true, nx)).1) ∧ ((∀ z ∈ nx, Fm (m + r.length) z) → ∀ z ∈ (r.foldl stp (x, true, nx)).2.2, Fm (m + r.length) z)
  | [], m, x, nx, hx, _, _ => by
    refine ⟨⟨by simp [Ax.pass], by simp [Ax.pass]⟩, fun _ => hx.mono (by simp), fun h => by simpa using h⟩
  | y :: r, m, x, nx, hx, hr, hm => by
    have hy := hr y (by simp)
    have hl : ((y :: r).length : Int) = r.length + 1 := by simp
    rw [hl] at hm
    have t1 := tr_opt true hx hy (by omega)
    have t2 := tr_opt false hy hx (by omega)
    have hstep : ∃ nx', stp (x, true, nx) y = (trL x y true, trb x y true, nx') ∧ nx' = nx ++ (Ax.tr y x false).toList ∧ ((∀ z ∈ nx, Fm (m + (r.length + 1)) z) → ∀ z ∈ nx', Fm (m + (r.length + 1)) z) := by
      cases hb : trb y x false
      · refine ⟨nx, stp_gone hb, ?_, fun h => h⟩
        rw [t2.1, hb]
        simp
      · refine ⟨nx ++ [trL y x false], stp_yes hb, ?_, fun h z hz => ?_⟩
        · rw [t2.1, hb]
          simp
        · rcases List.mem_append.1 hz with hz | hz
          · exact h z hz
          · rw [List.mem_singleton.1 hz]
            exact (t2.2 hb).mono (by omega)
    obtain ⟨nx', e, en, hf⟩ := hstep
    rw [List.foldl_cons, e, hl]
    cases hb : trb x y true
    · rw [fold_no]
      have hp : Ax.pass x (y :: r) = (none, (Ax.tr y x false).toList ++ r) := by
        unfold Ax.pass
        rw [t1.1, hb]
        simp
      rw [hp]
      refine ⟨⟨by simp, by rw [en]; simp⟩, fun h => (by cases h), fun h z hz => ?_⟩
      rcases List.mem_append.1 hz with hz | hz
      · exact hf h z hz
      · exact (hr z (by simp [hz])).mono (by omega)
    · have ih := fold_pass r (m := m + 1) (trL x y true) nx' (t1.2 hb) (fun z hz => (hr z (by simp [hz])).mono (by omega)) (by omega)
      have hp : Ax.pass x (y :: r) = ((Ax.pass (trL x y true) r).1, (Ax.tr y x false).toList ++ (Ax.pass (trL x y true) r).2) := by
        rw [Ax.pass]
        rw [t1.1, hb]
        simp
      rw [hp]
      have he : m + 1 + (r.length : Int) = m + (r.length + 1) := by omega
      rw [he] at ih
      refine ⟨⟨ih.1.1, by rw [ih.1.2, en]; simp⟩, ih.2.1, fun h => ih.2.2 (hf h)⟩
theorem pass_len' (x : Ax.Ln) (r : List Ax.Ln) : (Ax.pass x r).2.length ≤ r.length := Ax.pass_len r x
/-- lists through lists: the law's way is the plain one -/
theorem fold_lists : ∀ (a : List Ax.Ln) {m : Int} (o r : List Ax.Ln), (∀ x ∈ a, Fm m x) → (∀ y ∈ r, Fm m y) → (∀ z ∈ o, Fm (m + 6 * a.length) z) → r.length ≤ 6 → m + 6 * a.length + 6 < 2199023255551 →
    a.foldl stO (o, r) = (o ++ (Ax.lists a r).1, (Ax.lists a r).2) ∧ (∀ z ∈ (a.foldl stO (o, r)).1, Fm (m + 6 * a.length) z) ∧ (∀ z ∈ (a.foldl stO (o, r)).2, Fm (m + 6 * a.length) z) ∧ (a.foldl stO (o, r)).1.length ≤ o.length + a.length ∧ (a.foldl stO (o, r)).2.length ≤ 6
  | [], m, o, r, _, hr, ho, h6, hm => by
    simp [Ax.lists] at *
    exact ⟨ho, hr, h6⟩
  | x :: a, m, o, r, ha, hr, ho, h6, hm => by
    have hl : ((x :: a).length : Int) = a.length + 1 := by simp
    rw [hl] at ho hm
    have hp := fold_pass r x [] (ha x (by simp)) hr (by omega)
    have hpl := pass_len' x r
    rw [List.foldl_cons, hl]
    obtain ⟨z, ok, nx, hs⟩ : ∃ z ok nx, r.foldl stp (x, true, []) = (z, ok, nx) := ⟨_, _, _, rfl⟩
    rw [hs] at hp
    simp only [List.nil_append] at hp
    obtain ⟨⟨h1, h2⟩, h3, h4⟩ := hp
    have hnx : ∀ z ∈ nx, Fm (m + r.length) z := h4 (fun z hz => by simp at hz)
    have e : stO (o, r) x = ((if ok = true then o ++ [z] else o), nx) := by
      unfold stO
      simp only [hs]
    have ho' : ∀ y ∈ (if ok = true then o ++ [z] else o), Fm (m + 6 + 6 * a.length) y := by
      intro y hy
      cases ok
      · exact (ho y hy).mono (by omega)
      · rcases List.mem_append.1 hy with hy | hy
        · exact (ho y hy).mono (by omega)
        · rw [List.mem_singleton.1 hy]
          exact (h3 rfl).mono (by omega)
    have ih := fold_lists a (m := m + 6) (if ok = true then o ++ [z] else o) nx (fun y hy => (ha y (by simp [hy])).mono (by omega)) (fun y hy => (hnx y hy).mono (by omega)) ho' (by rw [h2]; omega) (by omega)
    rw [e]
    have he : m + 6 + 6 * (a.length : Int) = m + 6 * (a.length + 1) := by omega
    rw [he] at ih
    refine ⟨?_, ih.2.1, ih.2.2.1, ?_, ih.2.2.2.2⟩
    · rw [ih.1]
      have hL : Ax.lists (x :: a) r = ((Ax.pass x r).1.toList ++ (Ax.lists a (Ax.pass x r).2).1, (Ax.lists a (Ax.pass x r).2).2) := rfl
      rw [hL, ← h1, ← h2]
      cases ok <;> simp
    · have hlen := ih.2.2.2.1
      have : (if ok = true then o ++ [z] else o).length ≤ o.length + 1 := by cases ok <;> simp
      simp only [List.length_cons]
      omega
theorem along_plain : ∀ (L : List Ax.Ln) {m b i : Int}, (∀ x ∈ L, Fm m x) → i ≤ b → m ≤ b → b + L.length ≤ 1152921504606846976 → alongX L i = Ax.along L i ∧ alongX L i ≤ b + L.length
  | [], m, b, i, _, h1, _, _ => ⟨rfl, by simpa [alongX] using h1⟩
  | x :: L, m, b, i, hL, h1, h2, h3 => by
    have hl : ((x :: L).length : Int) = L.length + 1 := by simp
    rw [hl] at h3 ⊢
    have hx := hL x (by simp)
    obtain ⟨⟨a0, a1⟩, ⟨t0, t1⟩, _⟩ := may_bd hx.1
    by_cases hi : i < 0
    · have e : Ax.along (x :: L) i = Ax.along L i := by
        show Ax.along L (Ax.ap x i) = _
        rw [Ax.ap_neg hi]
      have ih := along_plain L (i := i) (fun y hy => hL y (by simp [hy])) h1 h2 (by omega)
      rw [e, ← ih.1, alongX_neg _ hi, alongX_neg _ hi]
      exact ⟨rfl, by omega⟩
    · have e : Ax.along (x :: L) i = Ax.along L (Ax.idx x.k x.a x.t i) := by
        show Ax.along L (Ax.ap x i) = _
        unfold Ax.ap
        rw [if_neg hi]
      have hu := Ax.idx_hi x.k x.a x.t i b (may_ok hx.1) a0 t0 (by omega) h1 (by have := hx.2.2; omega)
      have ih := along_plain L (i := Ax.idx x.k x.a x.t i) (b := b + 1) (fun y hy => hL y (by simp [hy])) hu (by omega) (by omega)
      rw [e, alongX_cons x L (by omega), ix_yes hx.1 (pl_mk (by omega) (by omega))]
      exact ⟨ih.1, by have := ih.2; omega⟩
/-- the law's own claim: every line, to one place -/
theorem lists_meet {A B : List Ax.Ln} (hA : ∀ x ∈ A, Fm 549755813888 x) (hB : ∀ y ∈ B, Fm 549755813888 y) (lA : A.length ≤ 6) (lB : B.length ≤ 6) (i : Int) (hi : i ≤ 30) :
    alongX (listsX A B).2 (alongX A i) = alongX (listsX A B).1 (alongX B i) ∧ (listsX A B).1.length ≤ 6 ∧ (listsX A B).2.length ≤ 6 := by
  have hf := fold_lists A [] B hA hB (fun z hz => by simp at hz) lB (by omega)
  have hA' := along_plain A (m := 549755813888) (b := 549755813888) (i := i) hA (by omega) (by omega) (by omega)
  have hB' := along_plain B (m := 549755813888) (b := 549755813888) (i := i) hB (by omega) (by omega) (by omega)
  have e : listsX A B = ((Ax.lists A B).1, (Ax.lists A B).2) := by
    have := hf.1
    simpa [listsX] using this
  have l1 : (listsX A B).1.length ≤ 6 := by have := hf.2.2.2.1; unfold listsX; simp at this; omega
  have l2 : (listsX A B).2.length ≤ 6 := hf.2.2.2.2
  have f1 : ∀ z ∈ (listsX A B).1, Fm (549755813888 + 6 * A.length) z := hf.2.1
  have f2 : ∀ z ∈ (listsX A B).2, Fm (549755813888 + 6 * A.length) z := hf.2.2.1
  have p2 := along_plain (listsX A B).2 (b := 549755813888 + 6 * A.length + 6) (i := alongX A i) f2 (by have := hA'.2; omega) (by omega) (by omega)
  have p1 := along_plain (listsX A B).1 (b := 549755813888 + 6 * A.length + 6) (i := alongX B i) f1 (by have := hB'.2; omega) (by omega) (by omega)
  refine ⟨?_, l1, l2⟩
  rw [p2.1, p1.1, hA'.1, hB'.1, e]
  exact Ax.lists_ok A B (m := 549755813888) (fun x hx => (hA x hx).fine) (fun y hy => (hB y hy).fine) i
end Go.Proofs.Ytkdapaebcjgckaa
