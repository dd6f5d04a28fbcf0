/- A drawn region by an invariant: one obligation an operation. -/
import Derived.Test.YtbknbffmpnomlaaDl
namespace Go.Proofs.Ytbknbffmpnomlaa

def frA (a0 : Act) (ds : List Nat) (v : Nat → Value) : Act := { a0 with tmps := ds.foldl (fun t d => t.setIfInBounds d (v d)) a0.tmps }
def up (v : Nat → Value) (d : Nat) (x : Value) : Nat → Value := fun t => if t = d then x else v t
def ul (L : Nat → Bool) (i : Nat) : Nat → Bool := fun j => if j = i then true else L j
theorem up_same {v : Nat → Value} {d : Nat} {x : Value} : up v d x d = x := if_pos rfl
theorem up_ne {v : Nat → Value} {d t : Nat} {x : Value} (h : t ≠ d) : up v d x t = v t := if_neg h
theorem ul_same {L : Nat → Bool} {i : Nat} : ul L i i = true := if_pos rfl
theorem ul_ne {L : Nat → Bool} {i j : Nat} (h : j ≠ i) : ul L i j = L j := if_neg h

theorem fold_get (ds : List Nat) (v : Nat → Value) : ∀ (t : Array Value) (j : Nat), (ds.foldl (fun t d => t.setIfInBounds d (v d)) t)[j]? = if j ∈ ds then (t[j]?).map (fun _ => v j) else t[j]? := by
  induction ds with
  | nil => intro t j; simp
  | cons d ds ih =>
    intro t j
    rw [List.foldl_cons, ih]
    by_cases hj : j = d
    · subst hj
      by_cases hm : j ∈ ds
      · simp [hm, Array.getElem?_setIfInBounds]
        split <;> simp_all
      · simp [hm, Array.getElem?_setIfInBounds]
        split <;> simp_all
    · have hne : ¬ d = j := fun h => hj h.symm
      rw [Array.getElem?_setIfInBounds_ne hne]
      simp [hj]
theorem frm_put {a0 : Act} {ds : List Nat} {v : Nat → Value} {d : Nat} {x : Value} (hd : d ∈ ds) : (frA a0 ds v).put (some d) x = frA a0 ds (up v d x) := by
  unfold frA Act.put
  show Act.mk _ _ = Act.mk _ _
  congr 1
  apply Array.ext_getElem?
  intro j
  rw [fold_get]
  by_cases hj : j = d
  · subst hj
    simp only [Array.getElem?_setIfInBounds, if_true]
    have h := fold_get ds v a0.tmps j
    simp only [hd, if_true] at h ⊢
    split
    · rename_i hlt
      rw [Array.getElem?_eq_getElem hlt] at h
      cases h2 : a0.tmps[j]? with
      | none => rw [h2] at h; simp at h
      | some y => simp [up]
    · rename_i hlt
      rw [Array.getElem?_eq_none (Nat.le_of_not_lt hlt)] at h
      cases h2 : a0.tmps[j]? with
      | none => simp
      | some y => rw [h2] at h; simp at h
  · have hne : d ≠ j := fun h => hj h.symm
    rw [Array.getElem?_setIfInBounds_ne hne, fold_get]
    simp only [up, if_neg hj]
theorem frm_self (a0 : Act) (ds : List Nat) : frA a0 ds (fun d => a0.tmps.getD d undef) = a0 := by
  unfold frA
  cases a0 with
  | mk t df =>
    congr 1
    apply Array.ext_getElem?
    intro j
    rw [fold_get]
    split
    · cases h : t[j]? with
      | none => rfl
      | some y => simp [Array.getD_eq_getD_getElem?, h]
    · rfl

section
variable {F : Fence} {n : Nat} {P : Program} {ops : Array Oper} {Q : Exit → Act → World → Prop} {md : Region.Mode}

theorem wpAny_inv {I : Array Bool → Act → World → Prop}
    (hstep : ∀ (i : Nat) (listed : Array Bool) (a : Act) (w : World), I listed a w → i ∈ Region.ready md ops listed → wpOpIn F n P ops Q i (I (listed.setIfInBounds i true)) a w)
    (hdone : ∀ listed a w, I listed a w → Region.ready md ops listed = [] → Q .normal a w) :
    ∀ (fuel : Nat) (listed : Array Bool) (a : Act) (w : World), listed.size = ops.size → listed.toList.count false ≤ fuel → I listed a w → wpAnyIn F n P md ops Q fuel listed a w := by
  intro fuel
  induction fuel with
  | zero =>
    intro listed a w hs hf h
    have hr : Region.ready md ops listed = [] := by
      apply List.eq_nil_iff_forall_not_mem.2
      intro j hj
      obtain ⟨h0, o, ho, _⟩ := mem_ready.1 hj
      have hlt : j < listed.size := by rw [hs]; exact (Array.getElem?_eq_some_iff.1 ho).1
      have hm : false ∈ listed.toList := by
        rw [Array.getD_eq_getD_getElem?, Array.getElem?_eq_getElem hlt] at h0
        simp at h0
        rw [← h0]
        simp
      have := List.count_pos_iff.2 hm
      omega
    exact ⟨hr, hdone _ _ _ h hr⟩
  | succ fuel ih =>
    intro listed a w hs hf h
    refine ⟨fun hr => hdone _ _ _ h hr, fun i hi => ?_⟩
    refine wpOpIn_mono (fun a' w' h' => ih _ a' w' (by simpa using hs) ?_ h') (hstep i listed a w h hi)
    obtain ⟨h0, o, ho, _⟩ := mem_ready.1 hi
    have hlt : i < listed.size := by rw [hs]; exact (Array.getElem?_eq_some_iff.1 ho).1
    have h1 : listed[i] = false := by
      rw [Array.getD_eq_getD_getElem?, Array.getElem?_eq_getElem hlt] at h0
      simpa using h0
    have hc : (listed.setIfInBounds i true).toList.count false + 1 = listed.toList.count false := by
      have e : (listed.setIfInBounds i true).toList = listed.toList.set i true := by simp
      rw [e, List.count_set (by simpa using hlt)]
      have h2 : listed.toList[i]'(by simpa using hlt) = false := by simpa using h1
      have hp : 0 < listed.toList.count false := List.count_pos_iff.2 (by rw [← h2]; exact List.getElem_mem _)
      have h3 : (listed.toList[i]'(by simpa using hlt) == false) = true := by rw [h2]; rfl
      rw [if_pos h3, if_neg (by simp)]
      omega
    omega

/-- all that an operation waits for lies ahead of it -/
def Back (ops : Array Oper) : Bool := (List.range ops.size).all fun i => ((ops[i]?).map (·.after.all fun e => decide (e.on < i))).getD true
theorem all_listed (hb : Back ops = true) {listed : Array Bool} (hs : listed.size = ops.size) (hr : Region.ready md ops listed = []) : ∀ j, j < ops.size → listed.getD j false = true := by
  intro j
  induction j using Nat.strongRecOn with
  | ind j ih =>
    intro hj
    have hlt : j < listed.size := by omega
    cases hl : listed.getD j false with
    | true => rfl
    | false =>
      exfalso
      have hm : j ∈ Region.ready md ops listed := by
        refine mem_ready.2 ⟨?_, ops[j], Array.getElem?_eq_getElem hj, fun e he _ => ?_⟩
        · rw [Array.getD_eq_getD_getElem?, Array.getElem?_eq_getElem hlt] at hl ⊢
          simpa using hl
        · have h1 := List.all_eq_true.1 hb j (List.mem_range.2 hj)
          rw [Array.getElem?_eq_getElem hj] at h1
          simp only [Option.map_some, Option.getD_some] at h1
          have h2 := Array.all_eq_true_iff_forall_mem.1 h1 e he
          have h3 : e.on < j := by simpa using h2
          exact ih e.on h3 (by omega)
      rw [hr] at hm
      cases hm

/-- what must stand behind operation i -/
abbrev Ks (a0 : Act) (ds : List Nat) (J : (Nat → Value) → World → Prop) : Act → World → Prop := fun a w => ∃ v, a = frA a0 ds v ∧ J v w

/-- the operations that this one waits for -/
def deps (o : Oper) : List Nat := (o.after.toList.filter (Region.binds .any)).map (·.on)

def StepAt (F : Fence) (n : Nat) (P : Program) (ops : Array Oper) (Q : Exit → Act → World → Prop) (a0 : Act) (ds : List Nat) (I : (Nat → Bool) → (Nat → Value) → World → Prop) (i : Nat) (o : Oper) : Prop :=
  ∀ L v w, I L v w → L i = false → (∀ j ∈ deps o, L j = true) → wpOpIn F n P ops Q i (Ks a0 ds (I (ul L i))) (frA a0 ds v) w

theorem wp_region_inv {id : Nat} {a0 : Act} {w0 : World} (hm : P.follows .mixedOrders = true) (ds : List Nat) (I : (Nat → Bool) → (Nat → Value) → World → Prop)
    (hb : Back ops = true)
    (hsteps : ∀ i o, ops[i]? = some o → StepAt F n P ops Q a0 ds I i o)
    (h0 : I (fun _ => false) (fun d => a0.tmps.getD d undef) { w0 with drawn := w0.drawn + 1 })
    (hdone : ∀ L v w, (∀ j, j < ops.size → L j = true) → I L v w → Q .normal (frA a0 ds v) w) : (Code.region id ops true).wpIn F n P Q a0 w0 := by
  refine wpIn_region_any hm ?_
  refine wpAny_inv (I := fun listed a w => listed.size = ops.size ∧ Ks a0 ds (I (fun j => listed.getD j false)) a w) ?_ ?_ _ _ _ _ (by simp) (by simp) ?_
  · rintro i listed a w ⟨hs, v, rfl, hI⟩ hi
    obtain ⟨h1, o, ho, hall⟩ := mem_ready.1 hi
    have hlt : i < listed.size := by rw [hs]; exact (Array.getElem?_eq_some_iff.1 ho).1
    refine wpOpIn_mono ?_ (hsteps i o ho (fun j => listed.getD j false) v w hI ?_ ?_)
    · rintro a' w' ⟨v', rfl, h'⟩
      refine ⟨by simpa using hs, v', rfl, ?_⟩
      have e : ul (fun j => listed.getD j false) i = fun j => (listed.setIfInBounds i true).getD j false := by
        funext j
        by_cases hj : j = i
        · subst hj; rw [ul_same]; simp [hlt]
        · rw [ul_ne hj, getD_set_ne false (Ne.symm hj)]
      rw [← e]
      exact h'
    · rw [Array.getD_eq_getD_getElem?, Array.getElem?_eq_getElem hlt] at h1
      show listed.getD i false = false
      rw [Array.getD_eq_getD_getElem?, Array.getElem?_eq_getElem hlt]
      simpa using h1
    · intro j hj
      unfold deps at hj
      obtain ⟨e, he, rfl⟩ := List.mem_map.1 hj
      obtain ⟨he, hbd⟩ := List.mem_filter.1 he
      exact hall e (by simpa using he) hbd
  · rintro listed a w ⟨hs, v, rfl, hI⟩ hr
    exact hdone _ _ _ (fun j hj => all_listed hb hs hr j hj) hI
  · refine ⟨by simp, _, (frm_self a0 ds).symm, ?_⟩
    have e : (fun j => (Array.replicate ops.size false).getD j false) = fun _ => false := by
      funext j
      simp [Array.getD_eq_getD_getElem?, Array.getElem?_replicate]
      split <;> rfl
    rw [e]
    exact h0

variable {a0 : Act} {ds : List Nat} {I : (Nat → Bool) → (Nat → Value) → World → Prop} {J : (Nat → Value) → World → Prop} {v : Nat → Value} {w w' w1 : World} {i : Nat} {o : Oper} {d : Nat} {u : Value}

theorem op_val (ho : ops[i]? = some o) (hg : o.guard = none) (hd : o.dst = some d) (hm : d ∈ ds) (hf : ∀ c, o.op ≠ .defer c) (hab : o.about P w (frA a0 ds v).eval = none) (h : (execOp (frA a0 ds v).eval o).run P w = .ok (.value u) w') (hI : J (up v d u) w') :
    wpOpIn F n P ops Q i (Ks a0 ds J) (frA a0 ds v) w := by
  have hw : Region.wanted o (yielded ops (frA a0 ds v).tmps) = true := by unfold Region.wanted; rw [hg]
  unfold wpOpIn
  simp only [ho, hw, if_true]
  unfold Oper.wpIn
  refine ⟨fun f e => (by rw [hab] at e; cases e), ?_⟩
  rw [Oper.semAt_plain F _ _ hf, h, Oper.uponIn_value, hd]
  exact ⟨up v d u, frm_put hm, hI⟩
theorem op_non (ho : ops[i]? = some o) (hg : o.guard = none) (hd : o.dst = none) (hf : ∀ c, o.op ≠ .defer c) (hab : o.about P w (frA a0 ds v).eval = none) (h : (execOp (frA a0 ds v).eval o).run P w = .ok .skip w') (hI : J v w') :
    wpOpIn F n P ops Q i (Ks a0 ds J) (frA a0 ds v) w := by
  have hw : Region.wanted o (yielded ops (frA a0 ds v).tmps) = true := by unfold Region.wanted; rw [hg]
  unfold wpOpIn
  simp only [ho, hw, if_true]
  unfold Oper.wpIn
  refine ⟨fun f e => (by rw [hab] at e; cases e), ?_⟩
  rw [Oper.semAt_plain F _ _ hf, h, Oper.uponIn_skip, hd]
  exact ⟨v, rfl, hI⟩
end
open Go.RowKit
set_option linter.unusedVariables false
/-- one after the other -/
def SL (S : Nat → Oper → Prop) : Nat → List Oper → Prop
  | _, [] => True
  | k, o :: r => S k o ∧ SL S (k + 1) r
theorem sl_get {S : Nat → Oper → Prop} : ∀ (l : List Oper) (k : Nat), SL S k l → ∀ i o, l[i]? = some o → S (k + i) o
  | [], _, _, i, o, h => by simp at h
  | a :: l, k, hs, i, o, h => by
    cases i with
    | zero => simp at h; subst h; exact hs.1
    | succ i =>
      have := sl_get l (k + 1) hs.2 i o (by simpa using h)
      rw [show k + (i + 1) = k + 1 + i by omega]
      exact this
theorem steps_list {S : Nat → Oper → Prop} {l : List Oper} (h : SL S 0 l) : ∀ i o, l.toArray[i]? = some o → S i o := fun i o ho => by
  have := sl_get l 0 h i o (by simpa using ho)
  rwa [Nat.zero_add] at this
end Go.Proofs.Ytbknbffmpnomlaa
