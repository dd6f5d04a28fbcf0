/- A drawn region by an invariant, outside every fence. -/
import Derived.Test.YtbknbffmpnomlaaEq
namespace Go.Proofs.Ytbknbffmpnomlaa
open Go.RowKit
set_option linter.unusedVariables false
section
variable {P : Program} {ops : Array Oper} {Q : Exit → Act → World → Prop} {md : Region.Mode}

theorem wpAny_invp {I : Array Bool → Act → World → Prop}
    (hstep : ∀ (i : Nat) (listed : Array Bool) (a : Act) (w : World), I listed a w → i ∈ Region.ready md ops listed → wpOp P ops Q i (I (listed.setIfInBounds i true)) a w)
    (hdone : ∀ listed a w, I listed a w → Region.ready md ops listed = [] → Q .normal a w) :
    ∀ (fuel : Nat) (listed : Array Bool) (a : Act) (w : World), listed.size = ops.size → listed.toList.count false ≤ fuel → I listed a w → wpAny P md ops Q fuel listed a w := by
  intro fuel
  induction fuel with
  | zero =>
    intro listed a w hs hf h
    have hr : Region.ready md ops listed = [] := by
      apply List.eq_nil_iff_forall_not_mem.2
      intro j hj
      obtain ⟨h0, o, ho, _⟩ := mem_ready.1 hj
      have hlt : j < listed.size := by rw [hs]; exact (Array.getElem?_eq_some_iff.1 ho).1
      have hm : false ∈ listed.toList := by
        rw [Array.getD_eq_getD_getElem?, Array.getElem?_eq_getElem hlt] at h0
        simp at h0
        rw [← h0]
        simp
      have := List.count_pos_iff.2 hm
      omega
    exact ⟨hr, hdone _ _ _ h hr⟩
  | succ fuel ih =>
    intro listed a w hs hf h
    refine ⟨fun hr => hdone _ _ _ h hr, fun i hi => ?_⟩
    refine wpOp_mono (fun a' w' h' => ih _ a' w' (by simpa using hs) ?_ h') (hstep i listed a w h hi)
    obtain ⟨h0, o, ho, _⟩ := mem_ready.1 hi
    have hlt : i < listed.size := by rw [hs]; exact (Array.getElem?_eq_some_iff.1 ho).1
    have h1 : listed[i] = false := by
      rw [Array.getD_eq_getD_getElem?, Array.getElem?_eq_getElem hlt] at h0
      simpa using h0
    have hc : (listed.setIfInBounds i true).toList.count false + 1 = listed.toList.count false := by
      have e : (listed.setIfInBounds i true).toList = listed.toList.set i true := by simp
      rw [e, List.count_set (by simpa using hlt)]
      have h2 : listed.toList[i]'(by simpa using hlt) = false := by simpa using h1
      have hp : 0 < listed.toList.count false := List.count_pos_iff.2 (by rw [← h2]; exact List.getElem_mem _)
      have h3 : (listed.toList[i]'(by simpa using hlt) == false) = true := by rw [h2]; rfl
      rw [if_pos h3, if_neg (by simp)]
      omega
    omega

def StepP (P : Program) (ops : Array Oper) (Q : Exit → Act → World → Prop) (a0 : Act) (ds : List Nat) (I : (Nat → Bool) → (Nat → Value) → World → Prop) (i : Nat) (o : Oper) : Prop :=
  ∀ L v w, I L v w → L i = false → (∀ j ∈ deps o, L j = true) → wpOp P ops Q i (Ks a0 ds (I (ul L i))) (frA a0 ds v) w
theorem wp_region_invp {id : Nat} {a0 : Act} {w0 : World} (hm : P.follows .mixedOrders = true) (ds : List Nat) (I : (Nat → Bool) → (Nat → Value) → World → Prop)
    (hb : Back ops = true)
    (hsteps : ∀ i o, ops[i]? = some o → StepP P ops Q a0 ds I i o)
    (h0 : I (fun _ => false) (fun d => a0.tmps.getD d undef) { w0 with drawn := w0.drawn + 1 })
    (hdone : ∀ L v w, (∀ j, j < ops.size → L j = true) → I L v w → Q .normal (frA a0 ds v) w) : (Code.region id ops true).wp P Q a0 w0 := by
  refine wp_region_any hm ?_
  refine wpAny_invp (I := fun listed a w => listed.size = ops.size ∧ Ks a0 ds (I (fun j => listed.getD j false)) a w) ?_ ?_ _ _ _ _ (by simp) (by simp) ?_
  · rintro i listed a w ⟨hs, v, rfl, hI⟩ hi
    obtain ⟨h1, o, ho, hall⟩ := mem_ready.1 hi
    have hlt : i < listed.size := by rw [hs]; exact (Array.getElem?_eq_some_iff.1 ho).1
    refine wpOp_mono ?_ (hsteps i o ho (fun j => listed.getD j false) v w hI ?_ ?_)
    · rintro a' w' ⟨v', rfl, h'⟩
      refine ⟨by simpa using hs, v', rfl, ?_⟩
      have e : ul (fun j => listed.getD j false) i = fun j => (listed.setIfInBounds i true).getD j false := by
        funext j
        by_cases hj : j = i
        · subst hj; rw [ul_same]; simp [hlt]
        · rw [ul_ne hj, getD_set_ne false (Ne.symm hj)]
      rw [← e]
      exact h'
    · rw [Array.getD_eq_getD_getElem?, Array.getElem?_eq_getElem hlt] at h1
      show listed.getD i false = false
      rw [Array.getD_eq_getD_getElem?, Array.getElem?_eq_getElem hlt]
      simpa using h1
    · intro j hj
      unfold deps at hj
      obtain ⟨e, he, rfl⟩ := List.mem_map.1 hj
      obtain ⟨he, hbd⟩ := List.mem_filter.1 he
      exact hall e (by simpa using he) hbd
  · rintro listed a w ⟨hs, v, rfl, hI⟩ hr
    exact hdone _ _ _ (fun j hj => all_listed hb hs hr j hj) hI
  · refine ⟨by simp, _, (frm_self a0 ds).symm, ?_⟩
    have e : (fun j => (Array.replicate ops.size false).getD j false) = fun _ => false := by
      funext j
      simp [Array.getD_eq_getD_getElem?, Array.getElem?_replicate]
      split <;> rfl
    rw [e]
    exact h0

variable {a0 : Act} {ds : List Nat} {I : (Nat → Bool) → (Nat → Value) → World → Prop} {J : (Nat → Value) → World → Prop} {v : Nat → Value} {w w' w1 : World} {i : Nat} {o : Oper} {d : Nat} {u : Value}
theorem op_valp (ho : ops[i]? = some o) (hg : o.guard = none) (hd : o.dst = some d) (hm : d ∈ ds) (h : (execOp (frA a0 ds v).eval o).run P w = .ok (.value u) w') (hI : J (up v d u) w') :
    wpOp P ops Q i (Ks a0 ds J) (frA a0 ds v) w := by
  refine wpOp_step ho fun K' hK => ?_
  have hw : Region.wanted o (yielded ops (frA a0 ds v).tmps) = true := by unfold Region.wanted; rw [hg]
  rw [if_pos hw]
  unfold Oper.wp
  rw [h, Oper.upon_value, hd]
  exact hK _ _ ⟨up v d u, frm_put hm, hI⟩
theorem op_callp (ho : ops[i]? = some o) (hg : o.guard = none) (hd : o.dst = some d) (hm : d ∈ ds) {f : FuncId} {args : Array Value} (h : (execOp (frA a0 ds v).eval o).run P w = .ok (.enter f args) w1)
    (hc : Calls P f args w1 fun e w' => ∃ u, e = .returned u ∧ J (up v d u) w') :
    wpOp P ops Q i (Ks a0 ds J) (frA a0 ds v) w := by
  refine wpOp_step ho fun K' hK => ?_
  have hw : Region.wanted o (yielded ops (frA a0 ds v).tmps) = true := by unfold Region.wanted; rw [hg]
  rw [if_pos hw]
  unfold Oper.wp
  rw [h, Oper.upon_enter, hd]
  refine hc.mono ?_
  rintro e w2 ⟨u, rfl, hI⟩
  exact hK _ _ ⟨up v d u, frm_put hm, hI⟩
end
theorem ev_in {a0 : Act} {ds : List Nat} {v : Nat → Value} {d : Nat} (hm : d ∈ ds) (hs : (a0.tmps[d]?).isSome = true) : (frA a0 ds v).eval (.tmp d) = v d := by
  have h : (frA a0 ds v).tmps[d]? = some (v d) := by
    show (ds.foldl (fun t d => t.setIfInBounds d (v d)) a0.tmps)[d]? = _
    rw [fold_get, if_pos hm]
    cases h : a0.tmps[d]? with
    | none => rw [h] at hs; cases hs
    | some x => rfl
  show (frA a0 ds v).tmps.getD d undef = v d
  rw [Array.getD_eq_getD_getElem?, h]
  rfl
/-- what an operation that has come up waits for has come up -/
def Cl (ops : Array Oper) (L : Nat → Bool) : Prop := ∀ i o, ops[i]? = some o → L i = true → ∀ j ∈ deps o, L j = true
theorem Cl.step {ops : Array Oper} {L : Nat → Bool} (h : Cl ops L) {i : Nat} {o : Oper} (ho : ops[i]? = some o) (hd : ∀ j ∈ deps o, L j = true) : Cl ops (ul L i) := by
  intro i' o' ho' hl j hj
  have key : L j = true := by
    by_cases e : i' = i
    · subst e
      rw [ho] at ho'
      cases ho'
      exact hd j hj
    · rw [ul_ne e] at hl
      exact h i' o' ho' hl j hj
  by_cases e : j = i
  · subst e
    exact ul_same
  · rw [ul_ne e]
    exact key
/-- values that stand ahead of operation n, an append; what it makes; where that is put -/
structure GI (ops : Array Oper) (n : Nat) (d : Nat → Nat) (e : Nat) (wb : World) (Φ : Nat → Value → World → Prop) (Ψ : Value → World → Prop) (z0 : Value) (L : Nat → Bool) (v : Nat → Value) (W : World) : Prop where
  cl : Cl ops L
  z : L (n + 1) = false → v e = z0
  a : L n = false → Go.Proofs.Ytbknbffmpnomlaa.Q wb W ∧ ∀ k, k < n → L k = true → Φ k (v (d k)) W
  b : L n = true → Ψ (v (d n)) W ∧ (L (n + 1) = true → v e = v (d n))
/-- what is asked of the region's text and of the values -/
structure GA (ops : Array Oper) (n : Nat) (d : Nat → Nat) (e : Nat) (Φ : Nat → Value → World → Prop) : Prop where
  all : ∀ L, Cl ops L → L n = true → ∀ k, k < n → L k = true
  last : ∀ L, Cl ops L → L (n + 1) = true → L n = true
  on : ∀ j, j < n → ∀ u W W', Φ j u W → Go.Proofs.Ytbknbffmpnomlaa.Q W W' → Φ j u W'
  inj : ∀ j k, j < n + 1 → k < n + 1 → j ≠ k → d j ≠ d k
  ne : ∀ k, k < n + 1 → d k ≠ e
section
variable {ops : Array Oper} {n : Nat} {d : Nat → Nat} {e : Nat} {wb : World} {Φ : Nat → Value → World → Prop} {Ψ : Value → World → Prop} {L : Nat → Bool} {v : Nat → Value} {W W' : World} {u z0 : Value} {o : Oper}
theorem GI.no (J : GI ops n d e wb Φ Ψ z0 L v W) (A : GA ops n d e Φ) {k : Nat} (hk : k < n) (hL : L k = false) : L n = false := by
  cases h : L n with
  | false => rfl
  | true => rw [A.all L J.cl h k hk] at hL; cases hL
theorem GI.nz (J : GI ops n d e wb Φ Ψ z0 L v W) (A : GA ops n d e Φ) {k : Nat} (hk : k < n) (hL : L k = false) : v e = z0 := J.z (by
  cases h : L (n + 1) with
  | false => rfl
  | true =>
    have := J.no A hk hL
    rw [A.last L J.cl h] at this
    cases this)
theorem GI.st (J : GI ops n d e wb Φ Ψ z0 L v W) (A : GA ops n d e Φ) (k : Nat) (hk : k < n) (ho : ops[k]? = some o) (hL : L k = false) (hd : ∀ j ∈ deps o, L j = true) (hq : Go.Proofs.Ytbknbffmpnomlaa.Q W W') (hΦ : Φ k u W') : GI ops n d e wb Φ Ψ z0 (ul L k) (up v (d k) u) W' := by
  have hn := J.no A hk hL
  obtain ⟨h1, h2⟩ := J.a hn
  refine ⟨J.cl.step ho hd, fun h => by rw [ul_ne (by omega)] at h; rw [up_ne (Ne.symm (A.ne k (by omega)))]; exact J.z h, fun _ => ⟨Go.Proofs.Ytbknbffmpnomlaa.Q.trans h1 (Go.Proofs.Ytbknbffmpnomlaa.Q.trans (Go.Proofs.Ytbknbffmpnomlaa.Q.refl _) hq), fun j hj hl => ?_⟩, fun h => ?_⟩
  · by_cases ej : j = k
    · subst ej
      rw [up_same]
      exact hΦ
    · rw [ul_ne ej] at hl
      rw [up_ne (A.inj j k (by omega) (by omega) ej)]
      exact A.on j hj _ _ _ (h2 j hj hl) hq
  · rw [ul_ne (by omega), hn] at h
    cases h
theorem GI.rdy (J : GI ops n d e wb Φ Ψ z0 L v W) (A : GA ops n d e Φ) (ho : ops[n]? = some o) (hL : L n = false) (hd : ∀ j ∈ deps o, L j = true) : Go.Proofs.Ytbknbffmpnomlaa.Q wb W ∧ ∀ k, k < n → Φ k (v (d k)) W := by
  obtain ⟨h1, h2⟩ := J.a hL
  refine ⟨h1, fun k hk => h2 k hk ?_⟩
  have := A.all _ (J.cl.step ho hd) ul_same k hk
  rwa [ul_ne (by omega)] at this
theorem GI.ap (J : GI ops n d e wb Φ Ψ z0 L v W) (A : GA ops n d e Φ) (ho : ops[n]? = some o) (hL : L n = false) (hd : ∀ j ∈ deps o, L j = true) (hΨ : Ψ u W') : GI ops n d e wb Φ Ψ z0 (ul L n) (up v (d n) u) W' := by
  refine ⟨J.cl.step ho hd, fun h => by rw [ul_ne (by omega)] at h; rw [up_ne (Ne.symm (A.ne n (by omega)))]; exact J.z h, fun h => (by rw [ul_same] at h; cases h), fun _ => ⟨by rw [up_same]; exact hΨ, fun h => ?_⟩⟩
  rw [ul_ne (by omega)] at h
  rw [A.last L J.cl h] at hL
  cases hL
theorem GI.as (J : GI ops n d e wb Φ Ψ z0 L v W) (A : GA ops n d e Φ) (ho : ops[n + 1]? = some o) (hn : L n = true) (hd : ∀ j ∈ deps o, L j = true) (hu : u = v (d n)) : GI ops n d e wb Φ Ψ z0 (ul L (n + 1)) (up v e u) W := by
  obtain ⟨h1, h2⟩ := J.b hn
  refine ⟨J.cl.step ho hd, fun h => (by rw [ul_same] at h; cases h), fun h => (by rw [ul_ne (by omega), hn] at h; cases h), fun _ => ⟨by rw [up_ne (A.ne n (by omega))]; exact h1, fun _ => by rw [up_same, up_ne (A.ne n (by omega))]; exact hu⟩⟩
theorem GI.start {wb W : World} {v : Nat → Value} (hz : v e = z0) (h : Go.Proofs.Ytbknbffmpnomlaa.Q wb W) : GI ops n d e wb Φ Ψ z0 (fun _ => false) v W := ⟨fun i o _ h => (by cases h), fun _ => hz, fun _ => ⟨h, fun k _ h => (by cases h)⟩, fun h => (by cases h)⟩
end
theorem wp_region_gi {P : Program} {ops : Array Oper} {Q' : Exit → Act → World → Prop} {id : Nat} {a0 : Act} {w0 : World} (hm : P.follows .mixedOrders = true) (ds : List Nat) (n : Nat) (d : Nat → Nat) (e : Nat) (wb : World) (Φ : Nat → Value → World → Prop) (Ψ : Value → World → Prop) (hb : Back ops = true) (hsz : ops.size = n + 2) (hq : Q wb w0)
    (A : GA ops n d e Φ) (hsteps : GA ops n d e Φ → ∀ i o, ops[i]? = some o → StepP P ops Q' a0 ds (GI ops n d e wb Φ Ψ (a0.tmps.getD e undef)) i o)
    (hdone : ∀ v W, Ψ (v (d n)) W → v e = v (d n) → Q' .normal (frA a0 ds v) W) : (Code.region id ops true).wp P Q' a0 w0 :=
  wp_region_invp hm ds _ hb (hsteps A) (GI.start rfl hq.drew) (fun L v W hL J => by
    obtain ⟨h1, h2⟩ := J.b (hL n (by omega))
    exact hdone v W h1 (h2 (hL (n + 1) (by omega))))
theorem ex_append {P : Program} {w w' : World} {o : Oper} {f : Operand → Value} {s x : Operand} {T : Array TypeId} (hop : o.op = .call { callee := .builtin .append, args := #[s, x], argTypes := T }) {v u v' : Value} (hs : f s = v) (hx : f x = u) (r : (Builtin.append_ T o.type #[v, u]).run P w = .ok v' w') :
    (execOp f o).run P w = .ok (.value v') w' := by
  unfold execOp
  simp only [hop, resolve, invoke, builtin, Sem.run_bind, Sem.run_pure, Result.andThen_ok, List.map_toArray, List.map_cons, List.map_nil, hs, hx, r]
theorem ex_call {P : Program} {w : World} {o : Oper} {f : Operand → Value} {g : FuncId} {s x : Operand} {T : Array TypeId} (hop : o.op = .call { callee := .value (.func g), args := #[s, x], argTypes := T }) {u1 u2 : Value} (hs : f s = u1) (hx : f x = u2) (hev : f (.func g) = .func (.func g) #[] #[]) (hf : ∀ args w, (callFunc g args).run P w = .ok (.enter g args) w) :
    (execOp f o).run P w = .ok (.enter g #[u1, u2]) w := by
  simp [execOp, hop, resolve, Deferred.ofValue, invoke, hs, hx, hev, hf]
theorem run_file (w : World) (ty : TypeId) (B : Nat) (v : Value) (ms : List Fn) (hown : Own ef 58 2 B w v ms) (m : Fn) (q : Nat) (hq : Bk w 58 q (ef m).toArray) (hb : ms.length ≤ 100000) (hB : B ≤ w.heap.size) :
    ∃ v' w', (Builtin.append_ #[55, 55] ty #[v, .slice (some ⟨q, 0, none⟩) 1 1]).run Try.prog w = .ok v' w' ∧ Own ef 58 2 B w' v' (ms ++ [m]) ∧ w.grownBy w' v.ownBlock := by
  obtain ⟨i0, hi, hz0, hz1, hz2⟩ := inf_of info58
  obtain ⟨v', w', r1, r2, r3, r4, r5⟩ := run_append_own_at (P := Try.prog) w B 55 ty 58 i0 _ 2 40 Try.underlying55 hi hz0 hz1 hz2 rfl (by decide) v ms.length (flat ef ms) hown ⟨q, 0, none⟩ 1 1 (ef m) (by rw [ef_len]) (fun j u hj => by
    rw [add_lit, Nat.zero_add]
    exact hq.c j u (by rw [List.getElem?_toArray]; exact hj)) (fun u hu => by
    obtain ⟨mx, ⟨ma, mn, mc⟩, mL⟩ := m
    simp only [ef, List.mem_cons, List.not_mem_nil, or_false] at hu
    rcases hu with rfl | rfl <;> rfl) (by unfold maxLen; omega) (by omega) hB
  exact ⟨v', w', r1, own_snoc r2, r3⟩
/-- what stands in the region of 'without(without(l, x.Name), x.To)' and a file */ -/
def F19 (l : Value) (xb : Nat) (dx dy : ByteArray) (fv : Value) (F : List Fn) (B : Nat) : Nat → Value → World → Prop
  | 0, u, _ => u = l
  | 1, u, _ => u = .pointer (some ⟨xb, 1, none⟩)
  | 2, u, _ => u = .string dx
  | 3, u, W => Own ef 58 2 B W u (wof F dx)
  | 4, u, _ => u = .pointer (some ⟨xb, 2, none⟩)
  | 5, u, _ => u = .string dy
  | 6, u, W => Own ef 58 2 B W u (wof (wof F dx) dy)
  | 7, u, _ => u = .agg #[.string dy, fv]
  | 8, u, W => ∃ b, u = .slice (some ⟨b, 0, none⟩) 1 1 ∧ Bk W 58 b #[.string dy, fv]
  | _, _, _ => True
theorem f19_on {l : Value} {xb : Nat} {dx dy : ByteArray} {fv : Value} {F : List Fn} {B : Nat} : ∀ j, j < 9 → ∀ u W W', F19 l xb dx dy fv F B j u W → Q W W' → F19 l xb dx dy fv F B j u W'
  | 0, _, u, W, W', h, q => h
  | 1, _, u, W, W', h, q => h
  | 2, _, u, W, W', h, q => h
  | 3, _, u, W, W', h, q => Own.on h q
  | 4, _, u, W, W', h, q => h
  | 5, _, u, W, W', h, q => h
  | 6, _, u, W, W', h, q => Own.on h q
  | 7, _, u, W, W', h, q => h
  | 8, _, u, W, W', ⟨b, h1, h2⟩, q => ⟨b, h1, h2.on q⟩
  | n + 9, h, _, _, _, _, _ => absurd h (by omega)
end Go.Proofs.Ytbknbffmpnomlaa
