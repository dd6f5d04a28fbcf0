/- Trees and readers of words, plainly: the reference's and the program's; The program reads what the reference reads; DERIVED: THE SHELF's CONTRACTS AT THIS DUMP, IN PLAIN WORDS (tools/lay-plain.mjs out of 'TryzShb.lean', which tools/lay-shelf.mjs wrote): THE SAME DECLARATIONS UNDER THE SAME NAMES: 'import', 'namespace', 'open', 'def', 'theorem' AND NOTHING ELSE: no command of the shelf's: FOR A HAND-IN. Each laying: the table of numbers ('.._ren') and one theorem, a field a fact of the dump's own or the kernel's comparison; each contract: ONE APPLICATION; A drawn region by an invariant: one obligation an operation; Two trees held against each other by a list of pairs still open and pairs begun, plainly. -/
import Derived.Lib.Strings
import Derived.Shelf.Strconv.Itoa4
import Derived.Test.YtngnakdbhkjbjaaGreatDoorProg
import Derived.RegionTactic
set_option linter.unusedVariables false
set_option linter.unusedSimpArgs false
namespace Go.Proofs.YtngnakdbhkjbjaaGreatDoor
abbrev Rf := List UInt8 × Int × Int × Bool × Bool
/-- a tree -/
structure Ex where
  mk ::
  (k n : Int) (t : List UInt8) (b : Bool) (e : Int) (rs : List Rf) (ks : List Ex)
/-- the zero tree -/
def zeroE : Ex := .mk 0 0 [] false 0 [] []
/-- how an operator binds; 0: none -/
def lvl (t : List UInt8) : Nat :=
  if t = [61] then 1 else if t = [60, 62] then 1 else if t = [60] then 1 else if t = [60, 61] then 1 else if t = [62] then 1 else if t = [62, 61] then 1 else if t = [38] then 2 else if t = [43] then 3 else if t = [45] then 3 else if t = [42] then 4 else if t = [47] then 4 else 0
def truW : List UInt8 := [84, 82, 85, 69]
def flsW : List UInt8 := [70, 65, 76, 83, 69]
/-- how many nodes a tree has -/
def nodes : Ex → Nat
  | .mk _ _ _ _ _ _ ks => 1 + nodesL ks
  where
  nodesL : List Ex → Nat
  | [] => 0
  | x :: xs => nodes x + nodesL xs
theorem nodesL_snoc (ks : List Ex) (x : Ex) : nodes.nodesL (ks ++ [x]) = nodes.nodesL ks + nodes x := by
  induction ks with
  | nil => simp [nodes.nodesL]
  | cons y ys ih => rw [List.cons_append, nodes.nodesL, nodes.nodesL, ih]; omega
end Go.Proofs.YtngnakdbhkjbjaaGreatDoor
namespace Go.Proofs
open Go.Shelf
def Tryz.laysM173_ren : Go.Shelf.Ren := ⟨fun | 173 => 124 | 246 => 129 | 283 => 149 | 284 => 150 | 285 => 151 | 286 => 152 | 129 => 140 | 317 => 161 | 318 => 162 | 319 => 163 | 320 => 164 | 337 => 167 | 338 => 168 | n => n, fun | 2 => 2 | 3 => 3 | 9 => 9 | 4 => 4 | 171 => 170 | 0 => 0 | 53 => 137 | 37 => 154 | 5 => 5 | 173 => 172 | 212 => 182 | 51 => 143 | 20 => 20 | 213 => 183 | 46 => 122 | 232 => 188 | 233 => 189 | n => n, fun | 17 => 4 | 18 => 5 | 19 => 6 | n => n⟩
theorem Tryz.laysM173 : Go.Proofs.LaysM.n173 Tryz.prog Tryz.laysM173_ren := {
  mixed := by kernel_rfl
  f129 := Tryz.func140.trans (congrArg some (by kernel_rfl))
  f173 := Tryz.func124.trans (congrArg some (by kernel_rfl))
  f246 := Tryz.func129.trans (congrArg some (by kernel_rfl))
  f283 := Tryz.func149.trans (congrArg some (by kernel_rfl))
  f284 := Tryz.func150.trans (congrArg some (by kernel_rfl))
  f285 := Tryz.func151.trans (congrArg some (by kernel_rfl))
  f286 := Tryz.func152.trans (congrArg some (by kernel_rfl))
  f317 := Tryz.func161.trans (congrArg some (by kernel_rfl))
  f318 := Tryz.func162.trans (congrArg some (by kernel_rfl))
  f319 := Tryz.func163.trans (congrArg some (by kernel_rfl))
  f320 := Tryz.func164.trans (congrArg some (by kernel_rfl))
  f337 := Tryz.func167.trans (congrArg some (by kernel_rfl))
  f338 := Tryz.func168.trans (congrArg some (by kernel_rfl))
  t0 := Tryz.underlying0
  a0 := Tryz.isAgg0
  z0 := Tryz.sizeOf0
  v0 := Tryz.zeroValue0
  t2 := Tryz.underlying2
  a2 := Tryz.isAgg2
  z2 := Tryz.sizeOf2
  v2 := Tryz.zeroValue2
  t3 := Tryz.underlying3
  a3 := Tryz.isAgg3
  z3 := Tryz.sizeOf3
  v3 := Tryz.zeroValue3
  t4 := Tryz.underlying4
  a4 := Tryz.isAgg4
  z4 := Tryz.sizeOf4
  v4 := Tryz.zeroValue4
  t5 := Tryz.underlying5
  a5 := Tryz.isAgg5
  z5 := Tryz.sizeOf5
  v5 := Tryz.zeroValue5
  t9 := Tryz.underlying9
  a9 := Tryz.isAgg9
  z9 := Tryz.sizeOf9
  v9 := Tryz.zeroValue9
  t20 := Tryz.underlying20
  a20 := Tryz.isAgg20
  z20 := Tryz.sizeOf20
  v20 := Tryz.zeroValue20
  t37 := Tryz.underlying154
  a37 := Tryz.isAgg154
  z37 := Tryz.sizeOf154
  v37 := Tryz.zeroValue154
  t46 := Tryz.underlying122
  a46 := Tryz.isAgg122
  z46 := Tryz.sizeOf122
  v46 := Tryz.zeroValue122
  t51 := Tryz.underlying143
  a51 := Tryz.isAgg143
  z51 := Tryz.sizeOf143
  v51 := Tryz.zeroValue143
  t53 := Tryz.underlying137
  a53 := Tryz.isAgg137
  z53 := Tryz.sizeOf137
  v53 := Tryz.zeroValue137
  t171 := Tryz.underlying170
  a171 := Tryz.isAgg170
  z171 := Tryz.sizeOf170
  v171 := Tryz.zeroValue170
  t173 := Tryz.underlying172
  a173 := Tryz.isAgg172
  z173 := Tryz.sizeOf172
  v173 := Tryz.zeroValue172
  t212 := Tryz.underlying182
  a212 := Tryz.isAgg182
  z212 := Tryz.sizeOf182
  v212 := Tryz.zeroValue182
  t213 := Tryz.underlying183
  a213 := Tryz.isAgg183
  z213 := Tryz.sizeOf183
  t232 := Tryz.underlying188
  a232 := Tryz.isAgg188
  z232 := Tryz.sizeOf188
  v232 := Tryz.zeroValue188
  t233 := Tryz.underlying189
  a233 := Tryz.isAgg189
  z233 := Tryz.sizeOf189
  v233 := Tryz.zeroValue189
  g17 := by kernel_rfl
  g18 := by kernel_rfl
  g19 := by kernel_rfl
  i0 := by kernel_rfl
  i2 := by kernel_rfl
  i3 := by kernel_rfl
  i4 := by kernel_rfl
  i5 := by kernel_rfl
  i9 := by kernel_rfl
  i20 := by kernel_rfl
  i37 := by kernel_rfl
  i46 := by kernel_rfl
  i51 := by kernel_rfl
  i53 := by kernel_rfl
  i171 := by kernel_rfl
  i173 := by kernel_rfl
  i212 := by kernel_rfl
  i232 := by kernel_rfl
  i233 := by kernel_rfl
  m17 := by kernel_rfl
  m18 := by kernel_rfl
  m19 := by kernel_rfl }
open Go.RowKit Go.Sort Go.Lib in
/-- strconv.FormatInt: "FormatInt returns the string representation of i in the given base": AT BASE 10: i's decimal numeral, for every int64. (LAID: no walk: one application.) -/
theorem Tryz.strconv_FormatInt_10 (n : Int) (h0 : -9223372036854775808 ≤ n) (h1 : n ≤ 9223372036854775807) (w : World) (htab : Lib.TabIs Tryz.prog w "internal/strconv.uint64pow10" .u64 Lib.pow10Tab) :
    Calls Tryz.prog 124 #[.int .i64 n, .int .i64 10] w fun e w' => e = .returned (.string ⟨(Lib.itoa n).toArray⟩) ∧ ∃ k os, w' = grow (w.drewN k) os := Any.strconv_FormatInt_10 Tryz.laysM173 n h0 h1 w htab
end Go.Proofs
namespace Go.Proofs.YtngnakdbhkjbjaaGreatDoor.IV
set_option linter.unusedVariables false
set_option linter.unusedSimpArgs false
def frm (a0 : Act) (ds : List Nat) (v : Nat → Value) : Act := { a0 with tmps := ds.foldl (fun t d => t.setIfInBounds d (v d)) a0.tmps }
def up (v : Nat → Value) (d : Nat) (x : Value) : Nat → Value := fun t => if t = d then x else v t
def ul (L : Nat → Bool) (i : Nat) : Nat → Bool := fun j => if j = i then true else L j
theorem up_same {v : Nat → Value} {d : Nat} {x : Value} : up v d x d = x := if_pos rfl
theorem up_ne {v : Nat → Value} {d t : Nat} {x : Value} (h : t ≠ d) : up v d x t = v t := if_neg h
theorem ul_same {L : Nat → Bool} {i : Nat} : ul L i i = true := if_pos rfl
theorem ul_ne {L : Nat → Bool} {i j : Nat} (h : j ≠ i) : ul L i j = L j := if_neg h
theorem fold_get (ds : List Nat) (v : Nat → Value) : ∀ (t : Array Value) (j : Nat), (ds.foldl (fun t d => t.setIfInBounds d (v d)) t)[j]? = if j ∈ ds then (t[j]?).map (fun _ => v j) else t[j]? := by
  induction ds with
  | nil => intro t j; simp
  | cons d ds ih =>
    intro t j
    rw [List.foldl_cons, ih]
    by_cases hj : j = d
    · subst hj
      by_cases hm : j ∈ ds
      · simp [hm, Array.getElem?_setIfInBounds]
        split <;> simp_all
      · simp [hm, Array.getElem?_setIfInBounds]
        split <;> simp_all
    · have hne : ¬ d = j := fun h => hj h.symm
      rw [Array.getElem?_setIfInBounds_ne hne]
      simp [hj]
theorem frm_put {a0 : Act} {ds : List Nat} {v : Nat → Value} {d : Nat} {x : Value} (hd : d ∈ ds) : (frm a0 ds v).put (some d) x = frm a0 ds (up v d x) := by
  unfold frm Act.put
  show Act.mk _ _ = Act.mk _ _
  congr 1
  apply Array.ext_getElem?
  intro j
  rw [fold_get]
  by_cases hj : j = d
  · subst hj
    simp only [Array.getElem?_setIfInBounds, if_true]
    have h := fold_get ds v a0.tmps j
    simp only [hd, if_true] at h ⊢
    split
    · rename_i hlt
      rw [Array.getElem?_eq_getElem hlt] at h
      cases h2 : a0.tmps[j]? with
      | none => rw [h2] at h; simp at h
      | some y => simp [up]
    · rename_i hlt
      rw [Array.getElem?_eq_none (Nat.le_of_not_lt hlt)] at h
      cases h2 : a0.tmps[j]? with
      | none => simp
      | some y => rw [h2] at h; simp at h
  · have hne : d ≠ j := fun h => hj h.symm
    rw [Array.getElem?_setIfInBounds_ne hne, fold_get]
    simp only [up, if_neg hj]
theorem frm_self (a0 : Act) (ds : List Nat) : frm a0 ds (fun d => a0.tmps.getD d undef) = a0 := by
  unfold frm
  cases a0 with
  | mk t df =>
    congr 1
    apply Array.ext_getElem?
    intro j
    rw [fold_get]
    split
    · cases h : t[j]? with
      | none => rfl
      | some y => simp [Array.getD_eq_getD_getElem?, h]
    · rfl
section
variable {P : Program} {ops : Array Oper} {Q : Exit → Act → World → Prop} {md : Region.Mode}
theorem wpAny_inv {I : Array Bool → Act → World → Prop}
    (hstep : ∀ (i : Nat) (listed : Array Bool) (a : Act) (w : World), I listed a w → i ∈ Region.ready md ops listed → wpOp P ops Q i (I (listed.setIfInBounds i true)) a w)
    (hdone : ∀ listed a w, I listed a w → Region.ready md ops listed = [] → Q .normal a w) :
    ∀ (fuel : Nat) (listed : Array Bool) (a : Act) (w : World), listed.size = ops.size → listed.toList.count false ≤ fuel → I listed a w → wpAny P md ops Q fuel listed a w := by
  intro fuel
  induction fuel with
  | zero =>
    intro listed a w hs hf h
    have hr : Region.ready md ops listed = [] := by
      apply List.eq_nil_iff_forall_not_mem.2
      intro j hj
      obtain ⟨h0, o, ho, _⟩ := mem_ready.1 hj
      have hlt : j < listed.size := by rw [hs]; exact (Array.getElem?_eq_some_iff.1 ho).1
      have hm : false ∈ listed.toList := by
        rw [Array.getD_eq_getD_getElem?, Array.getElem?_eq_getElem hlt] at h0
        simp at h0
        rw [← h0]
        simp
      have := List.count_pos_iff.2 hm
      omega
    exact ⟨hr, hdone _ _ _ h hr⟩
  | succ fuel ih =>
    intro listed a w hs hf h
    refine ⟨fun hr => hdone _ _ _ h hr, fun i hi => ?_⟩
    refine wpOp_mono (fun a' w' h' => ih _ a' w' (by simpa using hs) ?_ h') (hstep i listed a w h hi)
    obtain ⟨h0, o, ho, _⟩ := mem_ready.1 hi
    have hlt : i < listed.size := by rw [hs]; exact (Array.getElem?_eq_some_iff.1 ho).1
    have h1 : listed[i] = false := by
      rw [Array.getD_eq_getD_getElem?, Array.getElem?_eq_getElem hlt] at h0
      simpa using h0
    have hc : (listed.setIfInBounds i true).toList.count false + 1 = listed.toList.count false := by
      have e : (listed.setIfInBounds i true).toList = listed.toList.set i true := by simp
      rw [e, List.count_set (by simpa using hlt)]
      have h2 : listed.toList[i]'(by simpa using hlt) = false := by simpa using h1
      have hp : 0 < listed.toList.count false := List.count_pos_iff.2 (by rw [← h2]; exact List.getElem_mem _)
      have h3 : (listed.toList[i]'(by simpa using hlt) == false) = true := by rw [h2]; rfl
      rw [if_pos h3, if_neg (by simp)]
      omega
    omega
/-- all that an operation waits for lies ahead of it -/
def Back (ops : Array Oper) : Bool := (List.range ops.size).all fun i => ((ops[i]?).map (·.after.all fun e => !Region.binds .any e || decide (e.on < i))).getD true
theorem all_listed (hb : Back ops = true) {listed : Array Bool} (hs : listed.size = ops.size) (hr : Region.ready .any ops listed = []) : ∀ j, j < ops.size → listed.getD j false = true := by
  intro j
  induction j using Nat.strongRecOn with
  | ind j ih =>
    intro hj
    have hlt : j < listed.size := by omega
    cases hl : listed.getD j false with
    | true => rfl
    | false =>
      exfalso
      have hm : j ∈ Region.ready .any ops listed := by
        refine mem_ready.2 ⟨?_, ops[j], Array.getElem?_eq_getElem hj, fun e he hbd => ?_⟩
        · rw [Array.getD_eq_getD_getElem?, Array.getElem?_eq_getElem hlt] at hl ⊢
          simpa using hl
        · have h1 := List.all_eq_true.1 hb j (List.mem_range.2 hj)
          rw [Array.getElem?_eq_getElem hj] at h1
          simp only [Option.map_some, Option.getD_some] at h1
          have h2 := Array.all_eq_true_iff_forall_mem.1 h1 e he
          have h3 : e.on < j := by simpa [hbd] using h2
          exact ih e.on h3 (by omega)
      rw [hr] at hm
      cases hm
/-- what must stand behind operation i -/
abbrev Ks (a0 : Act) (ds : List Nat) (J : (Nat → Value) → World → Prop) : Act → World → Prop := fun a w => ∃ v, a = frm a0 ds v ∧ J v w
/-- the operations that this one waits for -/
def deps (o : Oper) : List Nat := (o.after.toList.filter (Region.binds .any)).map (·.on)
def StepAt (P : Program) (ops : Array Oper) (Q : Exit → Act → World → Prop) (a0 : Act) (ds : List Nat) (I : (Nat → Bool) → (Nat → Value) → World → Prop) (i : Nat) (o : Oper) : Prop :=
  ∀ L v w, I L v w → L i = false → (∀ j ∈ deps o, L j = true) → wpOp P ops Q i (Ks a0 ds (I (ul L i))) (frm a0 ds v) w
theorem wp_region_inv {id : Nat} {a0 : Act} {w0 : World} (hm : P.follows .mixedOrders = true) (ds : List Nat) (I : (Nat → Bool) → (Nat → Value) → World → Prop)
    (hb : Back ops = true)
    (hsteps : ∀ i o, ops[i]? = some o → StepAt P ops Q a0 ds I i o)
    (h0 : I (fun _ => false) (fun d => a0.tmps.getD d undef) { w0 with drawn := w0.drawn + 1 })
    (hdone : ∀ L v w, (∀ j, j < ops.size → L j = true) → I L v w → Q .normal (frm a0 ds v) w) : (Code.region id ops true).wp P Q a0 w0 := by
  refine wp_region_any hm ?_
  refine wpAny_inv (I := fun listed a w => listed.size = ops.size ∧ Ks a0 ds (I (fun j => listed.getD j false)) a w) ?_ ?_ _ _ _ _ (by simp) (by simp) ?_
  · rintro i listed a w ⟨hs, v, rfl, hI⟩ hi
    obtain ⟨h1, o, ho, hall⟩ := mem_ready.1 hi
    have hlt : i < listed.size := by rw [hs]; exact (Array.getElem?_eq_some_iff.1 ho).1
    refine wpOp_mono ?_ (hsteps i o ho (fun j => listed.getD j false) v w hI ?_ ?_)
    · rintro a' w' ⟨v', rfl, h'⟩
      refine ⟨by simpa using hs, v', rfl, ?_⟩
      have e : ul (fun j => listed.getD j false) i = fun j => (listed.setIfInBounds i true).getD j false := by
        funext j
        by_cases hj : j = i
        · subst hj; rw [ul_same]; simp [hlt]
        · rw [ul_ne hj, getD_set_ne false (Ne.symm hj)]
      rw [← e]
      exact h'
    · rw [Array.getD_eq_getD_getElem?, Array.getElem?_eq_getElem hlt] at h1
      show listed.getD i false = false
      rw [Array.getD_eq_getD_getElem?, Array.getElem?_eq_getElem hlt]
      simpa using h1
    · intro j hj
      unfold deps at hj
      obtain ⟨e, he, rfl⟩ := List.mem_map.1 hj
      obtain ⟨he, hbd⟩ := List.mem_filter.1 he
      exact hall e (by simpa using he) hbd
  · rintro listed a w ⟨hs, v, rfl, hI⟩ hr
    exact hdone _ _ _ (fun j hj => all_listed hb hs hr j hj) hI
  · refine ⟨by simp, _, (frm_self a0 ds).symm, ?_⟩
    have e : (fun j => (Array.replicate ops.size false).getD j false) = fun _ => false := by
      funext j
      simp [Array.getD_eq_getD_getElem?, Array.getElem?_replicate]
      split <;> rfl
    rw [e]
    exact h0
variable {a0 : Act} {ds : List Nat} {I : (Nat → Bool) → (Nat → Value) → World → Prop} {J : (Nat → Value) → World → Prop} {v : Nat → Value} {w w' w1 : World} {i : Nat} {o : Oper} {d : Nat} {u : Value}
theorem op_val (ho : ops[i]? = some o) (hg : o.guard = none) (hd : o.dst = some d) (hm : d ∈ ds) (h : (execOp (frm a0 ds v).eval o).run P w = .ok (.value u) w') (hI : J (up v d u) w') :
    wpOp P ops Q i (Ks a0 ds J) (frm a0 ds v) w := by
  refine wpOp_step ho fun K' hK => ?_
  have hw : Region.wanted o (yielded ops (frm a0 ds v).tmps) = true := by unfold Region.wanted; rw [hg]
  rw [if_pos hw]
  unfold Oper.wp
  rw [h, Oper.upon_value, hd]
  exact hK _ _ ⟨up v d u, frm_put hm, hI⟩
end
/-- one after the other -/
def SL (S : Nat → Oper → Prop) : Nat → List Oper → Prop
  | _, [] => True
  | k, o :: r => S k o ∧ SL S (k + 1) r
theorem sl_get {S : Nat → Oper → Prop} : ∀ (l : List Oper) (k : Nat), SL S k l → ∀ i o, l[i]? = some o → S (k + i) o
  | [], _, _, i, o, h => by simp at h
  | a :: l, k, hs, i, o, h => by
    cases i with
    | zero => simp at h; subst h; exact hs.1
    | succ i =>
      have := sl_get l (k + 1) hs.2 i o (by simpa using h)
      rw [show k + (i + 1) = k + 1 + i by omega]
      exact this
theorem steps_list {S : Nat → Oper → Prop} {l : List Oper} (h : SL S 0 l) : ∀ i o, l.toArray[i]? = some o → S i o := fun i o ho => by
  have := sl_get l 0 h i o (by simpa using ho)
  rwa [Nat.zero_add] at this
theorem frm_get {a0 : Act} {ds : List Nat} {v : Nat → Value} {d : Nat} (hm : d ∈ ds) (hs : (a0.tmps[d]?).isSome = true) : (frm a0 ds v).tmps[d]? = some (v d) := by
  show (ds.foldl (fun t d => t.setIfInBounds d (v d)) a0.tmps)[d]? = _
  rw [fold_get, if_pos hm]
  cases h : a0.tmps[d]? with
  | none => rw [h] at hs; cases hs
  | some x => rfl
section
variable {P : Program} {ops : Array Oper} {Q : Exit → Act → World → Prop} {a0 : Act} {ds : List Nat} {J : (Nat → Value) → World → Prop} {v : Nat → Value} {w w' w1 : World} {i : Nat} {o : Oper} {d : Nat} {u : Value}
end
/-- a step that the elaborator does not lay open -/
structure WO (P : Program) (ops : Array Oper) (Q : Exit → Act → World → Prop) (i : Nat) (K : Act → World → Prop) (a : Act) (w : World) : Prop where
  out : wpOp P ops Q i K a w
section
variable {P : Program} {ops : Array Oper} {Q : Exit → Act → World → Prop}
def StepW (P : Program) (ops : Array Oper) (Q : Exit → Act → World → Prop) (a0 : Act) (ds : List Nat) (I : (Nat → Bool) → (Nat → Value) → World → Prop) (i : Nat) (o : Oper) : Prop :=
  ∀ L v w, I L v w → L i = false → (∀ j ∈ deps o, L j = true) → WO P ops Q i (Ks a0 ds (I (ul L i))) (frm a0 ds v) w
theorem wp_region_invw {id : Nat} {a0 : Act} {w0 : World} (hm : P.follows .mixedOrders = true) (ds : List Nat) (I : (Nat → Bool) → (Nat → Value) → World → Prop)
    (hb : Back ops = true)
    (hsteps : ∀ i o, ops[i]? = some o → StepW P ops Q a0 ds I i o)
    (h0 : I (fun _ => false) (fun d => a0.tmps.getD d undef) { w0 with drawn := w0.drawn + 1 })
    (hdone : ∀ L v w, (∀ j, j < ops.size → L j = true) → I L v w → Q .normal (frm a0 ds v) w) : (Code.region id ops true).wp P Q a0 w0 :=
  wp_region_inv hm ds I hb (fun i o ho L v w h1 h2 h3 => (hsteps i o ho L v w h1 h2 h3).out) h0 hdone
variable {a0 : Act} {ds : List Nat} {J : (Nat → Value) → World → Prop} {v : Nat → Value} {w w' w1 : World} {i : Nat} {o : Oper} {d : Nat} {u : Value}
theorem opw_val (ho : ops[i]? = some o) (hg : o.guard = none) (hd : o.dst = some d) (hm : d ∈ ds) (h : (execOp (frm a0 ds v).eval o).run P w = .ok (.value u) w') (hI : J (up v d u) w') :
    WO P ops Q i (Ks a0 ds J) (frm a0 ds v) w := ⟨op_val ho hg hd hm h hI⟩
end
section
variable {P : Program} {ops : Array Oper} {Q : Exit → Act → World → Prop} {a0 : Act} {ds : List Nat} {J : (Nat → Value) → World → Prop} {v : Nat → Value} {w w' : World} {i : Nat} {o : Oper} {d : Nat} {u : Value}
/-- by a law on the operation itself -/
theorem opw_wp (ho : ops[i]? = some o) (hg : o.guard = none) (h : Oper.wp P o (frm a0 ds v) w (Ks a0 ds J) Q) : WO P ops Q i (Ks a0 ds J) (frm a0 ds v) w := by
  refine ⟨wpOp_step ho fun K' hK => ?_⟩
  have hw : Region.wanted o (yielded ops (frm a0 ds v).tmps) = true := by unfold Region.wanted; rw [hg]
  rw [if_pos hw]
  exact Oper.wp_mono hK h
theorem ks_put (hd : o.dst = some d) (hm : d ∈ ds) (hI : J (up v d u) w) : Ks a0 ds J ((frm a0 ds v).put o.dst u) w := ⟨up v d u, by rw [hd]; exact frm_put hm, hI⟩
theorem ks_non (hd : o.dst = none) (hI : J v w) : Ks a0 ds J ((frm a0 ds v).put o.dst u) w := ⟨v, by rw [hd]; rfl, hI⟩
theorem frm_eval {d : Nat} (hm : d ∈ ds) (hs : (a0.tmps[d]?).isSome = true) : (frm a0 ds v).eval (.tmp d) = v d := by
  show (frm a0 ds v).tmps.getD d undef = v d
  rw [Array.getD_eq_getD_getElem?, frm_get hm hs]
  rfl
end
end Go.Proofs.YtngnakdbhkjbjaaGreatDoor.IV
namespace Go.Proofs.YtngnakdbhkjbjaaGreatDoor
/-- all but the kids -/
def hd : Ex → Int × Int × List UInt8 × Bool × Int × List Rf
  | .mk k n t b e rs _ => (k, n, t, b, e, rs)
def kd : Ex → List Ex
  | .mk _ _ _ _ _ _ ks => ks
theorem ex_eq {x y : Ex} : x = y ↔ hd x = hd y ∧ kd x = kd y := by
  cases x with
  | mk k n t b e rs ks =>
    cases y with
    | mk k' n' t' b' e' rs' ks' =>
      simp only [hd, kd, Ex.mk.injEq, Prod.mk.injEq]
      constructor
      · rintro ⟨h1, h2, h3, h4, h5, h6, h7⟩
        exact ⟨⟨h1, h2, h3, h4, h5, h6⟩, h7⟩
      · rintro ⟨⟨h1, h2, h3, h4, h5, h6⟩, h7⟩
        exact ⟨h1, h2, h3, h4, h5, h6, h7⟩
theorem nodes_kd (x : Ex) : nodes x = 1 + nodes.nodesL (kd x) := by
  cases x with
  | mk k n t b e rs ks => rw [nodes]; rfl
abbrev Pr := List Ex × List Ex
/-- what the lists still open say of the whole, and of those begun -/
structure Eqv (R : Prop) (L K : List Pr) : Prop where
  all : R ↔ ∀ p ∈ L, p.1 = p.2
  bgn : ∀ k ∈ K, (∀ p ∈ L, nodes.nodesL p.1 ≤ nodes.nodesL k.1 → p.1 = p.2) → k.1 = k.2
theorem eqv_start (x y : Ex) : Eqv (x = y) [([x], [y])] [] := by
  refine ⟨?_, fun k hk => absurd hk (by simp)⟩
  constructor
  · intro h p hp
    simp at hp
    subst hp h
    rfl
  · intro h
    have := h ([x], [y]) (by simp)
    simpa using this
/-- all that was open is through -/
theorem Eqv.done {R : Prop} {K : List Pr} (h : Eqv R [] K) : R := h.all.2 (fun p hp => absurd hp (by simp))
/-- a pair that is through -/
theorem Eqv.pop {R : Prop} {L K : List Pr} (h : Eqv R (([], []) :: L) K) : Eqv R L K := by
  refine ⟨?_, fun k hk hl => h.bgn k hk (fun p hp hs => ?_)⟩
  · rw [h.all]
    constructor
    · intro g p hp
      exact g p (by simp [hp])
    · intro g p hp
      simp at hp
      rcases hp with rfl | hp
      · rfl
      · exact g p hp
  · simp at hp
    rcases hp with rfl | hp
    · rfl
    · exact hl p hp hs
/-- two nodes that differ -/
theorem Eqv.no {R : Prop} {L K : List Pr} {x y : Ex} {xs ys : List Ex} (h : Eqv R ((x :: xs, y :: ys) :: L) K) (hn : ¬ (hd x = hd y ∧ (kd x).length = (kd y).length)) : ¬ R := by
  intro r
  have := h.all.1 r (x :: xs, y :: ys) (by simp)
  simp at this
  rw [this.1] at hn
  exact hn ⟨rfl, rfl⟩
/-- two nodes alike, whose kids' lists are equal where the lists still open, as small as these, are -/
theorem Eqv.step {R : Prop} {L K : List Pr} {x y : Ex} {xs ys : List Ex} {L' K' : List Pr} (h : Eqv R ((x :: xs, y :: ys) :: L) K) (hh : hd x = hd y)
    (hk : (∀ p ∈ (xs, ys) :: L, nodes.nodesL p.1 ≤ nodes.nodesL (kd x) → p.1 = p.2) → (∀ p ∈ L', nodes.nodesL p.1 ≤ nodes.nodesL (kd x) → p.1 = p.2) → kd x = kd y)
    (hL : ∀ p, p ∈ L' → p ∈ (xs, ys) :: L ∨ p = (kd x, kd y)) (hL' : ∀ p ∈ (xs, ys) :: L, p ∈ L') (hK : ∀ k ∈ K', k ∈ K ∨ (k = (kd x, kd y) ∧ (kd x, kd y) ∈ L')) : Eqv R L' K' := by
  have hs : nodes.nodesL (x :: xs) = 1 + nodes.nodesL (kd x) + nodes.nodesL xs := by rw [nodes.nodesL, nodes_kd]
  have cur : ∀ m, nodes.nodesL (x :: xs) ≤ m → (∀ p ∈ L', nodes.nodesL p.1 ≤ m → p.1 = p.2) → x :: xs = y :: ys := by
    intro m hm hl
    have h1 : xs = ys := hl (xs, ys) (hL' _ (by simp)) (by simp; omega)
    have h2 : kd x = kd y := hk (fun p hp hs' => hl p (hL' _ hp) (by omega)) (fun p hp hs' => hl p hp (by omega))
    rw [h1, ex_eq.2 ⟨hh, h2⟩]
  refine ⟨?_, fun k hk' hl => ?_⟩
  · rw [h.all]
    constructor
    · intro g p hp
      have g0 := g (x :: xs, y :: ys) (by simp)
      simp at g0
      rcases hL p hp with hp | rfl
      · simp at hp
        rcases hp with rfl | hp
        · exact g0.2
        · exact g p (by simp [hp])
      · rw [g0.1]
    · intro g p hp
      simp at hp
      rcases hp with rfl | hp
      · exact cur _ (Nat.le_refl _) (fun p hp _ => g p hp)
      · exact g p (hL' _ (by simp [hp]))
  · rcases hK k hk' with hk' | ⟨rfl, hm⟩
    · refine h.bgn k hk' (fun p hp hs' => ?_)
      simp at hp
      rcases hp with rfl | hp
      · exact cur _ hs' (fun p hp hs' => hl p hp hs')
      · exact hl p (hL' _ (by simp [hp])) hs'
    · exact hl _ hm (Nat.le_refl _)
/-- .. without kids -/
theorem Eqv.leaf {R : Prop} {L K : List Pr} {x y : Ex} {xs ys : List Ex} (h : Eqv R ((x :: xs, y :: ys) :: L) K) (hh : hd x = hd y) (hx : kd x = []) (hy : (kd x).length = (kd y).length) : Eqv R ((xs, ys) :: L) K :=
  h.step hh (fun _ _ => by
    rw [hx] at hy ⊢
    exact (List.eq_nil_of_length_eq_zero hy.symm).symm) (fun p hp => .inl hp) (fun p hp => hp) (fun k hk => .inl hk)
/-- .. whose kids were begun -/
theorem Eqv.old {R : Prop} {L K : List Pr} {x y : Ex} {xs ys : List Ex} (h : Eqv R ((x :: xs, y :: ys) :: L) K) (hh : hd x = hd y) (hb : (kd x, kd y) ∈ K) : Eqv R ((xs, ys) :: L) K :=
  h.step hh (fun g _ => h.bgn _ hb (fun p hp hs => by
    simp at hp
    rcases hp with rfl | hp
    · rw [nodes.nodesL, nodes_kd] at hs
      simp at hs
      omega
    · exact g p (by simp [hp]) hs)) (fun p hp => .inl hp) (fun p hp => hp) (fun k hk => .inl hk)
/-- .. whose kids are begun now -/
theorem Eqv.new {R : Prop} {L K : List Pr} {x y : Ex} {xs ys : List Ex} (h : Eqv R ((x :: xs, y :: ys) :: L) K) (hh : hd x = hd y) : Eqv R ((xs, ys) :: (kd x, kd y) :: L) ((kd x, kd y) :: K) :=
  h.step hh (fun _ g => g (kd x, kd y) (by simp) (Nat.le_refl _)) (fun p hp => by
    simp at hp ⊢
    rcases hp with h | h | h
    · exact .inl (.inl h)
    · exact .inr h
    · exact .inl (.inr h)) (fun p hp => by
    simp at hp ⊢
    rcases hp with h | h
    · exact .inl h
    · exact .inr (.inr h)) (fun k hk => by
    simp at hk
    rcases hk with h | h
    · exact .inr ⟨h, by simp⟩
    · exact .inl h)
/-- how much is still open -/
def wgt (L : List Pr) : Nat := (L.map fun p => nodes.nodesL p.1).sum
theorem wgt_cons (p : Pr) (L : List Pr) : wgt (p :: L) = nodes.nodesL p.1 + wgt L := by simp [wgt]
theorem nodesL_cons' (x : Ex) (xs : List Ex) : nodes.nodesL (x :: xs) = 1 + nodes.nodesL (kd x) + nodes.nodesL xs := by rw [nodes.nodesL, nodes_kd]
end Go.Proofs.YtngnakdbhkjbjaaGreatDoor
