/- The law counterpanelaw12.BuiltinWorst returns true for every slice of values and every number (SUM, MIN, MAX, COUNT and AVERAGE answer the same however the values are cut into two arguments, and the least error where there is one); no condition beyond the given row's own list of tables. -/
import Derived.Test.YtfjpdopmojfchaaGreatDoorKr23
import Derived.Test.YtfjpdopmojfchaaGreatDoorKr58
import Derived.ChangeOld
import Derived.DataReads
set_option linter.unusedVariables false
set_option linter.unusedSimpArgs false
namespace Go.Proofs.YtfjpdopmojfchaaGreatDoor
namespace builtinWorst
open Go.ChangeShapes Go.WideShapes Go.ChangeAt Go.RowKit
theorem fx_wf {n : Int} (h : (Lit.int .i64 n).wf = true) : Fx n := by
  have h' := h
  simp [Lit.wf, IntKind.min, IntKind.max, IntKind.signed, IntKind.bits] at h'
  exact ⟨by omega, by omega⟩
theorem laidOut : laidOutB Tryz.prog = true := by kernel_rfl
/-- the cells of one value -/
def w5 (W : World) (x : Addr) (i : Nat) (c : Cv) : Prop := W.cell? ((x.add (i * 5)).add 0) = some (.int .i64 c.k) ∧ W.cell? ((x.add (i * 5)).add 1) = some (.int .i64 c.n) ∧ W.cell? ((x.add (i * 5)).add 2) = some (.string c.t) ∧ W.cell? ((x.add (i * 5)).add 3) = some (.bool c.b) ∧ W.cell? ((x.add (i * 5)).add 4) = some (.int .i64 c.e)
theorem list_of (P : Nat → Cv → Prop) : ∀ n, (∀ i, i < n → ∃ x, P i x) → ∃ l : List Cv, l.length = n ∧ ∀ i (h : i < l.length), P i l[i]
  | 0, _ => ⟨[], rfl, fun i hi => absurd hi (by simp)⟩
  | n + 1, h => by
    obtain ⟨l, hl, hp⟩ := list_of P n (fun i hi => h i (by omega))
    obtain ⟨x, hx⟩ := h n (by omega)
    refine ⟨l ++ [x], by simp [hl], fun i hi => ?_⟩
    rcases Nat.lt_or_ge i l.length with h1 | h1
    · rw [List.getElem_append_left h1]
      exact hp i h1
    · have hie : i = l.length := by simp at hi; omega
      subst hie
      rw [List.getElem_append_right (Nat.le_refl _)]
      simp only [Nat.sub_self, List.getElem_cons_zero]
      rw [hl]
      exact hx
theorem open_slv {H : Type} {enc : TypeId × Value → H} {W : World} {sp : Nat → Bool} {held : Bool} {base : Nat} {a0 : Option Addr} {len0 cap0 : Nat} {d : DataW H} {p : List MemPlace}
    (h : DataW.Trod enc Tryz.prog W base sp held 27 (.slice a0 len0 cap0) d p) : ∃ X : List Cv, Sl Cv.cells 5 W (.slice a0 len0 cap0) X ∧ ∀ x ∈ X, (Lit.int .i64 x.n).wf = true := by
  obtain ⟨fuel, hf⟩ := h
  rcases DataW.trod_slice Tryz.underlying27 hf with ⟨hcs, _⟩ | ⟨x, l, c, elems, rest, m, _, hcs, _, hb, hl, hm, hlen, hel, _, _⟩
  · simp [Value.cells] at hcs
    obtain ⟨rfl, rfl, rfl⟩ := hcs
    exact ⟨[], sl_nil _, by simp⟩
  · simp [Value.cells] at hcs
    obtain ⟨rfl, rfl, rfl⟩ := hcs
    have hcell : ∀ i, i < len0 → ∃ c : Cv, (w5 W x i c) ∧ (Lit.int .i64 c.n).wf = true := fun i hi => by
      have hi' := hel i hi
      rw [cells30, List.getElem?_eq_getElem (by omega), Option.bind_eq_some_iff] at hi'
      obtain ⟨cs, h1, h2⟩ := hi'
      obtain ⟨k, n, t, b, e, rfl, _, wn, _⟩ := open_cells h2
      obtain ⟨_, _, h3⟩ := World.cells?_some h1
      exact ⟨⟨k, n, t, b, e⟩, ⟨h3 0 (by omega), h3 1 (by omega), h3 2 (by omega), h3 3 (by omega), h3 4 (by omega)⟩, wn⟩
    rcases Nat.eq_zero_or_pos len0 with h0 | h0
    · subst h0
      exact ⟨[], ⟨some x, cap0, rfl, Nat.zero_le _, hm, fun h => absurd h (by simp)⟩, by simp⟩
    · obtain ⟨b, off, spot⟩ := x
      obtain ⟨c0, hc0, _⟩ := hcell 0 h0
      have hspot : spot = none := by simpa [Addr.add] using World.cell?_spot hc0.1
      subst hspot
      obtain ⟨X, hX, hP⟩ := list_of (fun i c => At5 W b (off + i * 5) c ∧ (Lit.int .i64 c.n).wf = true) len0 (fun i hi => by
        obtain ⟨c, ⟨g0, g1, g2, g3, g4⟩, wn⟩ := hcell i hi
        rw [Lib.add_plain, Lib.add_plain] at g0 g1 g2 g3 g4
        exact ⟨c, ⟨g0, g1, g2, g3, g4⟩, wn⟩)
      refine ⟨X, ⟨_, cap0, by rw [hX], by omega, hm, fun _ => ⟨b, off, rfl, fun i hi j u hu => ?_⟩⟩, fun y hy => ?_⟩
      · obtain ⟨c0, c1, c2, c3, c4⟩ := (hP i hi).1
        match j, hu with
        | 0, hu => cases hu; exact c0
        | 1, hu => cases hu; exact c1
        | 2, hu => cases hu; exact c2
        | 3, hu => cases hu; exact c3
        | 4, hu => cases hu; exact c4
        | j + 5, hu => simp [Cv.cells] at hu
      · obtain ⟨i, hi, rfl⟩ := List.getElem_of_mem hy
        exact (hP i hi).2
set_option maxRecDepth 100000 in
theorem contract (H : Type) (enc : TypeId × Value → H) (W : World) (base : Nat) (args : Array Value) (ds gs : List (DataW H)) (before : List MemPlace)
    (hval : ∀ (j : Nat) t v, Tryz.f5.params[j]? = some t → args[j]? = some v → Value.okWide Tryz.prog W .any base t v)
    (hW : DataW.Whole enc Tryz.prog Tryz.f5.params.toList Rows.builtinWorstSpec.vars false W args.toList ds gs before) (hS : Std2 W) :
    Calls Tryz.prog 5 args W fun e W' => ∃ v, e = .returned v ∧ Rows.builtinWorstSpec.post enc Tryz.prog Tryz.f5 false true false false W args v W' := by
  have hW' := hW
  obtain ⟨p, q, hA0, hV, rfl, hfz, hnd⟩ := hW
  have hA : DataW.TrodAll enc Tryz.prog W 0 (fun _ => true) true Tryz.f5.params.toList args.toList ds p := hA0
  rw [Tryz.params5] at hA hval
  obtain ⟨v0, vs0, d0, ds0, p0, q0, hargs, rfl, rfl, h0, r0⟩ := trodAll_cons hA
  obtain ⟨v1, vs1, d1, ds1, p1, q1, rfl, rfl, rfl, h1, r1⟩ := trodAll_cons r0
  obtain ⟨rfl, rfl, rfl⟩ := trodAll_nil r1
  obtain rfl : args = #[v0, v1] := Array.ext' hargs
  obtain ⟨rfl, rfl⟩ := trodVars_none hV
  have k0 := h0
  have lt0 : ∀ x ∈ p0, x.block < W.heap.size := by obtain ⟨m, hm⟩ := k0; exact DataW.trod_lt m _ _ _ hm
  obtain ⟨ao0, ln0, cp0, rfl⟩ := okWide_slice Tryz.underlying27 (hval 0 27 v0 rfl rfl)
  obtain ⟨X0, hX0, hN0⟩ := open_slv h0
  obtain ⟨i1, rfl, rfl, rfl, w1⟩ := open_int Tryz.underlying3 (hval 1 3 v1 rfl rfl) h1
  clear hA0
  refine (wor_any i1 X0 (.slice ao0 ln0 cp0) W hS hX0 (fun x hx => fx_wf (hN0 x hx))).mono fun x W' ⟨he, bel⟩ => ?_
  subst he
  exact ⟨_, rfl, _, _, _, [], _, [], hW', trodAll_mk1 (shut_bool Tryz.underlying4 _), (trodAll_cons_mk (Below.trod laidOut (by kernel_rfl) (of_decide_eq_true (by kernel_rfl)) k0 bel lt0) (trodAll_cons_mk (shut_int Tryz.underlying3 w1) trodAll_mk0)), rfl, Below.frame bel _, fun h => by cases h⟩
def wit : Array Value := #[.slice none 0 0, .int .i64 0]
set_option maxRecDepth 100000 in
theorem lifted (os : Os) (started : os.Started) (H : Type) (enc : TypeId × Value → H) (F : Stop.Interp) :
    ReturnsInHanded {} Tryz.checked os 5 .any ((OpenSpec.ofChange Rows.builtinWorstSpec).preRow enc Tryz.prog Tryz.f5 Rows.builtinWorstRow.domain false Rows.builtinWorstRow.laid) (((OpenSpec.ofChange Rows.builtinWorstSpec).at F).post enc Tryz.prog Tryz.f5 false true false false) := by
  have hx : DataW.whole enc Tryz.prog ((lay (World.holding Tryz.prog os ⟨#[], #[], []⟩)).forCall (fun _ _ => 0) ⟨#[], wit, []⟩).memory Tryz.f5.params.toList Rows.builtinWorstSpec.vars false wit.toList 8 = some ([.nil, .lit (.int .i64 0)], [], []) := by kernel_rfl
  refine returnsInHanded_of_row (C := Tryz.checked) (s := OpenSpec.ofChange Rows.builtinWorstSpec) own started (by kernel_rfl) Tryz.func5
    (witness_row_at (enc := enc) (C := Tryz.checked) false (lay (World.holding Tryz.prog os ⟨#[], #[], []⟩)) wit rfl (by kernel_rfl) (by kernel_rfl) (by kernel_rfl)
      (OpenSpec.preRow_of_cond 8 hx (by kernel_rfl) (fun k hk => by cases hk) (by kernel_rfl) (laid_met_builtinWorst os _))) ?_
  intro W base args ds gs before hval hW _ _ _ hL hsh _
  exact contract H enc W base args ds gs before hval hW (std2_builtinWorst hL hsh)
theorem said : Rows.BuiltinWorstSaid :=
  OpenClaim.holds_of_cond 5 Tryz.f5 rfl rfl rfl rfl rfl rfl rfl ⟨rfl, rfl, rfl, rfl, rfl⟩ rfl rfl rfl rfl rfl (by kernel_rfl) Tryz.func5 (by kernel_rfl)
    (of_decide_eq_true (by kernel_rfl)) (by unfold Func.isWrapper; first | (rw [if_pos (by decide +kernel)]; kernel_rfl) | (rw [if_neg (by decide +kernel)]; exact ⟨rfl, rfl⟩))
    (fun os started H enc _ F => by rw [OpenClaim.pre_eq_preRow]; exact lifted os started H enc F)
theorem plain (f : FuncId) (fn : Func) (hf : Tryz.pinned.checked.prog.funcNamed "counterpane/counterpanelaw12.BuiltinWorst" = some f) (hfn : Tryz.pinned.checked.prog.funcs[f]? = some fn) :
    false = Tryz.pinned.checked.prog.looks [] ∧ ∀ (j : Nat) t, fn.params[j]? = some t → Tryz.pinned.checked.prog.wantsStandIn t = false := by
  obtain rfl : f = 5 := Option.some.inj ((show Tryz.prog.funcNamed "counterpane/counterpanelaw12.BuiltinWorst" = some 5 by kernel_rfl).symm.trans hf) |>.symm
  obtain rfl : fn = Tryz.f5 := (Option.some.inj (Tryz.func5.symm.trans hfn)).symm
  refine ⟨by kernel_rfl, fun j t ht => ?_⟩
  rw [Tryz.params5] at ht
  have ht' := Array.mem_of_getElem? ht
  simp only [List.mem_toArray, List.mem_cons, List.not_mem_nil, or_false] at ht'
  rcases ht' with rfl | rfl
  · exact (show Tryz.prog.wantsStandIn 27 = false by kernel_rfl)
  · exact (show Tryz.prog.wantsStandIn 3 = false by kernel_rfl)
end builtinWorst
theorem builtinWorst_card : Rows.BuiltinWorstCardSaid :=
  Claim7.holds_tied_plain_at .later [] _ _ _ _ builtinWorst.said (fun _ h => by cases h) (by kernel_rfl) (fun _ h => by cases h) builtinWorst_row_tie rfl ⟨rfl, rfl⟩ (by kernel_rfl) rfl builtinWorst.plain (by kernel_rfl)
end Go.Proofs.YtfjpdopmojfchaaGreatDoor
