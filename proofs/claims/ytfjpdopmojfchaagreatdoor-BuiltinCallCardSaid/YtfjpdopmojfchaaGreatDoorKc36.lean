/- The law counterpanelaw12.BuiltinCall returns true for every name and every list of arguments (builtin.Call answers as the document says, and Known too); no condition beyond the given row's own list of tables. -/
import Derived.Test.YtfjpdopmojfchaaGreatDoorKc23
import Derived.Test.YtfjpdopmojfchaaGreatDoorKc35
import Derived.ChangeOld
import Derived.DataReads
set_option linter.unusedVariables false
set_option linter.unusedSimpArgs false
set_option maxRecDepth 100000
set_option maxHeartbeats 8000000
namespace Go.Proofs.YtfjpdopmojfchaaGreatDoor
namespace builtinCall
open Go.ChangeShapes Go.WideShapes Go.ChangeAt Go.RowKit
theorem fx_wf {n : Int} (h : (Lit.int .i64 n).wf = true) : Fx n := by
  have h' := h
  simp [Lit.wf, IntKind.min, IntKind.max, IntKind.signed, IntKind.bits] at h'
  exact ⟨by omega, by omega⟩
theorem laidOut : laidOutB Tryz.prog = true := by kernel_rfl
def w5 (W : World) (x : Addr) (i : Nat) (c : Cv) : Prop := W.cell? ((x.add (i * 5)).add 0) = some (.int .i64 c.k) ∧ W.cell? ((x.add (i * 5)).add 1) = some (.int .i64 c.n) ∧ W.cell? ((x.add (i * 5)).add 2) = some (.string c.t) ∧ W.cell? ((x.add (i * 5)).add 3) = some (.bool c.b) ∧ W.cell? ((x.add (i * 5)).add 4) = some (.int .i64 c.e)
theorem list_of (P : Nat → Cv → Prop) : ∀ n, (∀ i, i < n → ∃ x, P i x) → ∃ l : List Cv, l.length = n ∧ ∀ i (h : i < l.length), P i l[i]
  | 0, _ => ⟨[], rfl, fun i hi => absurd hi (by simp)⟩
  | n + 1, h => by
    obtain ⟨l, hl, hp⟩ := list_of P n (fun i hi => h i (by omega))
    obtain ⟨x, hx⟩ := h n (by omega)
    refine ⟨l ++ [x], by simp [hl], fun i hi => ?_⟩
    rcases Nat.lt_or_ge i l.length with h1 | h1
    · rw [List.getElem_append_left h1]
      exact hp i h1
    · have hie : i = l.length := by simp at hi; omega
      subst hie
      rw [List.getElem_append_right (Nat.le_refl _)]
      simp only [Nat.sub_self, List.getElem_cons_zero]
      rw [hl]
      exact hx
theorem open_slv {H : Type} {enc : TypeId × Value → H} {W : World} {sp : Nat → Bool} {held : Bool} {base : Nat} {a0 : Option Addr} {len0 cap0 : Nat} {d : DataW H} {p : List MemPlace}
    (h : DataW.Trod enc Tryz.prog W base sp held 27 (.slice a0 len0 cap0) d p) : ∃ X : List Cv, Sl Cv.cells 5 W (.slice a0 len0 cap0) X ∧ ∀ x ∈ X, (Lit.int .i64 x.n).wf = true := by
  obtain ⟨fuel, hf⟩ := h
  rcases DataW.trod_slice Tryz.underlying27 hf with ⟨hcs, _⟩ | ⟨x, l, c, elems, rest, m, _, hcs, _, hb, hl, hm, hlen, hel, _, _⟩
  · simp [Value.cells] at hcs
    obtain ⟨rfl, rfl, rfl⟩ := hcs
    exact ⟨[], sl_nil _, by simp⟩
  · simp [Value.cells] at hcs
    obtain ⟨rfl, rfl, rfl⟩ := hcs
    have hcell : ∀ i, i < len0 → ∃ c : Cv, (w5 W x i c) ∧ (Lit.int .i64 c.n).wf = true := fun i hi => by
      have hi' := hel i hi
      rw [cells30, List.getElem?_eq_getElem (by omega), Option.bind_eq_some_iff] at hi'
      obtain ⟨cs, h1, h2⟩ := hi'
      obtain ⟨k, n, t, b, e, rfl, _, wn, _⟩ := open_cells h2
      obtain ⟨_, _, h3⟩ := World.cells?_some h1
      exact ⟨⟨k, n, t, b, e⟩, ⟨h3 0 (by omega), h3 1 (by omega), h3 2 (by omega), h3 3 (by omega), h3 4 (by omega)⟩, wn⟩
    rcases Nat.eq_zero_or_pos len0 with h0 | h0
    · subst h0
      exact ⟨[], ⟨some x, cap0, rfl, Nat.zero_le _, hm, fun h => absurd h (by simp)⟩, by simp⟩
    · obtain ⟨b, off, spot⟩ := x
      obtain ⟨c0, hc0, _⟩ := hcell 0 h0
      have hspot : spot = none := by simpa [Addr.add] using World.cell?_spot hc0.1
      subst hspot
      obtain ⟨X, hX, hP⟩ := list_of (fun i c => At5 W b (off + i * 5) c ∧ (Lit.int .i64 c.n).wf = true) len0 (fun i hi => by
        obtain ⟨c, ⟨g0, g1, g2, g3, g4⟩, wn⟩ := hcell i hi
        rw [Lib.add_plain, Lib.add_plain] at g0 g1 g2 g3 g4
        exact ⟨c, ⟨g0, g1, g2, g3, g4⟩, wn⟩)
      refine ⟨X, ⟨_, cap0, by rw [hX], by omega, hm, fun _ => ⟨b, off, rfl, fun i hi j u hu => ?_⟩⟩, fun y hy => ?_⟩
      · obtain ⟨c0, c1, c2, c3, c4⟩ := (hP i hi).1
        match j, hu with
        | 0, hu => cases hu; exact c0
        | 1, hu => cases hu; exact c1
        | 2, hu => cases hu; exact c2
        | 3, hu => cases hu; exact c3
        | 4, hu => cases hu; exact c4
        | j + 5, hu => simp [Cv.cells] at hu
      · obtain ⟨i, hi, rfl⟩ := List.getElem_of_mem hy
        exact (hP i hi).2
theorem one_cell {v u : Value} (h : [v] = [u]) : v = u := (List.cons.inj h).1
theorem open_slt {H : Type} {enc : TypeId × Value → H} {W : World} {sp : Nat → Bool} {held : Bool} {base : Nat} (fuel : Nat) (v : Value) (z : DataW H × List MemPlace)
    (hf : DataW.trod enc Tryz.prog W base sp held fuel 27 [v] = some z) : ∃ X : List Cv, Sl Cv.cells 5 W v X ∧ ∀ x ∈ X, (Lit.int .i64 x.n).wf = true := by
  obtain ⟨d, p⟩ := z
  rcases DataW.trod_slice Tryz.underlying27 hf with ⟨hcs, _⟩ | ⟨x, l, c, elems, rest, m, _, hcs, _, hb, hl, hm, hlen, hel, _, _⟩
  · obtain rfl : v = .slice none 0 0 := one_cell hcs
    exact open_slv (d := d) (p := p) ⟨fuel, hf⟩
  · obtain rfl : v = .slice (some x) l c := one_cell hcs
    exact open_slv (d := d) (p := p) ⟨fuel, hf⟩
theorem cellsIn : Tryz.prog.cellsOf 30 = 2 := by kernel_rfl
theorem open_in {H : Type} {enc : TypeId × Value → H} {W : World} {sp : Nat → Bool} {held : Bool} {base : Nat} (fuel : Nat) (cs : List Value) (z : DataW H × List MemPlace)
    (h : DataW.trod enc Tryz.prog W base sp held fuel 30 cs = some z) : ∃ a : Ag, cs = a.cells ∧ Sl Cv.cells 5 W a.s a.l ∧ ∀ x ∈ a.l, (Lit.int .i64 x.n).wf = true := by
  obtain ⟨xs, m, _, _, hl, hlen, hf⟩ := DataW.trod_struct Tryz.underlying30 h
  rw [cellsIn] at hl
  have hlen' : xs.length = 2 := hlen
  match cs, hl with
  | [v0, v1], _ =>
    have g0 := hf 0 _ rfl
    have g1 := hf 1 _ rfl
    match xs, hlen' with
    | [y0, y1], _ =>
      obtain ⟨b, e0, _⟩ := DataW.trod_bool Tryz.underlying4 g0
      have g1' : DataW.trod enc Tryz.prog W base sp held m 27 [v1] = some y1 := g1
      obtain ⟨X, hX, hw⟩ := open_slt m v1 y1 g1'
      have f0 : v0 = .bool b := one_cell e0
      exact ⟨⟨b, v1, X⟩, by rw [f0]; rfl, hX, hw⟩
theorem list_ofa (P : Nat → Ag → Prop) : ∀ n, (∀ i, i < n → ∃ x, P i x) → ∃ l : List Ag, l.length = n ∧ ∀ i (h : i < l.length), P i l[i]
  | 0, _ => ⟨[], rfl, fun i hi => absurd hi (by simp)⟩
  | n + 1, h => by
    obtain ⟨l, hl, hp⟩ := list_ofa P n (fun i hi => h i (by omega))
    obtain ⟨x, hx⟩ := h n (by omega)
    refine ⟨l ++ [x], by simp [hl], fun i hi => ?_⟩
    rcases Nat.lt_or_ge i l.length with h1 | h1
    · rw [List.getElem_append_left h1]
      exact hp i h1
    · have hie : i = l.length := by simp at hi; omega
      subst hie
      rw [List.getElem_append_right (Nat.le_refl _)]
      simp only [Nat.sub_self, List.getElem_cons_zero]
      rw [hl]
      exact hx
theorem open_ins {H : Type} {enc : TypeId × Value → H} {W : World} {sp : Nat → Bool} {held : Bool} {base : Nat} {a0 : Option Addr} {len0 cap0 : Nat} {d : DataW H} {p : List MemPlace}
    (h : DataW.Trod enc Tryz.prog W base sp held 22 (.slice a0 len0 cap0) d p) : ∃ A : List Ag, Args W (.slice a0 len0 cap0) A ∧ ∀ a ∈ A, ∀ x ∈ a.l, (Lit.int .i64 x.n).wf = true := by
  obtain ⟨fuel, hf⟩ := h
  rcases DataW.trod_slice Tryz.underlying22 hf with ⟨hcs, _⟩ | ⟨x, l, c, elems, rest, m, _, hcs, _, hb, hl, hm, hlen, hel, _, _⟩
  · simp [Value.cells] at hcs
    obtain ⟨rfl, rfl, rfl⟩ := hcs
    exact ⟨[], ⟨sl_nil _, by simp⟩, by simp⟩
  · simp [Value.cells] at hcs
    obtain ⟨rfl, rfl, rfl⟩ := hcs
    have hcell : ∀ i, i < len0 → ∃ a : Ag, (∀ j u, a.cells[j]? = some u → W.cell? ((x.add (i * 2)).add j) = some u) ∧ Sl Cv.cells 5 W a.s a.l ∧ ∀ x ∈ a.l, (Lit.int .i64 x.n).wf = true := fun i hi => by
      have hi' := hel i hi
      rw [cellsIn, List.getElem?_eq_getElem (by omega), Option.bind_eq_some_iff] at hi'
      obtain ⟨cs, h1, h2⟩ := hi'
      obtain ⟨a, rfl, hs, hw⟩ := open_in m _ _ h2
      obtain ⟨_, _, h3⟩ := World.cells?_some h1
      refine ⟨a, fun j u hu => ?_, hs, hw⟩
      have hj : j < 2 := by rw [← Ag.len a]; exact (List.getElem?_eq_some_iff.1 hu).1
      rw [h3 j (by omega)]
      exact hu
    rcases Nat.eq_zero_or_pos len0 with h0 | h0
    · subst h0
      exact ⟨[], ⟨⟨some x, cap0, rfl, Nat.zero_le _, hm, fun h => absurd h (by simp)⟩, by simp⟩, by simp⟩
    · obtain ⟨b, off, spot⟩ := x
      obtain ⟨c0, hc0, _⟩ := hcell 0 h0
      have hspot : spot = none := by simpa [Addr.add] using World.cell?_spot (hc0 0 _ rfl)
      subst hspot
      obtain ⟨A, hA, hP⟩ := list_ofa (fun i a => Ats Ag.cells W b (off + i * 2) a ∧ Sl Cv.cells 5 W a.s a.l ∧ ∀ x ∈ a.l, (Lit.int .i64 x.n).wf = true) len0 (fun i hi => by
        obtain ⟨a, g, hs, hw⟩ := hcell i hi
        refine ⟨a, fun j u hu => ?_, hs, hw⟩
        have := g j u hu
        rw [Lib.add_plain, Lib.add_plain] at this
        exact this)
      subst hA
      refine ⟨A, ⟨⟨some ⟨b, off, none⟩, cap0, rfl, hl, hm, fun _ => ⟨b, off, rfl, fun i hi => (hP i hi).1⟩⟩, fun a ha => ?_⟩, fun a ha => ?_⟩
      · obtain ⟨i, hi, rfl⟩ := List.getElem_of_mem ha
        exact (hP i hi).2.1
      · obtain ⟨i, hi, rfl⟩ := List.getElem_of_mem ha
        exact (hP i hi).2.2
theorem contract (H : Type) (enc : TypeId × Value → H) (W : World) (base : Nat) (args : Array Value) (ds gs : List (DataW H)) (before : List MemPlace)
    (hval : ∀ (j : Nat) t v, Tryz.f3.params[j]? = some t → args[j]? = some v → Value.okWide Tryz.prog W .any base t v)
    (hW : DataW.Whole enc Tryz.prog Tryz.f3.params.toList Rows.builtinCallSpec.vars false W args.toList ds gs before) (hS : Std2 W) :
    Calls Tryz.prog 3 args W fun e W' => ∃ v, e = .returned v ∧ Rows.builtinCallSpec.post enc Tryz.prog Tryz.f3 false true false false W args v W' := by
  have hW' := hW
  obtain ⟨p, q, hA0, hV, rfl, hfz, hnd⟩ := hW
  have hA : DataW.TrodAll enc Tryz.prog W 0 (fun _ => true) true Tryz.f3.params.toList args.toList ds p := hA0
  rw [Tryz.params3] at hA hval
  obtain ⟨v0, vs0, d0, ds0, p0, q0, hargs, rfl, rfl, h0, r0⟩ := trodAll_cons hA
  obtain ⟨v1, vs1, d1, ds1, p1, q1, rfl, rfl, rfl, h1, r1⟩ := trodAll_cons r0
  obtain ⟨rfl, rfl, rfl⟩ := trodAll_nil r1
  obtain rfl : args = #[v0, v1] := Array.ext' hargs
  obtain ⟨rfl, rfl⟩ := trodVars_none hV
  have k0 := h0
  have lt0 : ∀ x ∈ p0, x.block < W.heap.size := by obtain ⟨m, hm⟩ := k0; exact DataW.trod_lt m _ _ _ hm
  obtain ⟨s0, rfl⟩ := okWide_string Tryz.underlying9 (hval 0 9 v0 rfl rfl)
  have k1 := h1
  have lt1 : ∀ x ∈ p1, x.block < W.heap.size := by obtain ⟨m, hm⟩ := k1; exact DataW.trod_lt m _ _ _ hm
  obtain ⟨ao1, ln1, cp1, rfl⟩ := okWide_slice Tryz.underlying22 (hval 1 22 v1 rfl rfl)
  obtain ⟨X1, hX1, hN1⟩ := open_ins h1
  clear hA0
  refine (call_walk s0 X1 (.slice ao1 ln1 cp1) W hS hX1 (fun a ha x hx => fx_wf (hN1 a ha x hx))).mono fun x W' ⟨he, bel⟩ => ?_
  subst he
  exact ⟨_, rfl, _, _, _, [], _, [], hW', trodAll_mk1 (shut_bool Tryz.underlying4 _), (trodAll_cons_mk (Below.trod laidOut (by kernel_rfl) (of_decide_eq_true (by kernel_rfl)) k0 bel lt0) (trodAll_cons_mk (Below.trod laidOut (by kernel_rfl) (of_decide_eq_true (by kernel_rfl)) k1 bel lt1) trodAll_mk0)), rfl, Below.frame bel _, fun h => by cases h⟩
def wit : Array Value := #[.string ⟨#[]⟩, .slice none 0 0]
theorem lifted (os : Os) (started : os.Started) (H : Type) (enc : TypeId × Value → H) (F : Stop.Interp) :
    ReturnsInHanded {} Tryz.checked os 3 .any ((OpenSpec.ofChange Rows.builtinCallSpec).preRow enc Tryz.prog Tryz.f3 Rows.builtinCallRow.domain false Rows.builtinCallRow.laid) (((OpenSpec.ofChange Rows.builtinCallSpec).at F).post enc Tryz.prog Tryz.f3 false true false false) := by
  have hx : DataW.whole enc Tryz.prog ((lay (World.holding Tryz.prog os ⟨#[], #[], []⟩)).forCall (fun _ _ => 0) ⟨#[], wit, []⟩).memory Tryz.f3.params.toList Rows.builtinCallSpec.vars false wit.toList 8 = some ([.lit (.string []), .nil], [], []) := by kernel_rfl
  refine returnsInHanded_of_row (C := Tryz.checked) (s := OpenSpec.ofChange Rows.builtinCallSpec) own started (by kernel_rfl) Tryz.func3
    (witness_row_at (enc := enc) (C := Tryz.checked) false (lay (World.holding Tryz.prog os ⟨#[], #[], []⟩)) wit rfl (by kernel_rfl) (by kernel_rfl) (by kernel_rfl)
      (OpenSpec.preRow_of_cond 8 hx (by kernel_rfl) (fun k hk => by cases hk) (by kernel_rfl) (laid_met_builtinCall os _))) ?_
  intro W base args ds gs before hval hW _ _ _ hL hsh _
  exact contract H enc W base args ds gs before hval hW (std2_builtinCall hL hsh)
theorem said : Rows.BuiltinCallSaid :=
  OpenClaim.holds_of_cond 3 Tryz.f3 rfl rfl rfl rfl rfl rfl rfl ⟨rfl, rfl, rfl, rfl, rfl⟩ rfl rfl rfl rfl rfl (by kernel_rfl) Tryz.func3 (by kernel_rfl)
    (of_decide_eq_true (by kernel_rfl)) (by unfold Func.isWrapper; first | (rw [if_pos (by decide +kernel)]; kernel_rfl) | (rw [if_neg (by decide +kernel)]; exact ⟨rfl, rfl⟩))
    (fun os started H enc _ F => by rw [OpenClaim.pre_eq_preRow]; exact lifted os started H enc F)
theorem plain (f : FuncId) (fn : Func) (hf : Tryz.pinned.checked.prog.funcNamed "counterpane/counterpanelaw12.BuiltinCall" = some f) (hfn : Tryz.pinned.checked.prog.funcs[f]? = some fn) :
    false = Tryz.pinned.checked.prog.looks [] ∧ ∀ (j : Nat) t, fn.params[j]? = some t → Tryz.pinned.checked.prog.wantsStandIn t = false := by
  obtain rfl : f = 3 := Option.some.inj ((show Tryz.prog.funcNamed "counterpane/counterpanelaw12.BuiltinCall" = some 3 by kernel_rfl).symm.trans hf) |>.symm
  obtain rfl : fn = Tryz.f3 := (Option.some.inj (Tryz.func3.symm.trans hfn)).symm
  refine ⟨by kernel_rfl, fun j t ht => ?_⟩
  rw [Tryz.params3] at ht
  have ht' := Array.mem_of_getElem? ht
  simp only [List.mem_toArray, List.mem_cons, List.not_mem_nil, or_false] at ht'
  rcases ht' with rfl | rfl
  · exact (show Tryz.prog.wantsStandIn 9 = false by kernel_rfl)
  · exact (show Tryz.prog.wantsStandIn 22 = false by kernel_rfl)
end builtinCall
theorem builtinCall_card : Rows.BuiltinCallCardSaid :=
  Claim7.holds_tied_plain_at .later [] _ _ _ _ builtinCall.said (fun _ h => by cases h) (by kernel_rfl) (fun _ h => by cases h) builtinCall_row_tie rfl ⟨rfl, rfl⟩ (by kernel_rfl) rfl builtinCall.plain (by kernel_rfl)
end Go.Proofs.YtfjpdopmojfchaaGreatDoor
