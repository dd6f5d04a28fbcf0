/- The law counterpanelaw2.ValueWorst returns true for every slice of values (Worst of the first thirty of it is the least error, as the document says); no condition beyond the given row's own list of tables. -/
import Derived.Test.YtkhecmafhcdalaaDoorL
import Derived.Test.YtkhecmafhcdalaaDoorC1
import Derived.ChangeOld
import Derived.DataReads
namespace Go.Proofs.YtkhecmafhcdalaaDoor
namespace valueWorst
open Go.ChangeShapes Go.WideShapes Go.ChangeAt Go.RowKit

theorem laidOut : laidOutB Tryd.prog = true := by kernel_rfl

theorem list_of (P : Nat → Cv → Prop) : ∀ n, (∀ i, i < n → ∃ x, P i x) → ∃ l : List Cv, l.length = n ∧ ∀ i, i < n → P i (l.getD i cv0)
  | 0, _ => ⟨[], rfl, fun i hi => absurd hi (by omega)⟩
  | n + 1, h => by
    obtain ⟨l, hl, hp⟩ := list_of P n (fun i hi => h i (by omega))
    obtain ⟨x, hx⟩ := h n (by omega)
    refine ⟨l ++ [x], by simp [hl], fun i hi => ?_⟩
    by_cases hin : i < n
    · have e : (l ++ [x]).getD i cv0 = l.getD i cv0 := by
        simp only [List.getD_eq_getElem?_getD]
        rw [List.getElem?_append_left (by omega)]
      rw [e]
      exact hp i hin
    · have hie : i = n := by omega
      subst hie
      have e : (l ++ [x]).getD i cv0 = x := by
        simp only [List.getD_eq_getElem?_getD]
        rw [List.getElem?_append_right (by omega), hl]
        simp
      rw [e]
      exact hx

/-- a slice of values that came in: nil, or a row of len values at least -/
def IsRow (w : World) (a : Option Addr) (len cap : Nat) : Prop :=
  (a = none ∧ len = 0 ∧ cap = 0) ∨
  ∃ x, a = some x ∧ len ≤ maxLen ∧ ∀ i, i < len → ∃ c : Cv, w.cell? ((x.add (i * 5)).add 0) = some (.int .i64 c.k) ∧ w.cell? ((x.add (i * 5)).add 1) = some (.int .i64 c.n) ∧ w.cell? ((x.add (i * 5)).add 2) = some (.string c.t) ∧ w.cell? ((x.add (i * 5)).add 3) = some (.bool c.b) ∧ w.cell? ((x.add (i * 5)).add 4) = some (.int .i64 c.e)

theorem walk (a0 : Option Addr) (len cap : Nat) (w : World) (hw : Std2 w) (h : IsRow w a0 len cap) :
    Calls Tryd.prog 6 #[.slice a0 len cap] w fun e w' => e = .returned (.bool true) ∧ Q w w' := by
  rcases h with ⟨rfl, rfl, rfl⟩ | ⟨x, rfl, hm, hcell⟩
  · exact vworst_none _ w hw cutAll_nil
  · unfold maxLen at hm
    rcases Nat.eq_zero_or_pos len with rfl | hp
    · exact vworst_none _ w hw (cutAll_zero x cap)
    · obtain ⟨b, off, spot⟩ := x
      obtain ⟨c0, hc0, _⟩ := hcell 0 hp
      have hspot : spot = none := by simpa [Addr.add] using World.cell?_spot hc0
      subst hspot
      have h5 : ∀ i, i < len → ∃ c, At5 w b (off + i * 5) c := fun i hi => by
        obtain ⟨c, g0, g1, g2, g3, g4⟩ := hcell i hi
        rw [Lib.add_plain, Lib.add_plain] at g0 g1 g2 g3 g4
        exact ⟨c, g0, g1, g2, g3, g4⟩
      by_cases h30 : len ≤ 30
      · obtain ⟨l, hl, hP⟩ := list_of (fun i c => At5 w b (off + i * 5) c) len h5
        exact vworst_row b off len cap len l w hw (.inl ⟨h30, rfl⟩) hp (by omega) hl hP
      · obtain ⟨l, hl, hP⟩ := list_of (fun i c => At5 w b (off + i * 5) c) 30 (fun i hi => h5 i (by omega))
        exact vworst_row b off len cap 30 l w hw (.inr ⟨by omega, rfl⟩) hp (by omega) hl hP

set_option maxRecDepth 100000 in
theorem contract (H : Type) (enc : TypeId × Value → H) (W : World) (base : Nat) (args : Array Value) (ds gs : List (DataW H)) (before : List MemPlace)
    (hval : ∀ (j : Nat) t v, Tryd.f6.params[j]? = some t → args[j]? = some v → Value.okWide Tryd.prog W .any base t v)
    (hW : DataW.Whole enc Tryd.prog Tryd.f6.params.toList Rows.valueWorstSpec.vars false W args.toList ds gs before) (hS : Std2 W) :
    Calls Tryd.prog 6 args W fun e W' => ∃ v, e = .returned v ∧ Rows.valueWorstSpec.post enc Tryd.prog Tryd.f6 false true false false W args v W' := by
  have hW' := hW
  obtain ⟨p, q, hA0, hV, rfl, hfz, hnd⟩ := hW
  have hA : DataW.TrodAll enc Tryd.prog W 0 (fun _ => true) true Tryd.f6.params.toList args.toList ds p := hA0
  rw [Tryd.params6] at hA hval
  obtain ⟨v0, vs0, d0, ds0, p0, q0, hargs, rfl, rfl, h0, r0⟩ := trodAll_cons hA
  obtain ⟨rfl, rfl, rfl⟩ := trodAll_nil r0
  obtain rfl : args = #[v0] := Array.ext' hargs
  obtain ⟨rfl, rfl⟩ := trodVars_none hV
  obtain ⟨a0, len0, cap0, rfl⟩ := okWide_slice Tryd.underlying43 (hval 0 43 v0 rfl rfl)
  have k0 := h0
  have lt0 : ∀ x ∈ p0, x.block < W.heap.size := by obtain ⟨m, hm⟩ := k0; exact DataW.trod_lt m _ _ _ hm
  have w0 : IsRow W a0 len0 cap0 := by
    obtain ⟨fuel, hf⟩ := h0
    rcases DataW.trod_slice Tryd.underlying43 hf with ⟨hcs, _⟩ | ⟨x, l, c, elems, rest, m, _, hcs, _, hb, hl, hm, hlen, hel, _, _⟩
    · simp [Value.cells] at hcs
      obtain ⟨rfl, rfl, rfl⟩ := hcs
      exact .inl ⟨rfl, rfl, rfl⟩
    · simp [Value.cells] at hcs
      obtain ⟨rfl, rfl, rfl⟩ := hcs
      refine .inr ⟨x, rfl, Nat.le_trans hl hm, fun i hi => ?_⟩
      have hi' := hel i hi
      rw [cells30, List.getElem?_eq_getElem (by omega), Option.bind_eq_some_iff] at hi'
      obtain ⟨cs, h1, h2⟩ := hi'
      obtain ⟨k, n, t, b, e, rfl, _⟩ := open_cells h2
      obtain ⟨_, _, h3⟩ := World.cells?_some h1
      refine ⟨⟨k, n, t, b, e⟩, ?_, ?_, ?_, ?_, ?_⟩
      · exact h3 0 (by omega)
      · exact h3 1 (by omega)
      · exact h3 2 (by omega)
      · exact h3 3 (by omega)
      · exact h3 4 (by omega)
  clear hA0
  refine (walk a0 len0 cap0 W hS w0).mono fun e W' ⟨he, bel⟩ => ?_
  subst he
  exact ⟨_, rfl, _, _, _, [], _, [], hW', trodAll_mk1 (shut_bool Tryd.underlying4 _), (trodAll_cons_mk (Below.trod laidOut (by kernel_rfl) (of_decide_eq_true (by kernel_rfl)) k0 bel lt0) trodAll_mk0), rfl, Below.frame bel _, fun h => by cases h⟩

set_option maxRecDepth 100000 in
theorem lifted (os : Os) (started : os.Started) (H : Type) (enc : TypeId × Value → H) (F : Stop.Interp) :
    ReturnsInHanded {} Tryd.checked os 6 .any ((OpenSpec.ofChange Rows.valueWorstSpec).preRow enc Tryd.prog Tryd.f6 Rows.valueWorstRow.domain false Rows.valueWorstRow.laid) (((OpenSpec.ofChange Rows.valueWorstSpec).at F).post enc Tryd.prog Tryd.f6 false true false false) := by
  have hx : DataW.whole enc Tryd.prog ((lay (World.holding Tryd.prog os ⟨#[], #[], []⟩)).forCall (fun _ _ => 0) ⟨#[], #[.slice none 0 0], []⟩).memory Tryd.f6.params.toList Rows.valueWorstSpec.vars false #[Value.slice none 0 0].toList 8 = some ([.nil], [], []) := by kernel_rfl
  refine returnsInHanded_of_row (C := Tryd.checked) (s := OpenSpec.ofChange Rows.valueWorstSpec) own started (by kernel_rfl) Tryd.func6
    (witness_row_at (enc := enc) (C := Tryd.checked) false (lay (World.holding Tryd.prog os ⟨#[], #[], []⟩)) #[.slice none 0 0] rfl (by kernel_rfl) (by kernel_rfl) (by kernel_rfl)
      (OpenSpec.preRow_of_cond 8 hx (by kernel_rfl) (fun k hk => by cases hk) (by kernel_rfl) (laid_met os _))) ?_
  intro W base args ds gs before hval hW _ _ _ hL hsh _
  exact contract H enc W base args ds gs before hval hW (std2_of hL hsh)

theorem said : Rows.ValueWorstSaid :=
  OpenClaim.holds_of_cond 6 Tryd.f6 rfl rfl rfl rfl rfl rfl rfl ⟨rfl, rfl, rfl, rfl, rfl⟩ rfl rfl rfl rfl rfl (by kernel_rfl) Tryd.func6 (by kernel_rfl)
    (of_decide_eq_true (by kernel_rfl)) (by unfold Func.isWrapper; first | (rw [if_pos (by decide +kernel)]; kernel_rfl) | (rw [if_neg (by decide +kernel)]; exact ⟨rfl, rfl⟩))
    (fun os started H enc _ F => by rw [OpenClaim.pre_eq_preRow]; exact lifted os started H enc F)

theorem plain (f : FuncId) (fn : Func) (hf : Tryd.pinned.checked.prog.funcNamed "counterpane/counterpanelaw2.ValueWorst" = some f) (hfn : Tryd.pinned.checked.prog.funcs[f]? = some fn) :
    false = Tryd.pinned.checked.prog.looks [] ∧ ∀ (j : Nat) t, fn.params[j]? = some t → Tryd.pinned.checked.prog.wantsStandIn t = false := by
  obtain rfl : f = 6 := Option.some.inj ((show Tryd.prog.funcNamed "counterpane/counterpanelaw2.ValueWorst" = some 6 by kernel_rfl).symm.trans hf) |>.symm
  obtain rfl : fn = Tryd.f6 := (Option.some.inj (Tryd.func6.symm.trans hfn)).symm
  refine ⟨by kernel_rfl, fun j t ht => ?_⟩
  rw [Tryd.params6] at ht
  obtain rfl : t = 43 := by simpa using Array.mem_of_getElem? ht
  exact (show Tryd.prog.wantsStandIn 43 = false by kernel_rfl)

end valueWorst

theorem valueWorst_card : Rows.ValueWorstCardSaid :=
  Claim7.holds_tied_plain_at .later [] _ _ _ _ valueWorst.said (fun _ h => by cases h) (by kernel_rfl) (fun _ h => by cases h) valueWorst_row_tie rfl ⟨rfl, rfl⟩ (by kernel_rfl) rfl valueWorst.plain (by kernel_rfl)
end Go.Proofs.YtkhecmafhcdalaaDoor
