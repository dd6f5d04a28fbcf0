/- The law counterpanelaw18.XformRefs returns true for every slice of references and every slice of lines (each reference of a formula that one writes follows its cell through the lines that another one made, or is lost with it); no condition beyond the given row own list of tables. -/
import Derived.Test.YthebfhdpofhmpaaGreatDoorKc26
import Derived.Test.YthebfhdpofhmpaaGreatDoorKc07
import Derived.Test.YthebfhdpofhmpaaGreatDoorKc19
import Derived.ChangeOld
set_option linter.unusedVariables false
set_option linter.unusedSimpArgs false
set_option maxRecDepth 100000
set_option maxHeartbeats 8000000
namespace Go.Proofs.YthebfhdpofhmpaaGreatDoor
namespace xformRefs
open Go.ChangeShapes Go.WideShapes Go.ChangeAt Go.RowKit
set_option maxRecDepth 100000
theorem cells46 : Tryz.prog.cellsOf 46 = 5 := by kernel_rfl
theorem open_rf {H : Type} {enc : TypeId × Value → H} {W : World} {sp : Nat → Bool} {held : Bool} (fuel base : Nat) (cs : List Value) (x : DataW H × List MemPlace)
    (h : DataW.trod enc Tryz.prog W base sp held fuel 46 cs = some x) : ∃ y : Rf, cs = rf y := by
  obtain ⟨xs, m, _, _, hl, hlen, hf⟩ := DataW.trod_struct Tryz.underlying46 h
  rw [cells46] at hl
  have hlen' : xs.length = 5 := hlen
  match cs, hl with
  | [v0, v1, v2, v3, v4], _ =>
    have g0 := hf 0 _ rfl
    have g1 := hf 1 _ rfl
    have g2 := hf 2 _ rfl
    have g3 := hf 3 _ rfl
    have g4 := hf 4 _ rfl
    match xs, hlen' with
    | [y0, y1, y2, y3, y4], _ =>
      obtain ⟨t, e0, _, wt⟩ := DataW.trod_string Tryz.underlying9 g0
      obtain ⟨k, e1, _, wk⟩ := DataW.trod_int Tryz.underlying2 g1
      obtain ⟨n, e2, _, wn⟩ := DataW.trod_int Tryz.underlying2 g2
      obtain ⟨b, e3, _⟩ := DataW.trod_bool Tryz.underlying4 g3
      obtain ⟨c, e4, _⟩ := DataW.trod_bool Tryz.underlying4 g4
      refine ⟨(t.data.toList, k, n, b, c), ?_⟩
      have f0 : v0 = .string t := by
        have : [v0] = [.string t] := e0
        exact (List.cons.inj this).1
      have f1 : v1 = .int .i64 k := by
        have : [v1] = [.int .i64 k] := e1
        exact (List.cons.inj this).1
      have f2 : v2 = .int .i64 n := by
        have : [v2] = [.int .i64 n] := e2
        exact (List.cons.inj this).1
      have f3 : v3 = .bool b := by
        have : [v3] = [.bool b] := e3
        exact (List.cons.inj this).1
      have f4 : v4 = .bool c := by
        have : [v4] = [.bool c] := e4
        exact (List.cons.inj this).1
      rw [f0, f1, f2, f3, f4]
      rfl
theorem contract (H : Type) (enc : TypeId × Value → H) (W : World) (base : Nat) (args : Array Value) (ds gs : List (DataW H)) (before : List MemPlace)
    (hval : ∀ (j : Nat) t v, Tryz.f4.params[j]? = some t → args[j]? = some v → Value.okWide Tryz.prog W .any base t v)
    (hW : DataW.Whole enc Tryz.prog Tryz.f4.params.toList Rows.xformRefsSpec.vars false W args.toList ds gs before) (hS : Gd W) :
    Calls Tryz.prog 4 args W fun e W' => ∃ v, e = .returned v ∧ Rows.xformRefsSpec.post enc Tryz.prog Tryz.f4 false true false false W args v W' := by
  have hW' := hW
  obtain ⟨p, q, hA0, hV, rfl, hfz, hnd⟩ := hW
  have hA : DataW.TrodAll enc Tryz.prog W 0 (fun _ => true) true Tryz.f4.params.toList args.toList ds p := hA0
  rw [Tryz.params4] at hA hval
  obtain ⟨v0, vs0, d0, ds0, p0, q0, hargs, rfl, rfl, h0, r0⟩ := trodAll_cons hA
  obtain ⟨v1, vs1, d1, ds1, p1, q1, rfl, rfl, rfl, h1, r1⟩ := trodAll_cons r0
  obtain ⟨rfl, rfl, rfl⟩ := trodAll_nil r1
  obtain rfl : args = #[v0, v1] := Array.ext' hargs
  obtain ⟨rfl, rfl⟩ := trodVars_none hV
  have k0 := h0
  have k1 := h1
  have lt0 : ∀ x ∈ p0, x.block < W.heap.size := by obtain ⟨m, hm⟩ := k0; exact DataW.trod_lt m _ _ _ hm
  have lt1 : ∀ x ∈ p1, x.block < W.heap.size := by obtain ⟨m, hm⟩ := k1; exact DataW.trod_lt m _ _ _ hm
  obtain ⟨A, sA⟩ := open_sl rf 5 32 46 Tryz.underlying32 cells46 (by decide) (fun _ => rfl) open_rf (hval 0 32 v0 rfl rfl) h0
  obtain ⟨B, sB⟩ := open_sl le 3 22 28 Tryz.underlying22 cells28 (by decide) le_len open_l3 (hval 1 22 v1 rfl rfl) h1
  clear hA0
  simp only [List.append_nil] at hW'
  refine (refs_any v0 v1 A B W hS sA sB).mono fun e W' ⟨he, hg⟩ => ?_
  subst he
  exact ⟨_, rfl, _, _, _, [], _, [], hW', trodAll_cons_mk (shut_bool Tryz.underlying4 _) trodAll_mk0,
    trodAll_cons_mk (Below.trod laidOut (by kernel_rfl) (of_decide_eq_true (by kernel_rfl)) k0 hg lt0) (trodAll_cons_mk (Below.trod laidOut (by kernel_rfl) (of_decide_eq_true (by kernel_rfl)) k1 hg lt1) trodAll_mk0), rfl,
    Below.frame hg _, fun h => by cases h⟩
theorem lifted (os : Os) (started : os.Started) (H : Type) (enc : TypeId × Value → H) (F : Stop.Interp) :
    ReturnsInHanded {} Tryz.checked os 4 .any ((OpenSpec.ofChange Rows.xformRefsSpec).preRow enc Tryz.prog Tryz.f4 Rows.xformRefsRow.domain false Rows.xformRefsRow.laid) (((OpenSpec.ofChange Rows.xformRefsSpec).at F).post enc Tryz.prog Tryz.f4 false true false false) := by
  have hx : DataW.whole enc Tryz.prog ((lay (World.holding Tryz.prog os ⟨#[], #[], []⟩)).forCall (fun _ _ => 0) ⟨#[], #[.slice none 0 0, .slice none 0 0], []⟩).memory Tryz.f4.params.toList Rows.xformRefsSpec.vars false #[Value.slice none 0 0, Value.slice none 0 0].toList 8 = some ([.nil, .nil], [], []) := by kernel_rfl
  refine returnsInHanded_of_row (C := Tryz.checked) (s := OpenSpec.ofChange Rows.xformRefsSpec) own started (by kernel_rfl) Tryz.func4
    (witness_row_at (enc := enc) (C := Tryz.checked) false (lay (World.holding Tryz.prog os ⟨#[], #[], []⟩)) #[.slice none 0 0, .slice none 0 0] rfl (by kernel_rfl) (by kernel_rfl) (by kernel_rfl)
      (OpenSpec.preRow_of_cond 8 hx (by kernel_rfl) (fun k hk => by cases hk) (by kernel_rfl) (laid_met_xformAlone os _))) ?_
  intro W base args ds gs before hval hW _ _ _ hL hsh _
  exact contract H enc W base args ds gs before hval hW (gd_xformAlone hL hsh)
theorem said : Rows.XformRefsSaid :=
  OpenClaim.holds_of_cond 4 Tryz.f4 rfl rfl rfl rfl rfl rfl rfl ⟨rfl, rfl, rfl, rfl, rfl⟩ rfl rfl rfl rfl rfl (by kernel_rfl) Tryz.func4 (by kernel_rfl)
    (of_decide_eq_true (by kernel_rfl)) (by unfold Func.isWrapper; first | (rw [if_pos (by decide +kernel)]; kernel_rfl) | (rw [if_neg (by decide +kernel)]; exact ⟨rfl, rfl⟩))
    (fun os started H enc _ F => by rw [OpenClaim.pre_eq_preRow]; exact lifted os started H enc F)
theorem plain (f : FuncId) (fn : Func) (hf : Tryz.pinned.checked.prog.funcNamed "counterpane/counterpanelaw18.XformRefs" = some f) (hfn : Tryz.pinned.checked.prog.funcs[f]? = some fn) :
    false = Tryz.pinned.checked.prog.looks [] ∧ ∀ (j : Nat) t, fn.params[j]? = some t → Tryz.pinned.checked.prog.wantsStandIn t = false := by
  obtain rfl : f = 4 := Option.some.inj ((show Tryz.prog.funcNamed "counterpane/counterpanelaw18.XformRefs" = some 4 by kernel_rfl).symm.trans hf) |>.symm
  obtain rfl : fn = Tryz.f4 := (Option.some.inj (Tryz.func4.symm.trans hfn)).symm
  refine ⟨by kernel_rfl, fun j t ht => ?_⟩
  rw [Tryz.params4] at ht
  have ht' : t = 32 ∨ t = 22 := by simpa using Array.mem_of_getElem? ht
  rcases ht' with rfl | rfl
  · exact (show Tryz.prog.wantsStandIn 32 = false by kernel_rfl)
  · exact (show Tryz.prog.wantsStandIn 22 = false by kernel_rfl)
end xformRefs
theorem xformRefs_card : Rows.XformRefsCardSaid :=
  Claim7.holds_tied_plain_at .later [] _ _ _ _ xformRefs.said (fun _ h => by cases h) (by kernel_rfl) (fun _ h => by cases h) xformRefs_row_tie rfl ⟨rfl, rfl⟩ (by kernel_rfl) rfl xformRefs.plain (by kernel_rfl)
end Go.Proofs.YthebfhdpofhmpaaGreatDoor
