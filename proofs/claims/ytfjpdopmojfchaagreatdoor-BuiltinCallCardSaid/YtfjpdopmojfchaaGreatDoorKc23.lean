/- What the rows' lists of variab. -/
import Derived.Test.YtfjpdopmojfchaaGreatDoorKc11
import Derived.Test.YtfjpdopmojfchaaGreatDoorKc01
import Derived.Test.YtfjpdopmojfchaaGreatDoorCards
import Derived.Test.YtfjpdopmojfchaaGreatDoorTie
import Derived.ProofKit
import Derived.OpenShut
import Derived.Deep.DeepHandedRow
import Derived.Lib.LaidTab
import Derived.Lib.LaidU8
import Derived.Stop.LaidErr
set_option linter.unusedVariables false
set_option linter.unusedSimpArgs false
set_option maxRecDepth 100000
set_option maxHeartbeats 8000000
namespace Go.Proofs.YtfjpdopmojfchaaGreatDoor
open Go.ChangeShapes Go.WideShapes Go.ChangeAt Go.RowKit
set_option maxRecDepth 100000
set_option linter.unusedVariables false
theorem own : ownKnob Tryz.prog.godebug = none := by kernel_rfl
theorem cells121 : Tryz.prog.cellsOf 178 = 20 := by kernel_rfl
theorem cells55 : Tryz.prog.cellsOf 109 = 1 := by kernel_rfl
theorem cells9 : Tryz.prog.cellsOf 9 = 1 := by kernel_rfl
theorem cells30 : Tryz.prog.cellsOf 37 = 5 := by kernel_rfl
theorem tabType : (Tryz.prog.globals[5]?).map (·.type) = some 178 := by kernel_rfl
theorem namType : (Tryz.prog.globals[0]?).map (·.type) = some 145 := by kernel_rfl
theorem glob_nam : Tryz.prog.globalNamed "counterpane/value.names" = some 0 := by kernel_rfl
theorem laid_plain_builtinCall : (Rows.builtinCallRow.laid.all fun x => x.2.handleName?.isNone) = true := by kernel_rfl
theorem laid_pow : Rows.laid_internal_strconv_uint64pow10 = Lib.tabData (H := Unit) .u64 Lib.pow10Tab := by kernel_rfl
theorem laid_first : Rows.laid_unicode_utf8_first = Lib.firstData := by kernel_rfl
theorem laid_accept : Rows.laid_unicode_utf8_acceptRanges = Lib.acceptData := by kernel_rfl
theorem std_reads {W : World} (h : Lib.VarReads Tryz.prog W "internal/strconv.uint64pow10" (Lib.tabData .u64 Lib.pow10Tab)) (hsh : W.ShapedOpen Tryz.prog) : Std W := by
  have hT : Lib.TabIs Tryz.prog W "internal/strconv.uint64pow10" .u64 Lib.pow10Tab := by
    obtain ⟨g, t, cs, fuel, p, hg, hty, hvar, hd⟩ := h
    obtain rfl := Option.some.inj (glob_tab.symm.trans hg)
    obtain rfl := Option.some.inj (tabType.symm.trans hty)
    unfold Lib.TabIs
    rw [hvar, ← Lib.cells_of_tab Tryz.underlying178 Tryz.underlying109 cells55 cells121 hd]
  obtain ⟨m, hm⟩ := Tryz.laysM145.s1_3 W hsh
  refine ⟨hT, ⟨m, hm⟩, ?_⟩
  rcases Nat.lt_or_ge 6 W.heap.size with h | h
  · exact h
  · exfalso
    have hm' : W.cell? ⟨6, 0, none⟩ = some (.int .i64 m) := hm
    unfold World.cell? at hm'
    rw [Array.getElem?_eq_none (by exact h)] at hm'
    simp at hm'
theorem u8x : U8Extra Tryz.prog Tryz.lays260_ren := ⟨by kernel_rfl, by kernel_rfl, by kernel_rfl, by kernel_rfl, by kernel_rfl, by kernel_rfl, by kernel_rfl⟩
def namL : List (List UInt8) := [[], [35, 82, 69, 70, 33], [35, 67, 89, 67, 76, 69, 33], [35, 68, 73, 86, 47, 48, 33], [35, 78, 85, 77, 33], [35, 86, 65, 76, 85, 69, 33], [35, 78, 65, 77, 69, 63], [35, 78, 47, 65]]
theorem laid_nam : Rows.laid_counterpane_value_names (H := Unit) = .agg (namL.map fun l => .lit (.string l)) := by kernel_rfl
theorem namL_at : ∀ i : Nat, i < 8 → namL[i]? = some (nmL i) := by
  intro i hi
  rcases (by omega : i = 0 ∨ i = 1 ∨ i = 2 ∨ i = 3 ∨ i = 4 ∨ i = 5 ∨ i = 6 ∨ i = 7) with rfl | rfl | rfl | rfl | rfl | rfl | rfl | rfl <;> rfl
theorem nam_reads {W : World} (h : Lib.VarReads Tryz.prog W "counterpane/value.names" (.agg (namL.map fun l => .lit (.string l)))) : Nam W := by
  obtain ⟨g, t, cs, fuel, p, hg, hty, hvar, hd⟩ := h
  obtain rfl := Option.some.inj (glob_nam.symm.trans hg)
  obtain rfl := Option.some.inj (namType.symm.trans hty)
  have hc : ∀ i : Nat, i < 8 → W.cell? ⟨0, i, none⟩ = some (.string ⟨(nmL i).toArray⟩) := by
    intro i hi
    obtain ⟨fuel', d, q, hdi, he⟩ := Lib.array_elem Tryz.underlying145 hd i hi
    rw [List.getElem?_map, namL_at i hi] at hdi
    simp only [Option.map_some, Option.some.injEq] at hdi
    subst hdi
    rw [cells9] at he
    obtain ⟨s, hs, hx, _⟩ := DataW.trod_string Tryz.underlying9 he
    have e0 := congrArg (·[0]?) hs
    simp only [List.getElem?_take, List.getElem?_drop] at e0
    simp only [Prod.mk.injEq, DataW.lit.injEq, Lit.string.injEq] at hx
    have hs' : s = ⟨(nmL i).toArray⟩ := by
      apply ByteArray.ext
      apply Array.ext'
      rw [← hx.1]
    rw [World.var?_cell hg hvar i, ← Array.getElem?_toList]
    rw [← hs']
    simpa using e0
  refine ⟨?_, hc⟩
  exact World.block_lt_of_cell? W ⟨0, 0, none⟩ (hc 0 (by omega))
theorem std2_builtinCall {W : World} (hL : laidMetH Tryz.prog Rows.builtinCallRow.laid W) (hsh : W.ShapedOpen Tryz.prog) : Std2 W := by
  rw [MakeChecks.laidMetH_plain _ _ _ laid_plain_builtinCall] at hL
  refine ⟨std_reads (Lib.laidMet.reads hL ?_) hsh, ?_, nam_reads (Lib.laidMet.reads hL ?_)⟩
  · rw [← laid_pow]
    exact .tail _ (.tail _ (.head _))
  · refine utf8Tabs_of_reads Tryz.lays260 u8x (Lib.laidMet.reads hL ?_) (Lib.laidMet.reads hL ?_)
    · rw [← laid_first]
      exact .tail _ (.tail _ (.tail _ (.tail _ (.tail _ (.head _)))))
    · rw [← laid_accept]
      exact .tail _ (.tail _ (.tail _ (.head _)))
  · rw [← laid_nam]
    exact .tail _ (.tail _ (.tail _ (.tail _ (.head _))))
def lit1 : DataW Unit → List Value
  | .lit (.int k n) => [.int k n]
  | .lit (.string l) => [.string ⟨l.toArray⟩]
  | _ => []
def lit2 : DataW Unit → List Value
  | .agg l => l.flatMap lit1
  | d => lit1 d
def lit3 : DataW Unit → List Value
  | .agg l => l.flatMap lit2
  | d => lit2 d
def put (d : DataW Unit) : Obj → Obj
  | .cells _ t frozen => .cells (lit3 d).toArray t frozen
  | o => o
def lay (w : World) : World :=
  { w with heap := (((((w.heap.modify 0 (put Rows.laid_counterpane_value_names)).modify 1 (put Rows.laid_unicode_utf8_first)).modify 2 (put Rows.laid_unicode_utf8_acceptRanges)).modify 5 (put Rows.laid_internal_strconv_uint64pow10)).modify 7 (put Rows.laid_math_bits_deBruijn32tab)).modify 8 (put Rows.laid_math_bits_deBruijn64tab) }
theorem laid_met_builtinCall (os : Os) (args : Array Value) : laidMetH Tryz.prog Rows.builtinCallRow.laid ((lay (World.holding Tryz.prog os ⟨#[], #[], []⟩)).forCall (fun _ _ => 0) ⟨#[], args, []⟩).memory := by
  rw [MakeChecks.laidMetH_plain _ _ _ laid_plain_builtinCall]
  exact laidMet_of_run' 8 (by kernel_rfl) (by kernel_rfl)
theorem open_cells {H : Type} {enc : TypeId × Value → H} {W : World} {sp : Nat → Bool} {held : Bool} {fuel base : Nat} {cs : List Value} {x : DataW H × List MemPlace}
    (h : DataW.trod enc Tryz.prog W base sp held fuel 37 cs = some x) :
    ∃ (k n : Int) (t : ByteArray) (b : Bool) (e : Int), cs = [.int .i64 k, .int .i64 n, .string t, .bool b, .int .i64 e] ∧ (Lit.int .i64 k).wf = true ∧ (Lit.int .i64 n).wf = true ∧ t.size ≤ maxLen ∧ (Lit.int .i64 e).wf = true := by
  obtain ⟨xs, m, _, _, hl, hlen, hf⟩ := DataW.trod_struct Tryz.underlying37 h
  rw [cells30] at hl
  have hlen' : xs.length = 5 := hlen
  match cs, hl with
  | [v0, v1, v2, v3, v4], _ =>
    have g0 := hf 0 _ rfl
    have g1 := hf 1 _ rfl
    have g2 := hf 2 _ rfl
    have g3 := hf 3 _ rfl
    have g4 := hf 4 _ rfl
    match xs, hlen' with
    | [y0, y1, y2, y3, y4], _ =>
      obtain ⟨k, e0, _, wk⟩ := DataW.trod_int Tryz.underlying3 g0
      obtain ⟨n, e1, _, wn⟩ := DataW.trod_int Tryz.underlying35 g1
      obtain ⟨t, e2, _, wt⟩ := DataW.trod_string Tryz.underlying9 g2
      obtain ⟨b, e3, _⟩ := DataW.trod_bool Tryz.underlying4 g3
      obtain ⟨e, e4, _, we⟩ := DataW.trod_int Tryz.underlying3 g4
      refine ⟨k, n, t, b, e, ?_, wk, wn, wt, we⟩
      have f0 : v0 = .int .i64 k := by
        have : [v0] = [.int .i64 k] := e0
        exact (List.cons.inj this).1
      have f1 : v1 = .int .i64 n := by
        have : [v1] = [.int .i64 n] := e1
        exact (List.cons.inj this).1
      have f2 : v2 = .string t := by
        have : [v2] = [.string t] := e2
        exact (List.cons.inj this).1
      have f3 : v3 = .bool b := by
        have : [v3] = [.bool b] := e3
        exact (List.cons.inj this).1
      have f4 : v4 = .int .i64 e := by
        have : [v4] = [.int .i64 e] := e4
        exact (List.cons.inj this).1
      rw [f0, f1, f2, f3, f4]
end Go.Proofs.YtfjpdopmojfchaaGreatDoor
