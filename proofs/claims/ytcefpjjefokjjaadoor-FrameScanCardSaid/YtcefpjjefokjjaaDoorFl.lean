/- What the rows' list gives to the walks; a world in which the listed table lies. -/
import Derived.Test.YtcefpjjefokjjaaDoorFa
import Derived.Test.YtcefpjjefokjjaaDoorCards
import Derived.Test.YtcefpjjefokjjaaDoorTie
import Derived.ProofKit
import Derived.OpenShut
import Derived.Deep.DeepHandedRow
import Derived.Lib.LaidTab
import Derived.Lib.LaidU8
import Derived.Stop.LaidErr
namespace Go.Proofs.YtcefpjjefokjjaaDoor
open Go.ChangeShapes Go.WideShapes Go.ChangeAt Go.RowKit
set_option maxRecDepth 100000
set_option linter.unusedVariables false
theorem own : ownKnob Tryd.prog.godebug = none := by kernel_rfl
theorem cells33 : Tryd.prog.cellsOf 33 = 1 := by kernel_rfl
theorem tabType : (Tryd.prog.globals[0]?).map (·.type) = some 40 := by kernel_rfl
theorem glob_tab : Tryd.prog.globalNamed "counterpane/frame.remainders" = some 0 := by kernel_rfl
theorem laid_plain_frameBig : (Rows.frameBigRow.laid.all fun x => x.2.handleName?.isNone) = true := by kernel_rfl
theorem laid_plain_framePrefix : (Rows.framePrefixRow.laid.all fun x => x.2.handleName?.isNone) = true := by kernel_rfl
theorem laid_plain_frameScan : (Rows.frameScanRow.laid.all fun x => x.2.handleName?.isNone) = true := by kernel_rfl
theorem laid_tab : Rows.laid_counterpane_frame_remainders (H := Unit) = .agg (tabL.map fun (l : Nat) => .lit (.int .u32 (l : Int))) := by kernel_rfl
theorem tabL_at : ∀ i : Nat, i < 16 → tabL[i]? = some (tb i) := by decide +kernel
theorem tab_cells {W : World} (h : Lib.VarReads Tryd.prog W "counterpane/frame.remainders" (.agg (tabL.map fun (l : Nat) => .lit (.int .u32 (l : Int))))) : ∀ i : Nat, i < 16 → W.cell? ⟨0, i, none⟩ = some (.int .u32 (tb i)) := by
  obtain ⟨g, t, cs, fuel, p, hg, hty, hvar, hd⟩ := h
  obtain rfl := Option.some.inj (glob_tab.symm.trans hg)
  obtain rfl := Option.some.inj (tabType.symm.trans hty)
  intro i hi
  obtain ⟨fuel', d, q, hdi, he⟩ := Lib.array_elem Tryd.underlying40 hd i hi
  rw [List.getElem?_map, tabL_at i hi] at hdi
  simp only [Option.map_some, Option.some.injEq] at hdi
  subst hdi
  rw [cells33] at he
  obtain ⟨s, hs, hx, _⟩ := DataW.trod_int Tryd.underlying33 he
  have e0 := congrArg (·[0]?) hs
  simp only [List.getElem?_take, List.getElem?_drop] at e0
  simp only [Prod.mk.injEq, DataW.lit.injEq, Lit.int.injEq] at hx
  rw [World.var?_cell hg hvar i, ← Array.getElem?_toList, hx.1.2]
  simpa using e0
theorem tab_of {W : World} (h : Lib.VarReads Tryd.prog W "counterpane/frame.remainders" (.agg (tabL.map fun (l : Nat) => .lit (.int .u32 (l : Int))))) : Tab W := by
  have hc := tab_cells h
  exact ⟨World.block_lt_of_cell? W ⟨0, 0, none⟩ (hc 0 (by omega)), hc⟩
theorem gd_frameBig {W : World} (hL : laidMetH Tryd.prog Rows.frameBigRow.laid W) : Tab W := by
  rw [MakeChecks.laidMetH_plain _ _ _ laid_plain_frameBig] at hL
  refine tab_of (Lib.laidMet.reads hL ?_)
  rw [← laid_tab]
  exact .head _
theorem gd_framePrefix {W : World} (hL : laidMetH Tryd.prog Rows.framePrefixRow.laid W) : Tab W := by
  rw [MakeChecks.laidMetH_plain _ _ _ laid_plain_framePrefix] at hL
  refine tab_of (Lib.laidMet.reads hL ?_)
  rw [← laid_tab]
  exact .head _
theorem gd_frameScan {W : World} (hL : laidMetH Tryd.prog Rows.frameScanRow.laid W) : Tab W := by
  rw [MakeChecks.laidMetH_plain _ _ _ laid_plain_frameScan] at hL
  refine tab_of (Lib.laidMet.reads hL ?_)
  rw [← laid_tab]
  exact .head _
/-- the numbers of a listed table, in their order -/
def lit1 : DataW Unit → List Value
  | .lit (.int k n) => [.int k n]
  | _ => []
def lit2 : DataW Unit → List Value
  | .agg l => l.flatMap lit1
  | d => lit1 d
def put (d : DataW Unit) : Obj → Obj
  | .cells _ t frozen => .cells (lit2 d).toArray t frozen
  | o => o
/-- the world with the listed table laid -/
def lay (w : World) : World :=
  { w with heap := w.heap.modify 0 (put Rows.laid_counterpane_frame_remainders) }
theorem laid_met_frameBig (os : Os) (args : Array Value) : laidMetH Tryd.prog Rows.frameBigRow.laid ((lay (World.holding Tryd.prog os ⟨#[], #[], []⟩)).forCall (fun _ _ => 0) ⟨#[], args, []⟩).memory := by
  rw [MakeChecks.laidMetH_plain _ _ _ laid_plain_frameBig]
  exact laidMet_of_run' 8 (by kernel_rfl) (by kernel_rfl)
theorem laid_met_framePrefix (os : Os) (args : Array Value) : laidMetH Tryd.prog Rows.framePrefixRow.laid ((lay (World.holding Tryd.prog os ⟨#[], #[], []⟩)).forCall (fun _ _ => 0) ⟨#[], args, []⟩).memory := by
  rw [MakeChecks.laidMetH_plain _ _ _ laid_plain_framePrefix]
  exact laidMet_of_run' 8 (by kernel_rfl) (by kernel_rfl)
theorem laid_met_frameScan (os : Os) (args : Array Value) : laidMetH Tryd.prog Rows.frameScanRow.laid ((lay (World.holding Tryd.prog os ⟨#[], #[], []⟩)).forCall (fun _ _ => 0) ⟨#[], args, []⟩).memory := by
  rw [MakeChecks.laidMetH_plain _ _ _ laid_plain_frameScan]
  exact laidMet_of_run' 8 (by kernel_rfl) (by kernel_rfl)
end Go.Proofs.YtcefpjjefokjjaaDoor
