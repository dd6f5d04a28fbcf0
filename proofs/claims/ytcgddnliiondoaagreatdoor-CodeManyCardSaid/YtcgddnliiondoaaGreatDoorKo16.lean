/- What the rows' lists of variables give to the walks; a world in which the listed tables lie. -/
import Derived.Test.YtcgddnliiondoaaGreatDoorKo15
import Derived.Test.YtcgddnliiondoaaGreatDoorKo00
import Derived.Test.YtcgddnliiondoaaGreatDoorCards
import Derived.Test.YtcgddnliiondoaaGreatDoorTie
import Derived.ProofKit
import Derived.OpenShut
import Derived.Deep.DeepHandedRow
import Derived.Lib.LaidTab
import Derived.Lib.LaidU8T
import Derived.Stop.LaidErr
set_option linter.unusedVariables false
set_option linter.unusedSimpArgs false
set_option maxRecDepth 100000
set_option maxHeartbeats 8000000
namespace Go.Proofs.YtcgddnliiondoaaGreatDoor
open Go.ChangeShapes Go.WideShapes Go.ChangeAt Go.RowKit
set_option maxRecDepth 100000
set_option linter.unusedVariables false
theorem own : ownKnob Tryz.prog.godebug = none := by kernel_rfl
theorem cells9 : Tryz.prog.cellsOf 9 = 1 := by kernel_rfl
theorem namType : (Tryz.prog.globals[0]?).map (·.type) = some 139 := by kernel_rfl
theorem glob_nam : Tryz.prog.globalNamed "counterpane/value.names" = some 0 := by kernel_rfl
theorem laid_plain_codeMany : (Rows.codeManyRow.laid.all fun x => x.2.handleName?.isNone) = true := by kernel_rfl
theorem laid_first : Rows.laid_unicode_utf8_first = Lib.firstData := by kernel_rfl
theorem laid_pow : Rows.laid_internal_strconv_uint64pow10 = Lib.tabData (H := Unit) .u64 Lib.pow10Tab := by kernel_rfl
theorem glob_tab : Tryz.prog.globalNamed "internal/strconv.uint64pow10" = some 4 := by kernel_rfl
theorem tabType : (Tryz.prog.globals[4]?).map (·.type) = some 215 := by kernel_rfl
theorem cells156 : Tryz.prog.cellsOf 215 = 20 := by kernel_rfl
theorem cells110 : Tryz.prog.cellsOf 106 = 1 := by kernel_rfl
theorem laid_accept : Rows.laid_unicode_utf8_acceptRanges = Lib.acceptData := by kernel_rfl
theorem u8x : U8Extra Tryz.prog Tryz.lays196_ren := ⟨by kernel_rfl, by kernel_rfl, by kernel_rfl, by kernel_rfl, by kernel_rfl, by kernel_rfl, by kernel_rfl⟩
def namL : List (List UInt8) := [[], [35, 82, 69, 70, 33], [35, 67, 89, 67, 76, 69, 33], [35, 68, 73, 86, 47, 48, 33], [35, 78, 85, 77, 33], [35, 86, 65, 76, 85, 69, 33], [35, 78, 65, 77, 69, 63], [35, 78, 47, 65]]
theorem namL_at : ∀ i : Nat, i < 8 → namL[i]? = some (enL i) := by
  intro i hi
  rcases (by omega : i = 0 ∨ i = 1 ∨ i = 2 ∨ i = 3 ∨ i = 4 ∨ i = 5 ∨ i = 6 ∨ i = 7) with rfl | rfl | rfl | rfl | rfl | rfl | rfl | rfl <;> rfl
theorem laid_nam : Rows.laid_counterpane_value_names (H := Unit) = .agg (namL.map fun l => .lit (.string l)) := by kernel_rfl
theorem nam_cells {W : World} (h : Lib.VarReads Tryz.prog W "counterpane/value.names" (.agg (namL.map fun l => .lit (.string l)))) : ∀ i : Nat, i < 8 → W.cell? ⟨0, i, none⟩ = some (.string ⟨(enL i).toArray⟩) := by
  obtain ⟨g, t, cs, fuel, p, hg, hty, hvar, hd⟩ := h
  obtain rfl := Option.some.inj (glob_nam.symm.trans hg)
  obtain rfl := Option.some.inj (namType.symm.trans hty)
  intro i hi
  obtain ⟨fuel', d, q, hdi, he⟩ := Lib.array_elem Tryz.underlying139 hd i hi
  rw [List.getElem?_map, namL_at i hi] at hdi
  simp only [Option.map_some, Option.some.injEq] at hdi
  subst hdi
  rw [cells9] at he
  obtain ⟨s, hs, hx, _⟩ := DataW.trod_string Tryz.underlying9 he
  have e0 := congrArg (·[0]?) hs
  simp only [List.getElem?_take, List.getElem?_drop] at e0
  simp only [Prod.mk.injEq, DataW.lit.injEq, Lit.string.injEq] at hx
  have hs' : s = ⟨(enL i).toArray⟩ := by
    apply ByteArray.ext
    apply Array.ext'
    rw [← hx.1]
  rw [World.var?_cell hg hvar i, ← Array.getElem?_toList]
  rw [← hs']
  simpa using e0
theorem std_reads {W : World} (h1 : Lib.VarReads Tryz.prog W "counterpane/value.names" (.agg (namL.map fun l => .lit (.string l))))
    (h3 : Lib.VarReads Tryz.prog W "unicode/utf8.first" Lib.firstData) (h4 : Lib.VarReads Tryz.prog W "unicode/utf8.acceptRanges" Lib.acceptData) (h5 : Lib.VarReads Tryz.prog W "math/bits.deBruijn64tab" Rows.laid_math_bits_deBruijn64tab) (hsh : W.ShapedOpen Tryz.prog) : Std W := by
  have hc := nam_cells h1
  obtain ⟨m, hm⟩ := Go.Proofs.cell_of_shapedOpen_int (g := 3) (zero := #[.int .i64 0]) (t := 3) hsh (of_decide_eq_true (by kernel_rfl)) (by kernel_rfl) rfl (by kernel_rfl) (by kernel_rfl) Tryz.underlying3
  refine ⟨⟨World.block_lt_of_cell? W ⟨0, 0, none⟩ (hc 0 (by omega)), hc⟩, utf8Tabs_of_readsT (U8Types.of196 Tryz.lays196) u8x h3 h4, ⟨m, hm⟩, ?_⟩
  obtain ⟨g, t, cs, fuel, p, hg, hty, hvar, hd⟩ := h5
  obtain rfl := Option.some.inj ((show Tryz.prog.globalNamed "math/bits.deBruijn64tab" = some 6 by kernel_rfl).symm.trans hg)
  unfold World.var? at hvar
  rw [hg] at hvar
  simp only [Option.bind_some] at hvar
  rcases Nat.lt_or_ge 6 W.heap.size with h' | h'
  · omega
  · rw [Array.getElem?_eq_none h'] at hvar; simp at hvar
theorem tab_reads {W : World} (h : Lib.VarReads Tryz.prog W "internal/strconv.uint64pow10" (Lib.tabData .u64 Lib.pow10Tab)) : Lib.TabIs Tryz.prog W "internal/strconv.uint64pow10" .u64 Lib.pow10Tab := by
  obtain ⟨g, t, cs, fuel, p, hg, hty, hvar, hd⟩ := h
  obtain rfl := Option.some.inj (glob_tab.symm.trans hg)
  obtain rfl := Option.some.inj (tabType.symm.trans hty)
  unfold Lib.TabIs
  rw [hvar, ← Lib.cells_of_tab Tryz.underlying215 Tryz.underlying106 cells110 cells156 hd]
theorem tab_on {W W' : World} (h : Lib.TabIs Tryz.prog W "internal/strconv.uint64pow10" .u64 Lib.pow10Tab) (q : Q W W') : Lib.TabIs Tryz.prog W' "internal/strconv.uint64pow10" .u64 Lib.pow10Tab := by
  unfold Lib.TabIs World.var? at *
  rw [glob_tab] at *
  simp only [Option.bind_some] at h ⊢
  have hb : 4 < W.heap.size := by
    rcases Nat.lt_or_ge 4 W.heap.size with h' | h'
    · exact h'
    · rw [Array.getElem?_eq_none h'] at h; simp at h
  rw [Below.block q 4 hb]
  exact h
theorem gd_codeMany {W : World} (hL : laidMetH Tryz.prog Rows.codeManyRow.laid W) (hsh : W.ShapedOpen Tryz.prog) : Gd W := by
  rw [MakeChecks.laidMetH_plain _ _ _ laid_plain_codeMany] at hL
  refine ⟨std_reads (Lib.laidMet.reads hL ?_) (Lib.laidMet.reads hL ?_) (Lib.laidMet.reads hL ?_) (Lib.laidMet.reads hL ?_) hsh, fun W' q => tab_on (tab_reads (Lib.laidMet.reads hL ?_)) q⟩
  · rw [← laid_nam]
    exact .tail _ (.tail _ (.tail _ (.tail _ (.head _))))
  · rw [← laid_first]
    exact .tail _ (.tail _ (.tail _ (.tail _ (.tail _ (.head _)))))
  · rw [← laid_accept]
    exact .tail _ (.tail _ (.tail _ (.head _)))
  · exact .tail _ (.head _)
  · rw [← laid_pow]
    exact .tail _ (.tail _ (.head _))
def lit1 : DataW Unit → List Value
  | .lit (.int k n) => [.int k n]
  | .lit (.string l) => [.string ⟨l.toArray⟩]
  | _ => []
def lit2 : DataW Unit → List Value
  | .agg l => l.flatMap lit1
  | d => lit1 d
def lit3 : DataW Unit → List Value
  | .agg l => l.flatMap lit2
  | d => lit2 d
def put (d : DataW Unit) : Obj → Obj
  | .cells _ t frozen => .cells (lit3 d).toArray t frozen
  | o => o
def lay (w : World) : World :=
  { w with heap := ((((((w.heap.modify 0 (put Rows.laid_counterpane_value_names)).modify 1 (put Rows.laid_unicode_utf8_first)).modify 2 (put Rows.laid_unicode_utf8_acceptRanges)).modify 4 (put Rows.laid_internal_strconv_uint64pow10)).modify 5 (put Rows.laid_math_bits_deBruijn32tab)).modify 6 (put Rows.laid_math_bits_deBruijn64tab)) }
theorem laid_met_codeMany (os : Os) (args : Array Value) : laidMetH Tryz.prog Rows.codeManyRow.laid ((lay (World.holding Tryz.prog os ⟨#[], #[], []⟩)).forCall (fun _ _ => 0) ⟨#[], args, []⟩).memory := by
  rw [MakeChecks.laidMetH_plain _ _ _ laid_plain_codeMany]
  exact laidMet_of_run' 8 (by kernel_rfl) (by kernel_rfl)
end Go.Proofs.YtcgddnliiondoaaGreatDoor
