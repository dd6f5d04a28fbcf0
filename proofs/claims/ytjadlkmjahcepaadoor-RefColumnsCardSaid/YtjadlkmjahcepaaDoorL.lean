/- What the rows' lists of variables give to the walks; a world in which the listed tables lie; a reference's fields. -/
import Derived.Test.YtjadlkmjahcepaaDoorI
import Derived.Test.YtjadlkmjahcepaaDoorCards
import Derived.Test.YtjadlkmjahcepaaDoorTie
import Derived.ProofKit
import Derived.OpenShut
import Derived.Deep.DeepHandedRow
import Derived.Lib.LaidTab
import Derived.Lib.LaidU8
import Derived.Stop.LaidErr
namespace Go.Proofs.YtjadlkmjahcepaaDoor
open Go.ChangeShapes Go.WideShapes Go.ChangeAt Go.RowKit
set_option maxRecDepth 100000
set_option linter.unusedVariables false

theorem own : ownKnob Tryd.prog.godebug = none := by kernel_rfl
theorem cells64 : Tryd.prog.cellsOf 64 = 20 := by kernel_rfl
theorem cells50 : Tryd.prog.cellsOf 50 = 1 := by kernel_rfl
theorem cells25 : Tryd.prog.cellsOf 25 = 5 := by kernel_rfl
theorem tabType : (Tryd.prog.globals[1]?).map (·.type) = some 64 := by kernel_rfl
theorem laid_plain1 : (Rows.refParseRow.laid.all fun x => x.2.handleName?.isNone) = true := by kernel_rfl
theorem laid_plain2 : (Rows.refPrintRow.laid.all fun x => x.2.handleName?.isNone) = true := by kernel_rfl
theorem laid_plain3 : (Rows.refColumnsRow.laid.all fun x => x.2.handleName?.isNone) = true := by kernel_rfl
theorem laid_pow : Rows.laid_internal_strconv_uint64pow10 = Lib.tabData (H := Unit) .u64 Lib.pow10Tab := by kernel_rfl

theorem std_reads {W : World} (h : Lib.VarReads Tryd.prog W "internal/strconv.uint64pow10" (Lib.tabData .u64 Lib.pow10Tab)) (hsh : W.ShapedOpen Tryd.prog) : Std W := by
  have hT : Lib.TabIs Tryd.prog W "internal/strconv.uint64pow10" .u64 Lib.pow10Tab := by
    obtain ⟨g, t, cs, fuel, p, hg, hty, hvar, hd⟩ := h
    obtain rfl := Option.some.inj (glob_tab.symm.trans hg)
    obtain rfl := Option.some.inj (tabType.symm.trans hty)
    unfold Lib.TabIs
    rw [hvar, ← Lib.cells_of_tab Tryd.underlying64 Tryd.underlying50 cells50 cells64 hd]
  obtain ⟨m, hm⟩ := Tryd.laysM145.s1_3 W hsh
  refine ⟨hT, ⟨m, hm⟩, ?_⟩
  rcases Nat.lt_or_ge 0 W.heap.size with h | h
  · exact h
  · exfalso
    have hm' : W.cell? ⟨0, 0, none⟩ = some (.int .i64 m) := hm
    unfold World.cell? at hm'
    rw [Array.getElem?_eq_none (by exact h)] at hm'
    simp at hm'

theorem std_of1 {W : World} (hL : laidMetH Tryd.prog Rows.refParseRow.laid W) (hsh : W.ShapedOpen Tryd.prog) : Std W := by
  rw [MakeChecks.laidMetH_plain _ _ _ laid_plain1] at hL
  refine std_reads (Lib.laidMet.reads hL ?_) hsh
  rw [← laid_pow]
  exact .tail _ (.tail _ (.head _))
theorem std_of2 {W : World} (hL : laidMetH Tryd.prog Rows.refPrintRow.laid W) (hsh : W.ShapedOpen Tryd.prog) : Std W := by
  rw [MakeChecks.laidMetH_plain _ _ _ laid_plain2] at hL
  refine std_reads (Lib.laidMet.reads hL ?_) hsh
  rw [← laid_pow]
  exact .tail _ (.tail _ (.head _))
theorem std_of3 {W : World} (hL : laidMetH Tryd.prog Rows.refColumnsRow.laid W) (hsh : W.ShapedOpen Tryd.prog) : Std W := by
  rw [MakeChecks.laidMetH_plain _ _ _ laid_plain3] at hL
  refine std_reads (Lib.laidMet.reads hL ?_) hsh
  rw [← laid_pow]
  exact .tail _ (.tail _ (.head _))

/-- the numbers of a listed table, in their order -/
def lit1 : DataW Unit → List Value
  | .lit (.int k n) => [.int k n]
  | _ => []
def lit2 : DataW Unit → List Value
  | .agg l => l.flatMap lit1
  | d => lit1 d
def put (d : DataW Unit) : Obj → Obj
  | .cells _ t frozen => .cells (lit2 d).toArray t frozen
  | o => o
/-- the world with the listed tables laid -/
def lay (w : World) : World :=
  { w with heap := ((w.heap.modify 1 (put Rows.laid_internal_strconv_uint64pow10)).modify 2 (put Rows.laid_math_bits_deBruijn32tab)).modify 3 (put Rows.laid_math_bits_deBruijn64tab) }

theorem laid_met1 (os : Os) (args : Array Value) : laidMetH Tryd.prog Rows.refParseRow.laid ((lay (World.holding Tryd.prog os ⟨#[], #[], []⟩)).forCall (fun _ _ => 0) ⟨#[], args, []⟩).memory := by
  rw [MakeChecks.laidMetH_plain _ _ _ laid_plain1]
  exact laidMet_of_run' 8 (by kernel_rfl) (by kernel_rfl)
theorem laid_met2 (os : Os) (args : Array Value) : laidMetH Tryd.prog Rows.refPrintRow.laid ((lay (World.holding Tryd.prog os ⟨#[], #[], []⟩)).forCall (fun _ _ => 0) ⟨#[], args, []⟩).memory := by
  rw [MakeChecks.laidMetH_plain _ _ _ laid_plain2]
  exact laidMet_of_run' 8 (by kernel_rfl) (by kernel_rfl)
theorem laid_met3 (os : Os) (args : Array Value) : laidMetH Tryd.prog Rows.refColumnsRow.laid ((lay (World.holding Tryd.prog os ⟨#[], #[], []⟩)).forCall (fun _ _ => 0) ⟨#[], args, []⟩).memory := by
  rw [MakeChecks.laidMetH_plain _ _ _ laid_plain3]
  exact laidMet_of_run' 8 (by kernel_rfl) (by kernel_rfl)

/-- five cells that read as a reference -/
theorem open_cells {H : Type} {enc : TypeId × Value → H} {W : World} {sp : Nat → Bool} {held : Bool} {fuel base : Nat} {cs : List Value} {x : DataW H × List MemPlace}
    (h : DataW.trod enc Tryd.prog W base sp held fuel 25 cs = some x) :
    ∃ (t : ByteArray) (k n : Int) (b c : Bool), cs = [.string t, .int .i64 k, .int .i64 n, .bool b, .bool c] ∧ (Lit.int .i64 k).wf = true ∧ (Lit.int .i64 n).wf = true ∧ t.size ≤ maxLen := by
  obtain ⟨xs, m, _, _, hl, hlen, hf⟩ := DataW.trod_struct Tryd.underlying25 h
  rw [cells25] at hl
  have hlen' : xs.length = 5 := hlen
  match cs, hl with
  | [v0, v1, v2, v3, v4], _ =>
    have g0 := hf 0 _ rfl
    have g1 := hf 1 _ rfl
    have g2 := hf 2 _ rfl
    have g3 := hf 3 _ rfl
    have g4 := hf 4 _ rfl
    match xs, hlen' with
    | [y0, y1, y2, y3, y4], _ =>
      obtain ⟨t, e0, _, wt⟩ := DataW.trod_string Tryd.underlying9 g0
      obtain ⟨k, e1, _, wk⟩ := DataW.trod_int Tryd.underlying2 g1
      obtain ⟨n, e2, _, wn⟩ := DataW.trod_int Tryd.underlying2 g2
      obtain ⟨b, e3, _⟩ := DataW.trod_bool Tryd.underlying4 g3
      obtain ⟨c, e4, _⟩ := DataW.trod_bool Tryd.underlying4 g4
      refine ⟨t, k, n, b, c, ?_, wk, wn, wt⟩
      have f0 : v0 = .string t := by
        have : [v0] = [.string t] := e0
        exact (List.cons.inj this).1
      have f1 : v1 = .int .i64 k := by
        have : [v1] = [.int .i64 k] := e1
        exact (List.cons.inj this).1
      have f2 : v2 = .int .i64 n := by
        have : [v2] = [.int .i64 n] := e2
        exact (List.cons.inj this).1
      have f3 : v3 = .bool b := by
        have : [v3] = [.bool b] := e3
        exact (List.cons.inj this).1
      have f4 : v4 = .bool c := by
        have : [v4] = [.bool c] := e4
        exact (List.cons.inj this).1
      rw [f0, f1, f2, f3, f4]

theorem open_ref {H : Type} {enc : TypeId × Value → H} {W : World} {sp : Nat → Bool} {held : Bool} {base base' : Nat} {v : Value} {d : DataW H} {p : List MemPlace} {r : Reach}
    (hv : Value.okWide Tryd.prog W r base' 25 v) (h : DataW.Trod enc Tryd.prog W base sp held 25 v d p) :
    ∃ (t : ByteArray) (k n : Int) (b c : Bool), v = rv t k n b c ∧ (Lit.int .i64 k).wf = true ∧ (Lit.int .i64 n).wf = true ∧ t.size ≤ maxLen := by
  obtain ⟨cs, rfl, hsz⟩ := okWide_struct Tryd.underlying25 hv
  obtain ⟨fuel, hf⟩ := h
  have hf' : DataW.trod enc Tryd.prog W base sp held fuel 25 cs.toList = some (d, p) := hf
  obtain ⟨t, k, n, b, c, hcs, w1, w2, w3⟩ := open_cells hf'
  refine ⟨t, k, n, b, c, ?_, w1, w2, w3⟩
  unfold rv
  congr 1
  exact Array.ext' hcs
end Go.Proofs.YtjadlkmjahcepaaDoor
