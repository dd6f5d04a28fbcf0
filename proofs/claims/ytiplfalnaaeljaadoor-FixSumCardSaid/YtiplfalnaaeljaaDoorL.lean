/- What the rows' lists of variables give to the walks; and a world in which the listed tables lie. -/
import Derived.Test.YtiplfalnaaeljaaDoorB
import Derived.Test.YtiplfalnaaeljaaDoorCards
import Derived.Test.YtiplfalnaaeljaaDoorTie
import Derived.ProofKit
import Derived.OpenShut
import Derived.Deep.DeepHandedRow
import Derived.Lib.LaidTab
import Derived.Stop.LaidErr
namespace Go.Proofs.YtiplfalnaaeljaaDoor
open Go.ChangeShapes Go.WideShapes Go.ChangeAt Go.RowKit
set_option maxRecDepth 100000

theorem own : ownKnob Tryd.prog.godebug = none := by kernel_rfl
theorem cells86 : Tryd.prog.cellsOf 86 = 20 := by kernel_rfl
theorem cells38 : Tryd.prog.cellsOf 38 = 1 := by kernel_rfl
theorem tabType : (Tryd.prog.globals[3]?).map (·.type) = some 86 := by kernel_rfl
theorem laid_plain : (Rows.fixRingRow.laid.all fun x => x.2.handleName?.isNone) = true := by kernel_rfl
theorem laid_pow : Rows.laid_internal_strconv_uint64pow10 = Lib.tabData (H := Unit) .u64 Lib.pow10Tab := by kernel_rfl

theorem std_of {W : World} (hL : laidMetH Tryd.prog Rows.fixRingRow.laid W) (hsh : W.ShapedOpen Tryd.prog) : Std W := by
  have h1 : laidMet Tryd.prog Rows.fixRingRow.laid W := by
    rw [MakeChecks.laidMetH_plain _ _ _ laid_plain] at hL
    exact hL
  have h2 := h1.tail.tail
  rw [laid_pow] at h2
  have hT := Lib.tabIs_of_head glob_tab tabType Tryd.underlying86 Tryd.underlying38 cells38 cells86 h2
  obtain ⟨m, hm⟩ := Tryd.laysM145.s1_3 W hsh
  refine ⟨hT, ⟨m, hm⟩, ?_⟩
  rcases Nat.lt_or_ge 2 W.heap.size with h | h
  · exact h
  · exfalso
    have hm' : W.cell? ⟨2, 0, none⟩ = some (.int .i64 m) := hm
    unfold World.cell? at hm'
    rw [Array.getElem?_eq_none (by exact h)] at hm'
    simp at hm'

/-- the numbers of a listed table, in their order -/
def lit1 : DataW Unit → List Value
  | .lit (.int k n) => [.int k n]
  | _ => []
def lit2 : DataW Unit → List Value
  | .agg l => l.flatMap lit1
  | d => lit1 d
def lit3 : DataW Unit → List Value
  | .agg l => l.flatMap lit2
  | d => lit2 d
def put (d : DataW Unit) : Obj → Obj
  | .cells _ t frozen => .cells (lit3 d).toArray t frozen
  | o => o
/-- the world with the listed tables laid -/
def lay (w : World) : World :=
  { w with heap := ((((w.heap.modify 3 (put Rows.laid_internal_strconv_uint64pow10)).modify 4 (put Rows.laid_math_bits_deBruijn32tab)).modify 5 (put Rows.laid_math_bits_deBruijn64tab)).modify 6 (put Rows.laid_unicode_utf8_first)).modify 7 (put Rows.laid_unicode_utf8_acceptRanges) }

theorem laid_met (os : Os) (args : Array Value) : laidMetH Tryd.prog Rows.fixRingRow.laid ((lay (World.holding Tryd.prog os ⟨#[], #[], []⟩)).forCall (fun _ _ => 0) ⟨#[], args, []⟩).memory := by
  rw [MakeChecks.laidMetH_plain _ _ _ laid_plain]
  exact laidMet_of_run' 8 (by kernel_rfl) (by kernel_rfl)

end Go.Proofs.YtiplfalnaaeljaaDoor
