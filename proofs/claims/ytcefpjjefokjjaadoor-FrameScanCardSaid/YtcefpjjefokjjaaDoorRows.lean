/-
  NARROWER THAN 'FOR EVERY INPUT', by the rows' own cells (each row's printed sentence says how): FrameScan: laid · FramePrefix: laid · FrameBig: laid.
  DERIVED. THE GIVEN ROWS OF THIS SEAT. 3 by the template 'for every input the law returns true; each argument reads behind the call as it read before'; 0 by the template 'total and deterministic' (their statements: YtcefpjjefokjjaaDoorTotals.lean).
  GIVEN WITH THE SEED: the statements are not yours to turn. If you find one false, say at which input.
  Laid BY PROGRAM, IN A SANDBOX (cutbox-rows.mjs): the forced cells as the released guide's own fill.sh prints them over the translation 40ffd8dd411a7760… (all of the seat's roots in one cut). By AI agents, Wed Nov 11 2026. No macro, syntax, notation, axiom, sorry.
-/
import Derived.Test.YtcefpjjefokjjaaDoorChecked
import GoSem.Claim
import GoSem.ClaimJoined
import GoSem.ClaimMapViews
import Derived.JoinedTies
import Derived.KernelRfl
namespace Go.Proofs.YtcefpjjefokjjaaDoor
/- THE CELL 'sum', in the pinned program and in every row, IS THE sha256 OF THE DUMP (.gsa) THAT YtcefpjjefokjjaaDoorProg.lean LOADS. Nothing in Lean hashes anything: it is a label: what it is worth is what the hold of that sum in a sandbox is worth. -/
noncomputable def Tryd.pinned : Pinned := { name := "ytcefpjjefokjjaadoor", sum := "40ffd8dd411a7760337427a324165c787530a20eaae6a4aa5a1f830a5f3a9abe", checked := Tryd.checked }
namespace Rows
def none {H : Type} : Left H := { results := [], args := [] }

/- WHAT THE LISTED PACKAGE-LEVEL VARIABLES READ AS WHEN THE CALL BEGINS. Each datum BY PROGRAM (the guide's laid-datum.mjs) off the statement by which the dump's own 'gosem.cut.vars' lays the variable. In a bare row this is a premise. The card (YtcefpjjefokjjaaDoorCards.lean) ties it to the program's text. -/
def laid_counterpane_frame_remainders {H : Type} : DataW H := .agg [.lit (.int .u32 0), .lit (.int .u32 498536548), .lit (.int .u32 997073096), .lit (.int .u32 651767980), .lit (.int .u32 1994146192), .lit (.int .u32 1802195444), .lit (.int .u32 1303535960), .lit (.int .u32 1342533948), .lit (.int .u32 3988292384), .lit (.int .u32 4027552580), .lit (.int .u32 3604390888), .lit (.int .u32 3412177804), .lit (.int .u32 2607071920), .lit (.int .u32 2262029012), .lit (.int .u32 2685067896), .lit (.int .u32 3183342108)]

/-- 'counterpanelaw19.FrameScan': WHATEVER THE INPUT: true; the input reads as it did. -/
def frameScanSpec : ChangeSpec := { name := "frameScan", fn := fun _ => fun
  | [d1, d2, d3, d4] => { results := [.lit (.bool true)], args := [d1, d2, d3, d4] }
  | _ => none }
def frameScanRow : OpenClaim := { program := "ytcefpjjefokjjaadoor", sum := "40ffd8dd411a7760337427a324165c787530a20eaae6a4aa5a1f830a5f3a9abe", func := "counterpane/counterpanelaw19.FrameScan", spec := "frameScan", named := ["counterpane/frame.remainders"], apart := false, laid := [("counterpane/frame.remainders", laid_counterpane_frame_remainders)] }
def FrameScanSaid : Prop := frameScanRow.holds Tryd.pinned (OpenSpec.ofChange frameScanSpec)

/-- ITS FALSE NEIGHBOUR: 'it returns false'. Refute it at one input. -/
def frameScanWrong : ChangeSpec := { name := "frameScan", fn := fun _ => fun
  | [d1, d2, d3, d4] => { results := [.lit (.bool false)], args := [d1, d2, d3, d4] }
  | _ => none }
def FrameScanWrongFalsely : Prop := frameScanRow.holds Tryd.pinned (OpenSpec.ofChange frameScanWrong)

/-- 'counterpanelaw19.FramePrefix': WHATEVER THE INPUT: true; the input reads as it did. -/
def framePrefixSpec : ChangeSpec := { name := "framePrefix", fn := fun _ => fun
  | [d1, d2] => { results := [.lit (.bool true)], args := [d1, d2] }
  | _ => none }
def framePrefixRow : OpenClaim := { program := "ytcefpjjefokjjaadoor", sum := "40ffd8dd411a7760337427a324165c787530a20eaae6a4aa5a1f830a5f3a9abe", func := "counterpane/counterpanelaw19.FramePrefix", spec := "framePrefix", named := ["counterpane/frame.remainders"], apart := false, laid := [("counterpane/frame.remainders", laid_counterpane_frame_remainders)] }
def FramePrefixSaid : Prop := framePrefixRow.holds Tryd.pinned (OpenSpec.ofChange framePrefixSpec)

/-- ITS FALSE NEIGHBOUR: 'it returns false'. Refute it at one input. -/
def framePrefixWrong : ChangeSpec := { name := "framePrefix", fn := fun _ => fun
  | [d1, d2] => { results := [.lit (.bool false)], args := [d1, d2] }
  | _ => none }
def FramePrefixWrongFalsely : Prop := framePrefixRow.holds Tryd.pinned (OpenSpec.ofChange framePrefixWrong)

/-- 'counterpanelaw19.FrameBig': WHATEVER THE INPUT: true; the input reads as it did. -/
def frameBigSpec : ChangeSpec := { name := "frameBig", fn := fun _ => fun
  | [] => { results := [.lit (.bool true)], args := [] }
  | _ => none }
def frameBigRow : OpenClaim := { program := "ytcefpjjefokjjaadoor", sum := "40ffd8dd411a7760337427a324165c787530a20eaae6a4aa5a1f830a5f3a9abe", func := "counterpane/counterpanelaw19.FrameBig", spec := "frameBig", named := ["counterpane/frame.remainders"], apart := false, laid := [("counterpane/frame.remainders", laid_counterpane_frame_remainders)] }
def FrameBigSaid : Prop := frameBigRow.holds Tryd.pinned (OpenSpec.ofChange frameBigSpec)

/-- ITS FALSE NEIGHBOUR: 'it returns false'. Refute it at one input. -/
def frameBigWrong : ChangeSpec := { name := "frameBig", fn := fun _ => fun
  | [] => { results := [.lit (.bool false)], args := [] }
  | _ => none }
def FrameBigWrongFalsely : Prop := frameBigRow.holds Tryd.pinned (OpenSpec.ofChange frameBigWrong)

/- THE SECOND FORM. 'bulk': how many values and letters a reading holds, each counted each time it is reached (what is shared counts as often as it is met; a slice's spare places count too). A statement '..UptoSaid' is the law's where the arguments, and the package variables that the reading takes, are together of bulk at most 1048576: NARROWER than '..Said'. Prove '..Said' where nothing that the law and all that it calls make is longer than what came in: it says more and counts as full. Else prove '..UptoSaid'. A law counts once. -/
mutual
def uptoBulk {H : Type} : DataW H → Nat
  | .lit (.string bytes) => bytes.length + 1
  | .lit _ => 1
  | .nil => 1
  | .ptr d => uptoBulk d + 1
  | .slice elems spare => uptoBulkAll elems + uptoBulkAll spare + 1
  | .agg parts => uptoBulkAll parts + 1
  | .iface _ d => uptoBulk d + 1
  | .map entries => uptoBulkEntries entries + 1
  | .held _ => 1
def uptoBulkAll {H : Type} : List (DataW H) → Nat
  | [] => 0
  | d :: r => uptoBulk d + uptoBulkAll r
def uptoBulkEntries {H : Type} : List (Lit × DataW H) → Nat
  | [] => 0
  | x :: r => uptoBulkEntry x + uptoBulkEntries r
def uptoBulkEntry {H : Type} : Lit × DataW H → Nat
  | (.string bytes, d) => bytes.length + uptoBulk d + 1
  | (_, d) => uptoBulk d + 1
 end
def uptoSmall : (H : Type) → List (DataW H) → Bool := fun _ ds => decide (uptoBulkAll ds ≤ 1048576)
def OpenSpec.upto (s : _root_.Go.ChangeSpec) : _root_.Go.OpenSpec := { _root_.Go.OpenSpec.ofChange s with cond := some uptoSmall }

/-- 'counterpanelaw19.FrameScan', WHERE WHAT IT READS IS OF BULK AT MOST 1048576: true; the input reads as it did. -/
def frameScanUptoRow : OpenClaim := { program := "ytcefpjjefokjjaadoor", sum := "40ffd8dd411a7760337427a324165c787530a20eaae6a4aa5a1f830a5f3a9abe", func := "counterpane/counterpanelaw19.FrameScan", spec := "frameScan", named := ["counterpane/frame.remainders"], apart := false, laid := [("counterpane/frame.remainders", laid_counterpane_frame_remainders)], narrowed := true }
def FrameScanUptoSaid : Prop := frameScanUptoRow.holds Tryd.pinned (OpenSpec.upto frameScanSpec)

/-- 'counterpanelaw19.FramePrefix', WHERE WHAT IT READS IS OF BULK AT MOST 1048576: true; the input reads as it did. -/
def framePrefixUptoRow : OpenClaim := { program := "ytcefpjjefokjjaadoor", sum := "40ffd8dd411a7760337427a324165c787530a20eaae6a4aa5a1f830a5f3a9abe", func := "counterpane/counterpanelaw19.FramePrefix", spec := "framePrefix", named := ["counterpane/frame.remainders"], apart := false, laid := [("counterpane/frame.remainders", laid_counterpane_frame_remainders)], narrowed := true }
def FramePrefixUptoSaid : Prop := framePrefixUptoRow.holds Tryd.pinned (OpenSpec.upto framePrefixSpec)

/-- 'counterpanelaw19.FrameBig', WHERE WHAT IT READS IS OF BULK AT MOST 1048576: true; the input reads as it did. -/
def frameBigUptoRow : OpenClaim := { program := "ytcefpjjefokjjaadoor", sum := "40ffd8dd411a7760337427a324165c787530a20eaae6a4aa5a1f830a5f3a9abe", func := "counterpane/counterpanelaw19.FrameBig", spec := "frameBig", named := ["counterpane/frame.remainders"], apart := false, laid := [("counterpane/frame.remainders", laid_counterpane_frame_remainders)], narrowed := true }
def FrameBigUptoSaid : Prop := frameBigUptoRow.holds Tryd.pinned (OpenSpec.upto frameBigSpec)

end Rows
end Go.Proofs.YtcefpjjefokjjaaDoor
