/-
  DERIVED. GIVEN WITH THE SEED: THE CARDS: each row of YtcefpjjefokjjaaDoorRows.lean that lists a variable, with what it lists TIED to the program's text (the seventh form; the later family's looks); each row that meets fmt, with fmt's text TOLD by the authors' own Lean function (tested against real Go, not proved from fmt's source: count such statements apart). THE CARD IS WHAT COUNTS. Prove the row's statement (the work); the ties are given (YtcefpjjefokjjaaDoorTie.lean); close each card by the builder's one call (the guide's Derived/Test/ToyasCard.lean, 'card_holds'). Laid BY PROGRAM, IN A SANDBOX (cutbox-door.mjs). By AI agents, Wed Nov 11 2026. No macro, syntax, notation, axiom, sorry.
-/
import Derived.Test.YtcefpjjefokjjaaDoorRows
import GoSem.ClaimSeven
namespace Go.Proofs.YtcefpjjefokjjaaDoor
namespace Rows

/-- THE TIED CARD OF 'counterpanelaw19.FrameScan'. -/
def frameScanCard : Claim7 := { stood := { row := frameScanRow, standIns := [], harness := (true, "200a7df76cc8f3ef228c22d402d473051d6564ac8641c1df9f72146edf011555"), looks := false }, kinds := [], alts := [], laidByText := true, laidKinds := [.data], laidTests := true, laidLooks := .later }
def FrameScanCardSaid : Prop := Claim7.holds Tryd.pinned (.plain (OpenSpec.ofChange frameScanSpec)) frameScanCard

/-- THE TIED CARD OF 'counterpanelaw19.FramePrefix'. -/
def framePrefixCard : Claim7 := { stood := { row := framePrefixRow, standIns := [], harness := (true, "200a7df76cc8f3ef228c22d402d473051d6564ac8641c1df9f72146edf011555"), looks := false }, kinds := [], alts := [], laidByText := true, laidKinds := [.data], laidTests := true, laidLooks := .later }
def FramePrefixCardSaid : Prop := Claim7.holds Tryd.pinned (.plain (OpenSpec.ofChange framePrefixSpec)) framePrefixCard

/-- THE TIED CARD OF 'counterpanelaw19.FrameBig'. -/
def frameBigCard : Claim7 := { stood := { row := frameBigRow, standIns := [], harness := (true, "200a7df76cc8f3ef228c22d402d473051d6564ac8641c1df9f72146edf011555"), looks := false }, kinds := [], alts := [], laidByText := true, laidKinds := [.data], laidTests := true, laidLooks := .later }
def FrameBigCardSaid : Prop := Claim7.holds Tryd.pinned (.plain (OpenSpec.ofChange frameBigSpec)) frameBigCard

/-- THE SECOND FORM's CARD OF 'counterpanelaw19.FrameScan'. -/
def frameScanUptoCard : Claim7 := { stood := { row := frameScanUptoRow, standIns := [], harness := (true, "200a7df76cc8f3ef228c22d402d473051d6564ac8641c1df9f72146edf011555"), looks := false }, kinds := [], alts := [], laidByText := true, laidKinds := [.data], laidTests := true, laidLooks := .later }
def FrameScanUptoCardSaid : Prop := Claim7.holds Tryd.pinned (.plain (OpenSpec.upto frameScanSpec)) frameScanUptoCard

/-- THE SECOND FORM's CARD OF 'counterpanelaw19.FramePrefix'. -/
def framePrefixUptoCard : Claim7 := { stood := { row := framePrefixUptoRow, standIns := [], harness := (true, "200a7df76cc8f3ef228c22d402d473051d6564ac8641c1df9f72146edf011555"), looks := false }, kinds := [], alts := [], laidByText := true, laidKinds := [.data], laidTests := true, laidLooks := .later }
def FramePrefixUptoCardSaid : Prop := Claim7.holds Tryd.pinned (.plain (OpenSpec.upto framePrefixSpec)) framePrefixUptoCard

/-- THE SECOND FORM's CARD OF 'counterpanelaw19.FrameBig'. -/
def frameBigUptoCard : Claim7 := { stood := { row := frameBigUptoRow, standIns := [], harness := (true, "200a7df76cc8f3ef228c22d402d473051d6564ac8641c1df9f72146edf011555"), looks := false }, kinds := [], alts := [], laidByText := true, laidKinds := [.data], laidTests := true, laidLooks := .later }
def FrameBigUptoCardSaid : Prop := Claim7.holds Tryd.pinned (.plain (OpenSpec.upto frameBigSpec)) frameBigUptoCard
end Rows
end Go.Proofs.YtcefpjjefokjjaaDoor
