/-
  DERIVED. GIVEN WITH THE SEED: THE CARDS: each row of YtoikodohcieipaaGreatDoorRows.lean that lists a variable, with what it lists TIED to the program's text (the seventh form; the later family's looks); each row that meets fmt, with fmt's text TOLD by the authors' own Lean function (tested against real Go, not proved from fmt's source: count such statements apart). THE CARD IS WHAT COUNTS. Prove the row's statement (the work); the ties are given (YtoikodohcieipaaGreatDoorTie.lean); close each card by the builder's one call (the guide's Derived/Test/ToyasCard.lean, 'card_holds'). Laid BY PROGRAM, IN A SANDBOX (cutbox-door.mjs). By AI agents, Wed Nov 11 2026. No macro, syntax, notation, axiom, sorry.
-/
import Derived.Test.YtoikodohcieipaaGreatDoorRows
import GoSem.ClaimSeven
namespace Go.Proofs.YtoikodohcieipaaGreatDoor
namespace Rows

/-- THE TIED CARD OF 'counterpanelaw9.RewriteLines'. -/
def rewriteLinesCard : Claim7 := { stood := { row := rewriteLinesRow, standIns := [], harness := (true, "ab51dc96ab80d70c2160ec2ea58d93c011a801df53560033ed64fb8f73524e5f"), looks := false }, kinds := [], alts := [], laidByText := true, laidKinds := [.data, .data, .data, .data, .data, .pinned], laidTests := true, laidLooks := .later }
def RewriteLinesCardSaid : Prop := Claim7.holds Tryz.pinned (.plain (OpenSpec.ofChange rewriteLinesSpec)) rewriteLinesCard

/-- THE TIED CARD OF 'counterpanelaw9.RewriteSheet'. -/
def rewriteSheetCard : Claim7 := { stood := { row := rewriteSheetRow, standIns := [], harness := (true, "ab51dc96ab80d70c2160ec2ea58d93c011a801df53560033ed64fb8f73524e5f"), looks := false }, kinds := [], alts := [], laidByText := true, laidKinds := [.data, .data, .data, .data, .data, .pinned], laidTests := true, laidLooks := .later }
def RewriteSheetCardSaid : Prop := Claim7.holds Tryz.pinned (.plain (OpenSpec.ofChange rewriteSheetSpec)) rewriteSheetCard

/-- THE TIED CARD OF 'counterpanelaw9.RewriteSides'. -/
def rewriteSidesCard : Claim7 := { stood := { row := rewriteSidesRow, standIns := [], harness := (true, "ab51dc96ab80d70c2160ec2ea58d93c011a801df53560033ed64fb8f73524e5f"), looks := false }, kinds := [], alts := [], laidByText := true, laidKinds := [.data, .data, .data, .data, .data, .pinned], laidTests := true, laidLooks := .later }
def RewriteSidesCardSaid : Prop := Claim7.holds Tryz.pinned (.plain (OpenSpec.ofChange rewriteSidesSpec)) rewriteSidesCard

/-- THE TIED CARD OF 'counterpanelaw9.RewriteBack'. -/
def rewriteBackCard : Claim7 := { stood := { row := rewriteBackRow, standIns := [], harness := (true, "ab51dc96ab80d70c2160ec2ea58d93c011a801df53560033ed64fb8f73524e5f"), looks := false }, kinds := [], alts := [], laidByText := true, laidKinds := [.data, .data, .data, .data, .data, .pinned], laidTests := true, laidLooks := .later }
def RewriteBackCardSaid : Prop := Claim7.holds Tryz.pinned (.plain (OpenSpec.ofChange rewriteBackSpec)) rewriteBackCard

/-- THE TIED CARD OF 'counterpanelaw9.RewriteElsewhere'. -/
def rewriteElsewhereCard : Claim7 := { stood := { row := rewriteElsewhereRow, standIns := [], harness := (true, "ab51dc96ab80d70c2160ec2ea58d93c011a801df53560033ed64fb8f73524e5f"), looks := false }, kinds := [], alts := [], laidByText := true, laidKinds := [.data, .data, .data, .data, .data, .pinned], laidTests := true, laidLooks := .later }
def RewriteElsewhereCardSaid : Prop := Claim7.holds Tryz.pinned (.plain (OpenSpec.ofChange rewriteElsewhereSpec)) rewriteElsewhereCard

/-- THE SECOND FORM's CARD OF 'counterpanelaw9.RewriteLines'. -/
def rewriteLinesUptoCard : Claim7 := { stood := { row := rewriteLinesUptoRow, standIns := [], harness := (true, "ab51dc96ab80d70c2160ec2ea58d93c011a801df53560033ed64fb8f73524e5f"), looks := false }, kinds := [], alts := [], laidByText := true, laidKinds := [.data, .data, .data, .data, .data, .pinned], laidTests := true, laidLooks := .later }
def RewriteLinesUptoCardSaid : Prop := Claim7.holds Tryz.pinned (.plain (OpenSpec.upto rewriteLinesSpec)) rewriteLinesUptoCard

/-- THE SECOND FORM's CARD OF 'counterpanelaw9.RewriteSheet'. -/
def rewriteSheetUptoCard : Claim7 := { stood := { row := rewriteSheetUptoRow, standIns := [], harness := (true, "ab51dc96ab80d70c2160ec2ea58d93c011a801df53560033ed64fb8f73524e5f"), looks := false }, kinds := [], alts := [], laidByText := true, laidKinds := [.data, .data, .data, .data, .data, .pinned], laidTests := true, laidLooks := .later }
def RewriteSheetUptoCardSaid : Prop := Claim7.holds Tryz.pinned (.plain (OpenSpec.upto rewriteSheetSpec)) rewriteSheetUptoCard

/-- THE SECOND FORM's CARD OF 'counterpanelaw9.RewriteSides'. -/
def rewriteSidesUptoCard : Claim7 := { stood := { row := rewriteSidesUptoRow, standIns := [], harness := (true, "ab51dc96ab80d70c2160ec2ea58d93c011a801df53560033ed64fb8f73524e5f"), looks := false }, kinds := [], alts := [], laidByText := true, laidKinds := [.data, .data, .data, .data, .data, .pinned], laidTests := true, laidLooks := .later }
def RewriteSidesUptoCardSaid : Prop := Claim7.holds Tryz.pinned (.plain (OpenSpec.upto rewriteSidesSpec)) rewriteSidesUptoCard

/-- THE SECOND FORM's CARD OF 'counterpanelaw9.RewriteBack'. -/
def rewriteBackUptoCard : Claim7 := { stood := { row := rewriteBackUptoRow, standIns := [], harness := (true, "ab51dc96ab80d70c2160ec2ea58d93c011a801df53560033ed64fb8f73524e5f"), looks := false }, kinds := [], alts := [], laidByText := true, laidKinds := [.data, .data, .data, .data, .data, .pinned], laidTests := true, laidLooks := .later }
def RewriteBackUptoCardSaid : Prop := Claim7.holds Tryz.pinned (.plain (OpenSpec.upto rewriteBackSpec)) rewriteBackUptoCard

/-- THE SECOND FORM's CARD OF 'counterpanelaw9.RewriteElsewhere'. -/
def rewriteElsewhereUptoCard : Claim7 := { stood := { row := rewriteElsewhereUptoRow, standIns := [], harness := (true, "ab51dc96ab80d70c2160ec2ea58d93c011a801df53560033ed64fb8f73524e5f"), looks := false }, kinds := [], alts := [], laidByText := true, laidKinds := [.data, .data, .data, .data, .data, .pinned], laidTests := true, laidLooks := .later }
def RewriteElsewhereUptoCardSaid : Prop := Claim7.holds Tryz.pinned (.plain (OpenSpec.upto rewriteElsewhereSpec)) rewriteElsewhereUptoCard
end Rows
end Go.Proofs.YtoikodohcieipaaGreatDoor
