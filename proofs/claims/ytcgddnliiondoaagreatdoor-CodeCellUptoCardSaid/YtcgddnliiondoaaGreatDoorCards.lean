/-
  DERIVED. GIVEN WITH THE SEED: THE CARDS: each row of YtcgddnliiondoaaGreatDoorRows.lean that lists a variable, with what it lists TIED to the program's text (the seventh form; the later family's looks); each row that meets fmt, with fmt's text TOLD by the authors' own Lean function (tested against real Go, not proved from fmt's source: count such statements apart). THE CARD IS WHAT COUNTS. Prove the row's statement (the work); the ties are given (YtcgddnliiondoaaGreatDoorTie.lean); close each card by the builder's one call (the guide's Derived/Test/ToyasCard.lean, 'card_holds'). Laid BY PROGRAM, IN A SANDBOX (cutbox-door.mjs). By AI agents, Wed Nov 11 2026. No macro, syntax, notation, axiom, sorry.
-/
import Derived.Test.YtcgddnliiondoaaGreatDoorRows
import GoSem.ClaimSeven
namespace Go.Proofs.YtcgddnliiondoaaGreatDoor
namespace Rows

/-- THE TIED CARD OF 'counterpanelaw11.CodeBack'. -/
def codeBackCard : Claim7 := { stood := { row := codeBackRow, standIns := [], harness := (true, "6024c95534f59f922c820ee3abbbb771e388389f9667289a6903cf789d90e494"), looks := false }, kinds := [], alts := [], laidByText := true, laidKinds := [.data, .data, .data, .data, .data, .pinned], laidTests := true, laidLooks := .later }
def CodeBackCardSaid : Prop := Claim7.holds Tryz.pinned (.plain (OpenSpec.ofChange codeBackSpec)) codeBackCard

/-- THE TIED CARD OF 'counterpanelaw11.CodeBytes'. -/
def codeBytesCard : Claim7 := { stood := { row := codeBytesRow, standIns := [], harness := (true, "6024c95534f59f922c820ee3abbbb771e388389f9667289a6903cf789d90e494"), looks := false }, kinds := [], alts := [], laidByText := true, laidKinds := [.data, .data, .data, .data, .data, .pinned], laidTests := true, laidLooks := .later }
def CodeBytesCardSaid : Prop := Claim7.holds Tryz.pinned (.plain (OpenSpec.ofChange codeBytesSpec)) codeBytesCard

/-- THE TIED CARD OF 'counterpanelaw11.CodeApart'. -/
def codeApartCard : Claim7 := { stood := { row := codeApartRow, standIns := [], harness := (true, "6024c95534f59f922c820ee3abbbb771e388389f9667289a6903cf789d90e494"), looks := false }, kinds := [], alts := [], laidByText := true, laidKinds := [.data, .data, .data, .data, .data, .pinned], laidTests := true, laidLooks := .later }
def CodeApartCardSaid : Prop := Claim7.holds Tryz.pinned (.plain (OpenSpec.ofChange codeApartSpec)) codeApartCard

/-- THE TIED CARD OF 'counterpanelaw11.CodeCell'. -/
def codeCellCard : Claim7 := { stood := { row := codeCellRow, standIns := [], harness := (true, "6024c95534f59f922c820ee3abbbb771e388389f9667289a6903cf789d90e494"), looks := false }, kinds := [], alts := [], laidByText := true, laidKinds := [.data, .data, .data, .data, .data, .pinned], laidTests := true, laidLooks := .later }
def CodeCellCardSaid : Prop := Claim7.holds Tryz.pinned (.plain (OpenSpec.ofChange codeCellSpec)) codeCellCard

/-- THE TIED CARD OF 'counterpanelaw11.CodeMany'. -/
def codeManyCard : Claim7 := { stood := { row := codeManyRow, standIns := [], harness := (true, "6024c95534f59f922c820ee3abbbb771e388389f9667289a6903cf789d90e494"), looks := false }, kinds := [], alts := [], laidByText := true, laidKinds := [.data, .data, .data, .data, .data, .pinned], laidTests := true, laidLooks := .later }
def CodeManyCardSaid : Prop := Claim7.holds Tryz.pinned (.plain (OpenSpec.ofChange codeManySpec)) codeManyCard

/-- THE SECOND FORM's CARD OF 'counterpanelaw11.CodeBack'. -/
def codeBackUptoCard : Claim7 := { stood := { row := codeBackUptoRow, standIns := [], harness := (true, "6024c95534f59f922c820ee3abbbb771e388389f9667289a6903cf789d90e494"), looks := false }, kinds := [], alts := [], laidByText := true, laidKinds := [.data, .data, .data, .data, .data, .pinned], laidTests := true, laidLooks := .later }
def CodeBackUptoCardSaid : Prop := Claim7.holds Tryz.pinned (.plain (OpenSpec.upto codeBackSpec)) codeBackUptoCard

/-- THE SECOND FORM's CARD OF 'counterpanelaw11.CodeBytes'. -/
def codeBytesUptoCard : Claim7 := { stood := { row := codeBytesUptoRow, standIns := [], harness := (true, "6024c95534f59f922c820ee3abbbb771e388389f9667289a6903cf789d90e494"), looks := false }, kinds := [], alts := [], laidByText := true, laidKinds := [.data, .data, .data, .data, .data, .pinned], laidTests := true, laidLooks := .later }
def CodeBytesUptoCardSaid : Prop := Claim7.holds Tryz.pinned (.plain (OpenSpec.upto codeBytesSpec)) codeBytesUptoCard

/-- THE SECOND FORM's CARD OF 'counterpanelaw11.CodeApart'. -/
def codeApartUptoCard : Claim7 := { stood := { row := codeApartUptoRow, standIns := [], harness := (true, "6024c95534f59f922c820ee3abbbb771e388389f9667289a6903cf789d90e494"), looks := false }, kinds := [], alts := [], laidByText := true, laidKinds := [.data, .data, .data, .data, .data, .pinned], laidTests := true, laidLooks := .later }
def CodeApartUptoCardSaid : Prop := Claim7.holds Tryz.pinned (.plain (OpenSpec.upto codeApartSpec)) codeApartUptoCard

/-- THE SECOND FORM's CARD OF 'counterpanelaw11.CodeCell'. -/
def codeCellUptoCard : Claim7 := { stood := { row := codeCellUptoRow, standIns := [], harness := (true, "6024c95534f59f922c820ee3abbbb771e388389f9667289a6903cf789d90e494"), looks := false }, kinds := [], alts := [], laidByText := true, laidKinds := [.data, .data, .data, .data, .data, .pinned], laidTests := true, laidLooks := .later }
def CodeCellUptoCardSaid : Prop := Claim7.holds Tryz.pinned (.plain (OpenSpec.upto codeCellSpec)) codeCellUptoCard

/-- THE SECOND FORM's CARD OF 'counterpanelaw11.CodeMany'. -/
def codeManyUptoCard : Claim7 := { stood := { row := codeManyUptoRow, standIns := [], harness := (true, "6024c95534f59f922c820ee3abbbb771e388389f9667289a6903cf789d90e494"), looks := false }, kinds := [], alts := [], laidByText := true, laidKinds := [.data, .data, .data, .data, .data, .pinned], laidTests := true, laidLooks := .later }
def CodeManyUptoCardSaid : Prop := Claim7.holds Tryz.pinned (.plain (OpenSpec.upto codeManySpec)) codeManyUptoCard
end Rows
end Go.Proofs.YtcgddnliiondoaaGreatDoor
