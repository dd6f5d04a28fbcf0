/-
  DERIVED. GIVEN WITH THE SEED: THE CARDS: each row of YtjadlkmjahcepaaDoorRows.lean that lists a variable, with what it lists TIED to the program's text (the seventh form; the later family's looks); each row that meets fmt, with fmt's text TOLD by the authors' own Lean function (tested against real Go, not proved from fmt's source: count such statements apart). THE CARD IS WHAT COUNTS. Prove the row's statement (the work); the ties are given (YtjadlkmjahcepaaDoorTie.lean); close each card by the builder's one call (the guide's Derived/Test/ToyasCard.lean, 'card_holds'). Laid BY PROGRAM, IN A SANDBOX (cutbox-door.mjs). By AI agents, Wed Nov 11 2026. No macro, syntax, notation, axiom, sorry.
-/
import Derived.Test.YtjadlkmjahcepaaDoorRows
import GoSem.ClaimSeven
namespace Go.Proofs.YtjadlkmjahcepaaDoor
namespace Rows

/-- THE TIED CARD OF 'counterpanelaw5.RefParse'. -/
def refParseCard : Claim7 := { stood := { row := refParseRow, standIns := [], harness := (true, "c54f51b3dfe3f02aa9b3ee58b9cef8cc69a993871bbd4bce316cfa25a204dcfc"), looks := false }, kinds := [], alts := [], laidByText := true, laidKinds := [.data, .data, .data], laidTests := true, laidLooks := .later }
def RefParseCardSaid : Prop := Claim7.holds Tryd.pinned (.plain (OpenSpec.ofChange refParseSpec)) refParseCard

/-- THE TIED CARD OF 'counterpanelaw5.RefPrint'. -/
def refPrintCard : Claim7 := { stood := { row := refPrintRow, standIns := [], harness := (true, "c54f51b3dfe3f02aa9b3ee58b9cef8cc69a993871bbd4bce316cfa25a204dcfc"), looks := false }, kinds := [], alts := [], laidByText := true, laidKinds := [.data, .data, .data], laidTests := true, laidLooks := .later }
def RefPrintCardSaid : Prop := Claim7.holds Tryd.pinned (.plain (OpenSpec.ofChange refPrintSpec)) refPrintCard

/-- THE TIED CARD OF 'counterpanelaw5.RefColumns'. -/
def refColumnsCard : Claim7 := { stood := { row := refColumnsRow, standIns := [], harness := (true, "c54f51b3dfe3f02aa9b3ee58b9cef8cc69a993871bbd4bce316cfa25a204dcfc"), looks := false }, kinds := [], alts := [], laidByText := true, laidKinds := [.data, .data, .data], laidTests := true, laidLooks := .later }
def RefColumnsCardSaid : Prop := Claim7.holds Tryd.pinned (.plain (OpenSpec.ofChange refColumnsSpec)) refColumnsCard

/-- THE SECOND FORM's CARD OF 'counterpanelaw5.RefParse'. -/
def refParseUptoCard : Claim7 := { stood := { row := refParseUptoRow, standIns := [], harness := (true, "c54f51b3dfe3f02aa9b3ee58b9cef8cc69a993871bbd4bce316cfa25a204dcfc"), looks := false }, kinds := [], alts := [], laidByText := true, laidKinds := [.data, .data, .data], laidTests := true, laidLooks := .later }
def RefParseUptoCardSaid : Prop := Claim7.holds Tryd.pinned (.plain (OpenSpec.upto refParseSpec)) refParseUptoCard

/-- THE SECOND FORM's CARD OF 'counterpanelaw5.RefPrint'. -/
def refPrintUptoCard : Claim7 := { stood := { row := refPrintUptoRow, standIns := [], harness := (true, "c54f51b3dfe3f02aa9b3ee58b9cef8cc69a993871bbd4bce316cfa25a204dcfc"), looks := false }, kinds := [], alts := [], laidByText := true, laidKinds := [.data, .data, .data], laidTests := true, laidLooks := .later }
def RefPrintUptoCardSaid : Prop := Claim7.holds Tryd.pinned (.plain (OpenSpec.upto refPrintSpec)) refPrintUptoCard

/-- THE SECOND FORM's CARD OF 'counterpanelaw5.RefColumns'. -/
def refColumnsUptoCard : Claim7 := { stood := { row := refColumnsUptoRow, standIns := [], harness := (true, "c54f51b3dfe3f02aa9b3ee58b9cef8cc69a993871bbd4bce316cfa25a204dcfc"), looks := false }, kinds := [], alts := [], laidByText := true, laidKinds := [.data, .data, .data], laidTests := true, laidLooks := .later }
def RefColumnsUptoCardSaid : Prop := Claim7.holds Tryd.pinned (.plain (OpenSpec.upto refColumnsSpec)) refColumnsUptoCard
end Rows
end Go.Proofs.YtjadlkmjahcepaaDoor
