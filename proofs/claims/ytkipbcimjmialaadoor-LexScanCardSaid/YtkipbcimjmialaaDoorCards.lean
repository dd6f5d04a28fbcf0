/-
  DERIVED. GIVEN WITH THE SEED: THE CARDS: each row of YtkipbcimjmialaaDoorRows.lean that lists a variable, with what it lists TIED to the program's text (the seventh form; the later family's looks); each row that meets fmt, with fmt's text TOLD by the authors' own Lean function (tested against real Go, not proved from fmt's source: count such statements apart). THE CARD IS WHAT COUNTS. Prove the row's statement (the work); the ties are given (YtkipbcimjmialaaDoorTie.lean); close each card by the builder's one call (the guide's Derived/Test/ToyasCard.lean, 'card_holds'). Laid BY PROGRAM, IN A SANDBOX (cutbox-door.mjs). By AI agents, Wed Nov 11 2026. No macro, syntax, notation, axiom, sorry.
-/
import Derived.Test.YtkipbcimjmialaaDoorRows
import GoSem.ClaimSeven
namespace Go.Proofs.YtkipbcimjmialaaDoor
namespace Rows

/-- THE TIED CARD OF 'counterpanelaw6.LexScan'. -/
def lexScanCard : Claim7 := { stood := { row := lexScanRow, standIns := [], harness := (true, "036f5038fb69bc5bfea8a63ebb24018ad6b493056ab54e15ad4c7f6cfebc1b9a"), looks := false }, kinds := [], alts := [], laidByText := true, laidKinds := [.data, .data, .data, .pinned], laidTests := true, laidLooks := .later }
def LexScanCardSaid : Prop := Claim7.holds Tryd.pinned (.plain (OpenSpec.ofChange lexScanSpec)) lexScanCard

/-- THE TIED CARD OF 'counterpanelaw6.LexBlanks'. -/
def lexBlanksCard : Claim7 := { stood := { row := lexBlanksRow, standIns := [], harness := (true, "036f5038fb69bc5bfea8a63ebb24018ad6b493056ab54e15ad4c7f6cfebc1b9a"), looks := false }, kinds := [], alts := [], laidByText := true, laidKinds := [.data, .data, .data, .pinned], laidTests := true, laidLooks := .later }
def LexBlanksCardSaid : Prop := Claim7.holds Tryd.pinned (.plain (OpenSpec.ofChange lexBlanksSpec)) lexBlanksCard

/-- THE SECOND FORM's CARD OF 'counterpanelaw6.LexScan'. -/
def lexScanUptoCard : Claim7 := { stood := { row := lexScanUptoRow, standIns := [], harness := (true, "036f5038fb69bc5bfea8a63ebb24018ad6b493056ab54e15ad4c7f6cfebc1b9a"), looks := false }, kinds := [], alts := [], laidByText := true, laidKinds := [.data, .data, .data, .pinned], laidTests := true, laidLooks := .later }
def LexScanUptoCardSaid : Prop := Claim7.holds Tryd.pinned (.plain (OpenSpec.upto lexScanSpec)) lexScanUptoCard

/-- THE SECOND FORM's CARD OF 'counterpanelaw6.LexBlanks'. -/
def lexBlanksUptoCard : Claim7 := { stood := { row := lexBlanksUptoRow, standIns := [], harness := (true, "036f5038fb69bc5bfea8a63ebb24018ad6b493056ab54e15ad4c7f6cfebc1b9a"), looks := false }, kinds := [], alts := [], laidByText := true, laidKinds := [.data, .data, .data, .pinned], laidTests := true, laidLooks := .later }
def LexBlanksUptoCardSaid : Prop := Claim7.holds Tryd.pinned (.plain (OpenSpec.upto lexBlanksSpec)) lexBlanksUptoCard
end Rows
end Go.Proofs.YtkipbcimjmialaaDoor
