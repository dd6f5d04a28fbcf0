/-
  DERIVED. GIVEN WITH THE SEED: THE CARDS: each row of YtgheopdadfnilaaGreatDoorRows.lean that lists a variable, with what it lists TIED to the program's text (the seventh form; the later family's looks); each row that meets fmt, with fmt's text TOLD by the authors' own Lean function (tested against real Go, not proved from fmt's source: count such statements apart). THE CARD IS WHAT COUNTS. Prove the row's statement (the work); the ties are given (YtgheopdadfnilaaGreatDoorTie.lean); close each card by the builder's one call (the guide's Derived/Test/ToyasCard.lean, 'card_holds'). Laid BY PROGRAM, IN A SANDBOX (cutbox-door.mjs). By AI agents, Wed Nov 11 2026. No macro, syntax, notation, axiom, sorry.
-/
import Derived.Test.YtgheopdadfnilaaGreatDoorRows
import GoSem.ClaimSeven
namespace Go.Proofs.YtgheopdadfnilaaGreatDoor
namespace Rows

/-- THE TIED CARD OF 'counterpanelaw8.ShowFormula'. -/
def showFormulaCard : Claim7 := { stood := { row := showFormulaRow, standIns := [], harness := (true, "912f6d7808e29d24daca2d96fb5700b13be2930e76d7c9944e9bf999af0e84fe"), looks := false }, kinds := [], alts := [], laidByText := true, laidKinds := [.data, .data, .data, .data, .data, .data, .pinned], laidTests := true, laidLooks := .later }
def ShowFormulaCardSaid : Prop := Claim7.holds Tryz.pinned (.plain (OpenSpec.ofChange showFormulaSpec)) showFormulaCard

/-- THE TIED CARD OF 'counterpanelaw8.ShowRead'. -/
def showReadCard : Claim7 := { stood := { row := showReadRow, standIns := [], harness := (true, "912f6d7808e29d24daca2d96fb5700b13be2930e76d7c9944e9bf999af0e84fe"), looks := false }, kinds := [], alts := [], laidByText := true, laidKinds := [.data, .data, .data, .data, .data, .data, .pinned], laidTests := true, laidLooks := .later }
def ShowReadCardSaid : Prop := Claim7.holds Tryz.pinned (.plain (OpenSpec.ofChange showReadSpec)) showReadCard

/-- THE TIED CARD OF 'counterpanelaw8.ShowCell'. -/
def showCellCard : Claim7 := { stood := { row := showCellRow, standIns := [], harness := (true, "912f6d7808e29d24daca2d96fb5700b13be2930e76d7c9944e9bf999af0e84fe"), looks := false }, kinds := [], alts := [], laidByText := true, laidKinds := [.data, .data, .data, .data, .data, .data, .pinned], laidTests := true, laidLooks := .later }
def ShowCellCardSaid : Prop := Claim7.holds Tryz.pinned (.plain (OpenSpec.ofChange showCellSpec)) showCellCard

/-- THE TIED CARD OF 'counterpanelaw8.ShowTexts'. -/
def showTextsCard : Claim7 := { stood := { row := showTextsRow, standIns := [], harness := (true, "912f6d7808e29d24daca2d96fb5700b13be2930e76d7c9944e9bf999af0e84fe"), looks := false }, kinds := [], alts := [], laidByText := true, laidKinds := [.data, .data, .data, .data, .data, .data, .pinned], laidTests := true, laidLooks := .later }
def ShowTextsCardSaid : Prop := Claim7.holds Tryz.pinned (.plain (OpenSpec.ofChange showTextsSpec)) showTextsCard

/-- THE TIED CARD OF 'counterpanelaw8.ShowBack'. -/
def showBackCard : Claim7 := { stood := { row := showBackRow, standIns := [], harness := (true, "912f6d7808e29d24daca2d96fb5700b13be2930e76d7c9944e9bf999af0e84fe"), looks := false }, kinds := [], alts := [], laidByText := true, laidKinds := [.data, .data, .data, .data, .data, .data, .pinned], laidTests := true, laidLooks := .later }
def ShowBackCardSaid : Prop := Claim7.holds Tryz.pinned (.plain (OpenSpec.ofChange showBackSpec)) showBackCard

/-- THE SECOND FORM's CARD OF 'counterpanelaw8.ShowFormula'. -/
def showFormulaUptoCard : Claim7 := { stood := { row := showFormulaUptoRow, standIns := [], harness := (true, "912f6d7808e29d24daca2d96fb5700b13be2930e76d7c9944e9bf999af0e84fe"), looks := false }, kinds := [], alts := [], laidByText := true, laidKinds := [.data, .data, .data, .data, .data, .data, .pinned], laidTests := true, laidLooks := .later }
def ShowFormulaUptoCardSaid : Prop := Claim7.holds Tryz.pinned (.plain (OpenSpec.upto showFormulaSpec)) showFormulaUptoCard

/-- THE SECOND FORM's CARD OF 'counterpanelaw8.ShowRead'. -/
def showReadUptoCard : Claim7 := { stood := { row := showReadUptoRow, standIns := [], harness := (true, "912f6d7808e29d24daca2d96fb5700b13be2930e76d7c9944e9bf999af0e84fe"), looks := false }, kinds := [], alts := [], laidByText := true, laidKinds := [.data, .data, .data, .data, .data, .data, .pinned], laidTests := true, laidLooks := .later }
def ShowReadUptoCardSaid : Prop := Claim7.holds Tryz.pinned (.plain (OpenSpec.upto showReadSpec)) showReadUptoCard

/-- THE SECOND FORM's CARD OF 'counterpanelaw8.ShowCell'. -/
def showCellUptoCard : Claim7 := { stood := { row := showCellUptoRow, standIns := [], harness := (true, "912f6d7808e29d24daca2d96fb5700b13be2930e76d7c9944e9bf999af0e84fe"), looks := false }, kinds := [], alts := [], laidByText := true, laidKinds := [.data, .data, .data, .data, .data, .data, .pinned], laidTests := true, laidLooks := .later }
def ShowCellUptoCardSaid : Prop := Claim7.holds Tryz.pinned (.plain (OpenSpec.upto showCellSpec)) showCellUptoCard

/-- THE SECOND FORM's CARD OF 'counterpanelaw8.ShowTexts'. -/
def showTextsUptoCard : Claim7 := { stood := { row := showTextsUptoRow, standIns := [], harness := (true, "912f6d7808e29d24daca2d96fb5700b13be2930e76d7c9944e9bf999af0e84fe"), looks := false }, kinds := [], alts := [], laidByText := true, laidKinds := [.data, .data, .data, .data, .data, .data, .pinned], laidTests := true, laidLooks := .later }
def ShowTextsUptoCardSaid : Prop := Claim7.holds Tryz.pinned (.plain (OpenSpec.upto showTextsSpec)) showTextsUptoCard

/-- THE SECOND FORM's CARD OF 'counterpanelaw8.ShowBack'. -/
def showBackUptoCard : Claim7 := { stood := { row := showBackUptoRow, standIns := [], harness := (true, "912f6d7808e29d24daca2d96fb5700b13be2930e76d7c9944e9bf999af0e84fe"), looks := false }, kinds := [], alts := [], laidByText := true, laidKinds := [.data, .data, .data, .data, .data, .data, .pinned], laidTests := true, laidLooks := .later }
def ShowBackUptoCardSaid : Prop := Claim7.holds Tryz.pinned (.plain (OpenSpec.upto showBackSpec)) showBackUptoCard
end Rows
end Go.Proofs.YtgheopdadfnilaaGreatDoor
