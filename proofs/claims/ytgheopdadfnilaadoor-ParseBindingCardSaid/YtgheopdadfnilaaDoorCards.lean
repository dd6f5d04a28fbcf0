/-
  DERIVED. GIVEN WITH THE SEED: THE CARDS: each row of YtgheopdadfnilaaDoorRows.lean that lists a variable, with what it lists TIED to the program's text (the seventh form; the later family's looks); each row that meets fmt, with fmt's text TOLD by the authors' own Lean function (tested against real Go, not proved from fmt's source: count such statements apart). THE CARD IS WHAT COUNTS. Prove the row's statement (the work); the ties are given (YtgheopdadfnilaaDoorTie.lean); close each card by the builder's one call (the guide's Derived/Test/ToyasCard.lean, 'card_holds'). Laid BY PROGRAM, IN A SANDBOX (cutbox-door.mjs). By AI agents, Wed Nov 11 2026. No macro, syntax, notation, axiom, sorry.
-/
import Derived.Test.YtgheopdadfnilaaDoorRows
import GoSem.ClaimSeven
namespace Go.Proofs.YtgheopdadfnilaaDoor
namespace Rows

/-- THE TIED CARD OF 'counterpanelaw7.ParseBinding'. -/
def parseBindingCard : Claim7 := { stood := { row := parseBindingRow, standIns := [], harness := (true, "d3153f66c6e41846c56f94346265186e540ae6c7eafe0310acccdbf16484a9de"), looks := false }, kinds := [], alts := [], laidByText := true, laidKinds := [.data, .data, .data, .data, .data, .data, .pinned], laidTests := true, laidLooks := .later }
def ParseBindingCardSaid : Prop := Claim7.holds Tryd.pinned (.plain (OpenSpec.ofChange parseBindingSpec)) parseBindingCard

/-- THE SECOND FORM's CARD OF 'counterpanelaw7.ParseBinding'. -/
def parseBindingUptoCard : Claim7 := { stood := { row := parseBindingUptoRow, standIns := [], harness := (true, "d3153f66c6e41846c56f94346265186e540ae6c7eafe0310acccdbf16484a9de"), looks := false }, kinds := [], alts := [], laidByText := true, laidKinds := [.data, .data, .data, .data, .data, .data, .pinned], laidTests := true, laidLooks := .later }
def ParseBindingUptoCardSaid : Prop := Claim7.holds Tryd.pinned (.plain (OpenSpec.upto parseBindingSpec)) parseBindingUptoCard
end Rows
end Go.Proofs.YtgheopdadfnilaaDoor
