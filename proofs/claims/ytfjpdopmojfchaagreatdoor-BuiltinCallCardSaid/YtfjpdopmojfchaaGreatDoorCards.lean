/-
  DERIVED. GIVEN WITH THE SEED: THE CARDS: each row of YtfjpdopmojfchaaGreatDoorRows.lean that lists a variable, with what it lists TIED to the program's text (the seventh form; the later family's looks); each row that meets fmt, with fmt's text TOLD by the authors' own Lean function (tested against real Go, not proved from fmt's source: count such statements apart). THE CARD IS WHAT COUNTS. Prove the row's statement (the work); the ties are given (YtfjpdopmojfchaaGreatDoorTie.lean); close each card by the builder's one call (the guide's Derived/Test/ToyasCard.lean, 'card_holds'). Laid BY PROGRAM, IN A SANDBOX (cutbox-door.mjs). By AI agents, Wed Nov 11 2026. No macro, syntax, notation, axiom, sorry.
-/
import Derived.Test.YtfjpdopmojfchaaGreatDoorRows
import GoSem.ClaimSeven
namespace Go.Proofs.YtfjpdopmojfchaaGreatDoor
namespace Rows

/-- THE TIED CARD OF 'counterpanelaw12.BuiltinCall'. -/
def builtinCallCard : Claim7 := { stood := { row := builtinCallRow, standIns := [], harness := (true, "6bd0a20c073f91f87e351e09c63f8d36fa8bf054b6dae4b1ff69573cfac92863"), looks := false }, kinds := [], alts := [], laidByText := true, laidKinds := [.data, .data, .data, .data, .data, .pinned], laidTests := true, laidLooks := .later }
def BuiltinCallCardSaid : Prop := Claim7.holds Tryz.pinned (.plain (OpenSpec.ofChange builtinCallSpec)) builtinCallCard

/-- THE TIED CARD OF 'counterpanelaw12.BuiltinBinary'. -/
def builtinBinaryCard : Claim7 := { stood := { row := builtinBinaryRow, standIns := [], harness := (true, "6bd0a20c073f91f87e351e09c63f8d36fa8bf054b6dae4b1ff69573cfac92863"), looks := false }, kinds := [], alts := [], laidByText := true, laidKinds := [.data, .data, .data, .data, .data, .pinned], laidTests := true, laidLooks := .later }
def BuiltinBinaryCardSaid : Prop := Claim7.holds Tryz.pinned (.plain (OpenSpec.ofChange builtinBinarySpec)) builtinBinaryCard

/-- THE TIED CARD OF 'counterpanelaw12.BuiltinWorst'. -/
def builtinWorstCard : Claim7 := { stood := { row := builtinWorstRow, standIns := [], harness := (true, "6bd0a20c073f91f87e351e09c63f8d36fa8bf054b6dae4b1ff69573cfac92863"), looks := false }, kinds := [], alts := [], laidByText := true, laidKinds := [.data, .data, .data, .data, .data, .pinned], laidTests := true, laidLooks := .later }
def BuiltinWorstCardSaid : Prop := Claim7.holds Tryz.pinned (.plain (OpenSpec.ofChange builtinWorstSpec)) builtinWorstCard

/-- THE TIED CARD OF 'counterpanelaw12.BuiltinIf'. -/
def builtinIfCard : Claim7 := { stood := { row := builtinIfRow, standIns := [], harness := (true, "6bd0a20c073f91f87e351e09c63f8d36fa8bf054b6dae4b1ff69573cfac92863"), looks := false }, kinds := [], alts := [], laidByText := true, laidKinds := [.data, .data, .data, .data, .data, .pinned], laidTests := true, laidLooks := .later }
def BuiltinIfCardSaid : Prop := Claim7.holds Tryz.pinned (.plain (OpenSpec.ofChange builtinIfSpec)) builtinIfCard

/-- THE TIED CARD OF 'counterpanelaw12.BuiltinCompare'. -/
def builtinCompareCard : Claim7 := { stood := { row := builtinCompareRow, standIns := [], harness := (true, "6bd0a20c073f91f87e351e09c63f8d36fa8bf054b6dae4b1ff69573cfac92863"), looks := false }, kinds := [], alts := [], laidByText := true, laidKinds := [.data, .data, .data, .data, .data, .pinned], laidTests := true, laidLooks := .later }
def BuiltinCompareCardSaid : Prop := Claim7.holds Tryz.pinned (.plain (OpenSpec.ofChange builtinCompareSpec)) builtinCompareCard

/-- THE TIED CARD OF 'counterpanelaw12.BuiltinErrors'. -/
def builtinErrorsCard : Claim7 := { stood := { row := builtinErrorsRow, standIns := [], harness := (true, "6bd0a20c073f91f87e351e09c63f8d36fa8bf054b6dae4b1ff69573cfac92863"), looks := false }, kinds := [], alts := [], laidByText := true, laidKinds := [.data, .data, .data, .data, .data, .pinned], laidTests := true, laidLooks := .later }
def BuiltinErrorsCardSaid : Prop := Claim7.holds Tryz.pinned (.plain (OpenSpec.ofChange builtinErrorsSpec)) builtinErrorsCard

/-- THE SECOND FORM's CARD OF 'counterpanelaw12.BuiltinCall'. -/
def builtinCallUptoCard : Claim7 := { stood := { row := builtinCallUptoRow, standIns := [], harness := (true, "6bd0a20c073f91f87e351e09c63f8d36fa8bf054b6dae4b1ff69573cfac92863"), looks := false }, kinds := [], alts := [], laidByText := true, laidKinds := [.data, .data, .data, .data, .data, .pinned], laidTests := true, laidLooks := .later }
def BuiltinCallUptoCardSaid : Prop := Claim7.holds Tryz.pinned (.plain (OpenSpec.upto builtinCallSpec)) builtinCallUptoCard

/-- THE SECOND FORM's CARD OF 'counterpanelaw12.BuiltinBinary'. -/
def builtinBinaryUptoCard : Claim7 := { stood := { row := builtinBinaryUptoRow, standIns := [], harness := (true, "6bd0a20c073f91f87e351e09c63f8d36fa8bf054b6dae4b1ff69573cfac92863"), looks := false }, kinds := [], alts := [], laidByText := true, laidKinds := [.data, .data, .data, .data, .data, .pinned], laidTests := true, laidLooks := .later }
def BuiltinBinaryUptoCardSaid : Prop := Claim7.holds Tryz.pinned (.plain (OpenSpec.upto builtinBinarySpec)) builtinBinaryUptoCard

/-- THE SECOND FORM's CARD OF 'counterpanelaw12.BuiltinWorst'. -/
def builtinWorstUptoCard : Claim7 := { stood := { row := builtinWorstUptoRow, standIns := [], harness := (true, "6bd0a20c073f91f87e351e09c63f8d36fa8bf054b6dae4b1ff69573cfac92863"), looks := false }, kinds := [], alts := [], laidByText := true, laidKinds := [.data, .data, .data, .data, .data, .pinned], laidTests := true, laidLooks := .later }
def BuiltinWorstUptoCardSaid : Prop := Claim7.holds Tryz.pinned (.plain (OpenSpec.upto builtinWorstSpec)) builtinWorstUptoCard

/-- THE SECOND FORM's CARD OF 'counterpanelaw12.BuiltinIf'. -/
def builtinIfUptoCard : Claim7 := { stood := { row := builtinIfUptoRow, standIns := [], harness := (true, "6bd0a20c073f91f87e351e09c63f8d36fa8bf054b6dae4b1ff69573cfac92863"), looks := false }, kinds := [], alts := [], laidByText := true, laidKinds := [.data, .data, .data, .data, .data, .pinned], laidTests := true, laidLooks := .later }
def BuiltinIfUptoCardSaid : Prop := Claim7.holds Tryz.pinned (.plain (OpenSpec.upto builtinIfSpec)) builtinIfUptoCard

/-- THE SECOND FORM's CARD OF 'counterpanelaw12.BuiltinCompare'. -/
def builtinCompareUptoCard : Claim7 := { stood := { row := builtinCompareUptoRow, standIns := [], harness := (true, "6bd0a20c073f91f87e351e09c63f8d36fa8bf054b6dae4b1ff69573cfac92863"), looks := false }, kinds := [], alts := [], laidByText := true, laidKinds := [.data, .data, .data, .data, .data, .pinned], laidTests := true, laidLooks := .later }
def BuiltinCompareUptoCardSaid : Prop := Claim7.holds Tryz.pinned (.plain (OpenSpec.upto builtinCompareSpec)) builtinCompareUptoCard

/-- THE SECOND FORM's CARD OF 'counterpanelaw12.BuiltinErrors'. -/
def builtinErrorsUptoCard : Claim7 := { stood := { row := builtinErrorsUptoRow, standIns := [], harness := (true, "6bd0a20c073f91f87e351e09c63f8d36fa8bf054b6dae4b1ff69573cfac92863"), looks := false }, kinds := [], alts := [], laidByText := true, laidKinds := [.data, .data, .data, .data, .data, .pinned], laidTests := true, laidLooks := .later }
def BuiltinErrorsUptoCardSaid : Prop := Claim7.holds Tryz.pinned (.plain (OpenSpec.upto builtinErrorsSpec)) builtinErrorsUptoCard
end Rows
end Go.Proofs.YtfjpdopmojfchaaGreatDoor
