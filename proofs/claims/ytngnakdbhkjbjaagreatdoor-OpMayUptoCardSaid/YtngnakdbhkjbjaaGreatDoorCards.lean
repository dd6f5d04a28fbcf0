/-
  DERIVED. GIVEN WITH THE SEED: THE CARDS: each row of YtngnakdbhkjbjaaGreatDoorRows.lean that lists a variable, with what it lists TIED to the program's text (the seventh form; the later family's looks); each row that meets fmt, with fmt's text TOLD by the authors' own Lean function (tested against real Go, not proved from fmt's source: count such statements apart). THE CARD IS WHAT COUNTS. Prove the row's statement (the work); the ties are given (YtngnakdbhkjbjaaGreatDoorTie.lean); close each card by the builder's one call (the guide's Derived/Test/ToyasCard.lean, 'card_holds'). Laid BY PROGRAM, IN A SANDBOX (cutbox-door.mjs). By AI agents, Wed Nov 11 2026. No macro, syntax, notation, axiom, sorry.
-/
import Derived.Test.YtngnakdbhkjbjaaGreatDoorRows
import GoSem.ClaimSeven
namespace Go.Proofs.YtngnakdbhkjbjaaGreatDoor
namespace Rows

/-- THE TIED CARD OF 'counterpanelaw10.OpMay'. -/
def opMayCard : Claim7 := { stood := { row := opMayRow, standIns := [], harness := (true, "6c33795b31f989a5fec156eece4fbde12f393aa7e476e180476827d653655d1a"), looks := false }, kinds := [], alts := [], laidByText := true, laidKinds := [.data, .data, .data, .data, .data, .pinned], laidTests := true, laidLooks := .later }
def OpMayCardSaid : Prop := Claim7.holds Tryz.pinned (.plain (OpenSpec.ofChange opMaySpec)) opMayCard

/-- THE TIED CARD OF 'counterpanelaw10.OpBatch'. -/
def opBatchCard : Claim7 := { stood := { row := opBatchRow, standIns := [], harness := (true, "6c33795b31f989a5fec156eece4fbde12f393aa7e476e180476827d653655d1a"), looks := false }, kinds := [], alts := [], laidByText := true, laidKinds := [.data, .data, .data, .data, .data, .pinned], laidTests := true, laidLooks := .later }
def OpBatchCardSaid : Prop := Claim7.holds Tryz.pinned (.plain (OpenSpec.ofChange opBatchSpec)) opBatchCard

/-- THE TIED CARD OF 'counterpanelaw10.OpFields'. -/
def opFieldsCard : Claim7 := { stood := { row := opFieldsRow, standIns := [], harness := (true, "6c33795b31f989a5fec156eece4fbde12f393aa7e476e180476827d653655d1a"), looks := false }, kinds := [], alts := [], laidByText := true, laidKinds := [.data, .data, .data, .data, .data, .pinned], laidTests := true, laidLooks := .later }
def OpFieldsCardSaid : Prop := Claim7.holds Tryz.pinned (.plain (OpenSpec.ofChange opFieldsSpec)) opFieldsCard

/-- THE SECOND FORM's CARD OF 'counterpanelaw10.OpMay'. -/
def opMayUptoCard : Claim7 := { stood := { row := opMayUptoRow, standIns := [], harness := (true, "6c33795b31f989a5fec156eece4fbde12f393aa7e476e180476827d653655d1a"), looks := false }, kinds := [], alts := [], laidByText := true, laidKinds := [.data, .data, .data, .data, .data, .pinned], laidTests := true, laidLooks := .later }
def OpMayUptoCardSaid : Prop := Claim7.holds Tryz.pinned (.plain (OpenSpec.upto opMaySpec)) opMayUptoCard

/-- THE SECOND FORM's CARD OF 'counterpanelaw10.OpBatch'. -/
def opBatchUptoCard : Claim7 := { stood := { row := opBatchUptoRow, standIns := [], harness := (true, "6c33795b31f989a5fec156eece4fbde12f393aa7e476e180476827d653655d1a"), looks := false }, kinds := [], alts := [], laidByText := true, laidKinds := [.data, .data, .data, .data, .data, .pinned], laidTests := true, laidLooks := .later }
def OpBatchUptoCardSaid : Prop := Claim7.holds Tryz.pinned (.plain (OpenSpec.upto opBatchSpec)) opBatchUptoCard

/-- THE SECOND FORM's CARD OF 'counterpanelaw10.OpFields'. -/
def opFieldsUptoCard : Claim7 := { stood := { row := opFieldsUptoRow, standIns := [], harness := (true, "6c33795b31f989a5fec156eece4fbde12f393aa7e476e180476827d653655d1a"), looks := false }, kinds := [], alts := [], laidByText := true, laidKinds := [.data, .data, .data, .data, .data, .pinned], laidTests := true, laidLooks := .later }
def OpFieldsUptoCardSaid : Prop := Claim7.holds Tryz.pinned (.plain (OpenSpec.upto opFieldsSpec)) opFieldsUptoCard
end Rows
end Go.Proofs.YtngnakdbhkjbjaaGreatDoor
