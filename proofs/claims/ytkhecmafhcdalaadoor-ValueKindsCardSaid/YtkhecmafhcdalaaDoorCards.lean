/-
  DERIVED. GIVEN WITH THE SEED: THE CARDS: each row of YtkhecmafhcdalaaDoorRows.lean that lists a variable, with what it lists TIED to the program's text (the seventh form; the later family's looks); each row that meets fmt, with fmt's text TOLD by the authors' own Lean function (tested against real Go, not proved from fmt's source: count such statements apart). THE CARD IS WHAT COUNTS. Prove the row's statement (the work); the ties are given (YtkhecmafhcdalaaDoorTie.lean); close each card by the builder's one call (the guide's Derived/Test/ToyasCard.lean, 'card_holds'). Laid BY PROGRAM, IN A SANDBOX (cutbox-door.mjs). By AI agents, Wed Nov 11 2026. No macro, syntax, notation, axiom, sorry.
-/
import Derived.Test.YtkhecmafhcdalaaDoorRows
import GoSem.ClaimSeven
namespace Go.Proofs.YtkhecmafhcdalaaDoor
namespace Rows

/-- THE TIED CARD OF 'counterpanelaw1.FixText'. -/
def fixTextCard : Claim7 := { stood := { row := fixTextRow, standIns := [], harness := (true, "7b1e88a210d5e65397f2aa5de3d4fdb4e6b85a166b7a6848ea0e1f98b10ceb52"), looks := false }, kinds := [], alts := [], laidByText := true, laidKinds := [.data, .data, .data, .data, .pinned], laidTests := true, laidLooks := .later }
def FixTextCardSaid : Prop := Claim7.holds Tryd.pinned (.plain (OpenSpec.ofChange fixTextSpec)) fixTextCard

/-- THE TIED CARD OF 'counterpanelaw2.ValueKinds'. -/
def valueKindsCard : Claim7 := { stood := { row := valueKindsRow, standIns := [], harness := (true, "7b1e88a210d5e65397f2aa5de3d4fdb4e6b85a166b7a6848ea0e1f98b10ceb52"), looks := false }, kinds := [], alts := [], laidByText := true, laidKinds := [.data, .data, .data, .data, .data, .pinned], laidTests := true, laidLooks := .later }
def ValueKindsCardSaid : Prop := Claim7.holds Tryd.pinned (.plain (OpenSpec.ofChange valueKindsSpec)) valueKindsCard

/-- THE TIED CARD OF 'counterpanelaw2.ValueOrder'. -/
def valueOrderCard : Claim7 := { stood := { row := valueOrderRow, standIns := [], harness := (true, "7b1e88a210d5e65397f2aa5de3d4fdb4e6b85a166b7a6848ea0e1f98b10ceb52"), looks := false }, kinds := [], alts := [], laidByText := true, laidKinds := [.data, .data, .data, .data, .data, .pinned], laidTests := true, laidLooks := .later }
def ValueOrderCardSaid : Prop := Claim7.holds Tryd.pinned (.plain (OpenSpec.ofChange valueOrderSpec)) valueOrderCard

/-- THE TIED CARD OF 'counterpanelaw2.ValueWorst'. -/
def valueWorstCard : Claim7 := { stood := { row := valueWorstRow, standIns := [], harness := (true, "7b1e88a210d5e65397f2aa5de3d4fdb4e6b85a166b7a6848ea0e1f98b10ceb52"), looks := false }, kinds := [], alts := [], laidByText := true, laidKinds := [.data, .data, .data, .data, .data, .pinned], laidTests := true, laidLooks := .later }
def ValueWorstCardSaid : Prop := Claim7.holds Tryd.pinned (.plain (OpenSpec.ofChange valueWorstSpec)) valueWorstCard

/-- THE SECOND FORM's CARD OF 'counterpanelaw1.FixText'. -/
def fixTextUptoCard : Claim7 := { stood := { row := fixTextUptoRow, standIns := [], harness := (true, "7b1e88a210d5e65397f2aa5de3d4fdb4e6b85a166b7a6848ea0e1f98b10ceb52"), looks := false }, kinds := [], alts := [], laidByText := true, laidKinds := [.data, .data, .data, .data, .pinned], laidTests := true, laidLooks := .later }
def FixTextUptoCardSaid : Prop := Claim7.holds Tryd.pinned (.plain (OpenSpec.upto fixTextSpec)) fixTextUptoCard

/-- THE SECOND FORM's CARD OF 'counterpanelaw2.ValueKinds'. -/
def valueKindsUptoCard : Claim7 := { stood := { row := valueKindsUptoRow, standIns := [], harness := (true, "7b1e88a210d5e65397f2aa5de3d4fdb4e6b85a166b7a6848ea0e1f98b10ceb52"), looks := false }, kinds := [], alts := [], laidByText := true, laidKinds := [.data, .data, .data, .data, .data, .pinned], laidTests := true, laidLooks := .later }
def ValueKindsUptoCardSaid : Prop := Claim7.holds Tryd.pinned (.plain (OpenSpec.upto valueKindsSpec)) valueKindsUptoCard

/-- THE SECOND FORM's CARD OF 'counterpanelaw2.ValueOrder'. -/
def valueOrderUptoCard : Claim7 := { stood := { row := valueOrderUptoRow, standIns := [], harness := (true, "7b1e88a210d5e65397f2aa5de3d4fdb4e6b85a166b7a6848ea0e1f98b10ceb52"), looks := false }, kinds := [], alts := [], laidByText := true, laidKinds := [.data, .data, .data, .data, .data, .pinned], laidTests := true, laidLooks := .later }
def ValueOrderUptoCardSaid : Prop := Claim7.holds Tryd.pinned (.plain (OpenSpec.upto valueOrderSpec)) valueOrderUptoCard

/-- THE SECOND FORM's CARD OF 'counterpanelaw2.ValueWorst'. -/
def valueWorstUptoCard : Claim7 := { stood := { row := valueWorstUptoRow, standIns := [], harness := (true, "7b1e88a210d5e65397f2aa5de3d4fdb4e6b85a166b7a6848ea0e1f98b10ceb52"), looks := false }, kinds := [], alts := [], laidByText := true, laidKinds := [.data, .data, .data, .data, .data, .pinned], laidTests := true, laidLooks := .later }
def ValueWorstUptoCardSaid : Prop := Claim7.holds Tryd.pinned (.plain (OpenSpec.upto valueWorstSpec)) valueWorstUptoCard
end Rows
end Go.Proofs.YtkhecmafhcdalaaDoor
