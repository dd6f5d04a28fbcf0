/- counterpaneref5.EqExpr, walked. -/
import Derived.Test.YtngnakdbhkjbjaaGreatDoorKo17
import Derived.Deep.RegionHeld3
set_option linter.unusedVariables false
set_option linter.unusedSimpArgs false
namespace Go.Proofs.YtngnakdbhkjbjaaGreatDoor
open Go.RowKit
/-- the five cells of a reference -/
structure Rc (W : World) (b o : Nat) (sh : ByteArray) (row col : Int) (ra ca : Bool) : Prop where
  a0 : W.cell? ⟨b, o, none⟩ = some (.string sh)
  a1 : W.cell? ⟨b, o + 1, none⟩ = some (.int .i64 row)
  a2 : W.cell? ⟨b, o + 2, none⟩ = some (.int .i64 col)
  a3 : W.cell? ⟨b, o + 3, none⟩ = some (.bool ra)
  a4 : W.cell? ⟨b, o + 4, none⟩ = some (.bool ca)
theorem Sl.rc {W : World} {v : Value} {L : List Rf} (h : Sl rf 5 W v L) (hl : 0 < L.length) : ∃ b off cap, v = .slice (some ⟨b, off, none⟩) L.length cap ∧ L.length ≤ cap ∧ cap ≤ maxLen ∧ ∀ i (hi : i < L.length), Rc W b (off + i * 5) ⟨L[i].1.toArray⟩ L[i].2.1 L[i].2.2.1 L[i].2.2.2.1 L[i].2.2.2.2 := by
  obtain ⟨ao, cap, hv, h1, h2, h⟩ := h
  obtain ⟨b, off, rfl, hc⟩ := h hl
  exact ⟨b, off, cap, hv, h1, h2, fun i hi => ⟨hc i hi 0 _ rfl, hc i hi 1 _ rfl, hc i hi 2 _ rfl, hc i hi 3 _ rfl, hc i hi 4 _ rfl⟩⟩
theorem Rc.on {W W' : World} {b o : Nat} {sh : ByteArray} {row col : Int} {ra ca : Bool} (h : Rc W b o sh row col ra ca) (q : Q W W') : Rc W' b o sh row col ra ca := by
  have ce : ∀ {o : Nat} {c : Value}, W.cell? ⟨b, o, none⟩ = some c → W'.cell? ⟨b, o, none⟩ = some c := fun h => (q.cell (World.block_lt_of_cell? W ⟨b, _, none⟩ h)).trans h
  exact ⟨ce h.a0, ce h.a1, ce h.a2, ce h.a3, ce h.a4⟩
end Go.Proofs.YtngnakdbhkjbjaaGreatDoor
