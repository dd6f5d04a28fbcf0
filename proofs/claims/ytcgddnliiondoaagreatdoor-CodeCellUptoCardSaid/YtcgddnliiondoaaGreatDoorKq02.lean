/- Words for the walks: nothing that was there has turned; slic. -/
import Derived.Test.YtcgddnliiondoaaGreatDoorRows
import Derived.Test.YtcgddnliiondoaaGreatDoorKq01
import Derived.WalkKit
import Derived.WalkSpells
import Derived.WalkLawsBesides
import Derived.Laws.AppendOwn
import Derived.Laws.AppendOwnNone
import Derived.Laws.OwnMore
import Derived.BigQuiet
import Derived.Deep.AppendLies
import Derived.OneCell
set_option linter.unusedVariables false
set_option linter.unusedSimpArgs false
set_option maxRecDepth 100000
set_option maxHeartbeats 8000000
namespace Go.Proofs.YtcgddnliiondoaaGreatDoor.R
open Go.RowKit
set_option linter.unusedVariables false
set_option linter.unusedSimpArgs false
theorem hid {p : Prop} (h : p) : Hid p := h
theorem ret_bool {a b : Bool} (h : a = b) : Ending.returned (.bool a) = .returned (.bool b) := by rw [h]
def Q (w w' : World) : Prop := Below w.heap.size w w'
theorem Q.refl (w : World) : Q w w := Below.refl _ _
theorem Q.drewN {a w : World} (h : Q a w) (n : Nat) : Q a (w.drewN n) := below_drewN h n
theorem Q.cell {a w : World} (h : Q a w) {b o : Nat} (hb : b < a.heap.size) : w.cell? ⟨b, o, none⟩ = a.cell? ⟨b, o, none⟩ := Below.cell h hb
def rc (x : Rg.Rc) : List Value := [.int .i64 x.a, .int .i64 x.b, .int .i64 x.c, .int .i64 x.d]
section
variable {α : Type} (enc : α → List Value)
def At (W : World) (b o : Nat) (x : α) : Prop := ∀ (j : Nat) (u : Value), (enc x)[j]? = some u → W.cell? ⟨b, o + j, none⟩ = some u
variable {enc}
theorem At.on {W W' : World} {b o : Nat} {x : α} (h : At enc W b o x) (q : Q W W') : At enc W' b o x := fun j u hu =>
  (q.cell (World.block_lt_of_cell? W ⟨b, o + j, none⟩ (h j u hu))).trans (h j u hu)
variable (enc)
def Sl (k : Nat) (W : World) (v : Value) (L : List α) : Prop :=
  ∃ (ao : Option Addr) (cap : Nat), v = .slice ao L.length cap ∧ L.length ≤ cap ∧ cap ≤ maxLen ∧ (0 < L.length → ∃ b off, ao = some ⟨b, off, none⟩ ∧ ∀ i (h : i < L.length), At enc W b (off + i * k) L[i])
variable {enc}
variable {k : Nat}
theorem Sl.on {W W' : World} {v : Value} {L : List α} (h : Sl enc k W v L) (q : Q W W') : Sl enc k W' v L := by
  obtain ⟨ao, cap, hv, h1, h2, h⟩ := h
  refine ⟨ao, cap, hv, h1, h2, fun hl => ?_⟩
  obtain ⟨b, off, ha, hc⟩ := h hl
  exact ⟨b, off, ha, fun i hi => (hc i hi).on q⟩
theorem Sl.len {W : World} {v : Value} {L : List α} (h : Sl enc k W v L) : ∃ (ao : Option Addr) (cap : Nat), v = .slice ao L.length cap ∧ L.length ≤ cap ∧ cap ≤ maxLen := by
  obtain ⟨ao, cap, hv, h1, h2, _⟩ := h
  exact ⟨ao, cap, hv, h1, h2⟩
theorem Sl.at {W : World} {v : Value} {L : List α} (h : Sl enc k W v L) {i : Nat} (hi : i < L.length) : ∃ b off cap, v = .slice (some ⟨b, off, none⟩) L.length cap ∧ L.length ≤ cap ∧ cap ≤ maxLen ∧ At enc W b (off + i * k) L[i] := by
  obtain ⟨ao, cap, hv, h1, h2, h⟩ := h
  obtain ⟨b, off, ha, hc⟩ := h (by omega)
  subst ha
  exact ⟨b, off, cap, hv, h1, h2, hc i hi⟩
theorem sl_nil (W : World) : Sl enc k W (.slice none 0 0) [] := ⟨none, 0, rfl, Nat.le_refl _, Nat.zero_le _, fun h => absurd h (by simp)⟩
variable {e : TypeId} {B : Nat}
end
end Go.Proofs.YtcgddnliiondoaaGreatDoor.R
