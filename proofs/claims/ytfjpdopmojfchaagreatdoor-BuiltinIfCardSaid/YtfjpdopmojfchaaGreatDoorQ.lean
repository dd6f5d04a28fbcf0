/- A word for 'nothing that was there has turned', and two-word sizes: small facts for the walks. -/
import Derived.Test.YtfjpdopmojfchaaGreatDoorA
namespace Go.Proofs.YtfjpdopmojfchaaGreatDoor
open Go.RowKit
theorem hid {p : Prop} (h : p) : Hid p := h
/-- nothing that was there has turned -/
def Q (w w' : World) : Prop := Below w.heap.size w w'
theorem Q.refl (w : World) : Q w w := Below.refl _ _
theorem Q.trans {a b c : World} (h : Q a b) (k : Q b c) : Q a c := Below.trans h (Below.mono k h.size)
theorem Q.drew {a w : World} (h : Q a w) : Q a w.drew := Below.drew h
theorem Q.drewN {a w : World} (h : Q a w) (n : Nat) : Q a (w.drewN n) := below_drewN h n
theorem Q.alloc {a w : World} (h : Q a w) (o : Obj) : Q a (w.alloc o) := Below.alloc h h.size o
theorem Q.of_eq {a w : World} (h : w = a) : Q a w := h ▸ Q.refl _
theorem Q.cell {a w : World} (h : Q a w) {b o : Nat} (hb : b < a.heap.size) : w.cell? ⟨b, o, none⟩ = a.cell? ⟨b, o, none⟩ := Below.cell h hb
theorem Q.lt {a w : World} (h : Q a w) {b : Nat} (hb : b < a.heap.size) : b < w.heap.size := Nat.lt_of_lt_of_le hb h.size
end Go.Proofs.YtfjpdopmojfchaaGreatDoor
