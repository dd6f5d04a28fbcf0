/- P.call of the reference, walked: arguments. -/
import Derived.Test.YtgheopdadfnilaaGreatDoorKs22
namespace Go.Proofs.YtgheopdadfnilaaGreatDoor
open Go.RowKit
set_option linter.unusedVariables false
set_option linter.unusedSimpArgs false
theorem one7 (k m : Int) (t : ByteArray) (bb : Bool) (er : Int) (a1 : Option Addr) (l1 c1 : Nat) (a2 : Option Addr) (l2 c2 : Nat) : ∀ u ∈ ([.int .i64 k, .int .i64 m, .string t, .bool bb, .int .i64 er, .slice a1 l1 c1, .slice a2 l2 c2] : List Value), u.oneCell' = true := by
  intro u hu
  simp at hu
  rcases hu with rfl | rfl | rfl | rfl | rfl | rfl | rfl <;> rfl
theorem Qx.via {p r : Nat} {a b c : World} (h : Qx p a b) (k : Qx r b c) (hr : a.heap.size ≤ r) : Qx p a c :=
  ⟨k.os.trans h.os, k.tape.trans h.tape, k.output.trans h.output, Nat.le_trans h.size k.size, fun i hi hp => (k.block i (Nat.lt_of_lt_of_le hi h.size) (fun e => by have := Option.some.inj e; omega)).trans (h.block i hi hp)⟩
end Go.Proofs.YtgheopdadfnilaaGreatDoor
