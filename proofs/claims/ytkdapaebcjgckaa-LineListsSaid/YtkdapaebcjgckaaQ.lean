/- Words for the walks: nothing that was there has turned; an operation on lines as a value. -/
import Derived.Test.YtkdapaebcjgckaaRows
import Derived.Test.YtkdapaebcjgckaaAx
import Derived.WalkKit
import Derived.WalkSpells
import Derived.WalkLawsBesides
namespace Go.Proofs.Ytkdapaebcjgckaa
open Go.RowKit

theorem hid {p : Prop} (h : p) : Hid p := h
theorem ret_int {k : IntKind} {a b : Int} (h : a = b) : Ending.returned (.int k a) = .returned (.int k b) := by rw [h]
theorem ret_bool {a b : Bool} (h : a = b) : Ending.returned (.bool a) = .returned (.bool b) := by rw [h]

/-- nothing that was there has turned -/
def Q (w w' : World) : Prop := Below w.heap.size w w'
theorem Q.refl (w : World) : Q w w := Below.refl _ _
theorem Q.trans {a b c : World} (h : Q a b) (k : Q b c) : Q a c := Below.trans h (Below.mono k h.size)
theorem Q.drew {a w : World} (h : Q a w) : Q a w.drew := Below.drew h
theorem Q.drewN {a w : World} (h : Q a w) (n : Nat) : Q a (w.drewN n) := below_drewN h n
theorem Q.alloc {a w : World} (h : Q a w) (o : Obj) : Q a (w.alloc o) := Below.alloc h h.size o
theorem Q.of_eq {a w : World} (h : w = a) : Q a w := h ▸ Q.refl _
theorem Q.cell {a w : World} (h : Q a w) {b o : Nat} (hb : b < a.heap.size) : w.cell? ⟨b, o, none⟩ = a.cell? ⟨b, o, none⟩ := Below.cell h hb
theorem Q.lt {a w : World} (h : Q a w) {b : Nat} (hb : b < a.heap.size) : b < w.heap.size := Nat.lt_of_lt_of_le hb h.size

/-- an operation on lines, as a value; in memory -/
def ln (k a t : Int) : Value := .agg #[.int .i64 k, .int .i64 a, .int .i64 t]
def bx (k a t : Int) : Obj := .cells #[.int .i64 k, .int .i64 a, .int .i64 t] 23
/-- may an operation be? -/
def mayB (k a t : Int) : Bool := decide ((0 ≤ a ∧ a < 2199023255552) ∧ (0 ≤ t ∧ t < 2199023255552) ∧ Ax.okB k a t = true)
/-- a number from 0 to 2^60 -/
def plB (n : Int) : Bool := decide (0 ≤ n ∧ n ≤ 1152921504606846976)
def mnB (n : Int) : Bool := decide (0 ≤ n ∧ n < 2199023255552)
/-- where a gap goes when a line comes -/
def og (g a : Int) (bh : Bool) : Int := if a < g ∨ (g = a ∧ bh = true) then g + 1 else g
/-- where line i goes; where gap g goes; the line that goes to i -/
def ix (k a t i : Int) : Int := if mayB k a t = true ∧ plB i = true then Ax.idx k a t i else -1
def gp (k a t g : Int) (bh : Bool) : Int := if mayB k a t = true ∧ plB g = true then Ax.gap k a t g bh else -1
def bk (k a t i : Int) : Int := if mayB k a t = true ∧ plB i = true then Ax.bk k a t i else -1
end Go.Proofs.Ytkdapaebcjgckaa
