/- Package value and its reference: the small functions. -/
import Derived.Test.YtkipbcimjmialaaDoorVA
import Derived.Handy
namespace Go.Proofs.YtkipbcimjmialaaDoor.V
open Go.RowKit
set_option linter.unusedVariables false
set_option linter.unusedSimpArgs false

/-- a value of a cell -/
def vv (k n : Int) (t : ByteArray) (b : Bool) (e : Int) : Value := .agg #[.int .i64 k, .int .i64 n, .string t, .bool b, .int .i64 e]

theorem vret_bool {a b : Bool} (h : a = b) : Ending.returned (.bool a) = .returned (.bool b) := by rw [h]

theorem vret_bi {a b : Bool} {c d : Int} (h : a = b) (g : c = d) : Ending.returned (.tuple #[.bool a, .int .i64 c]) = .returned (.tuple #[.bool b, .int .i64 d]) := by rw [h, g]
/-- -1, 0 or 1: two numbers -/
def cmpI (a b : Int) : Int := if a < b then -1 else if b < a then 1 else 0
/-- -1, 0 or 1: two texts, by bytes -/
def cmpT (s t : List UInt8) : Int := if Op.bytesLess s t then -1 else if s = t then 0 else 1
def tn (b : Bool) : Int := if b then 10000 else 0

/-- do two values have the same fields? -/
def eqB (k n : Int) (t : List UInt8) (b : Bool) (e : Int) (k' n' : Int) (t' : List UInt8) (b' : Bool) (e' : Int) : Bool :=
  decide (k = k' ∧ n = n' ∧ t = t' ∧ b = b' ∧ e = e')
end Go.Proofs.YtkipbcimjmialaaDoor.V
