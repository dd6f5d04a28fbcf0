/- References as texts: the parts of what is read. -/
import Derived.Test.YtkipbcimjmialaaDoorE1
import Derived.Test.YtkipbcimjmialaaDoorB3
import Derived.Test.YtkipbcimjmialaaDoorB4
namespace Go.Proofs.YtkipbcimjmialaaDoor
open Go.RowKit
set_option linter.unusedVariables false
set_option linter.unusedSimpArgs false

/-- what a text tells: sheet, row, column, the two signs -/
def refT (l : List UInt8) : List UInt8 × Int × Int × Bool × Bool :=
  if refF l then
    ((if (Lib.cut l [33]).2.2 then (Lib.cut l [33]).1 else []),
     (val (Lib.trimPrefix ((Lib.trimPrefix (shP (Lib.cut l [33]) l) [36]).dropWhile let1) [36]) : Int) - 1,
     (colV ((Lib.trimPrefix (shP (Lib.cut l [33]) l) [36]).takeWhile let1) : Int) - 1,
     Lib.hasPrefix ((Lib.trimPrefix (shP (Lib.cut l [33]) l) [36]).dropWhile let1) [36],
     Lib.hasPrefix (shP (Lib.cut l [33]) l) [36])
  else ([], 0, 0, false, false)
/-- a reference, as the program holds it -/
def refA (t : List UInt8 × Int × Int × Bool × Bool) : Value := .agg #[.string ⟨t.1.toArray⟩, .int .i64 t.2.1, .int .i64 t.2.2.1, .bool t.2.2.2.1, .bool t.2.2.2.2]

/-- what is read of the text behind the sheet's -/
def tailF (c : List UInt8) : Bool :=
  colF ((Lib.trimPrefix c [36]).takeWhile let1) &&
   (numF (Lib.trimPrefix ((Lib.trimPrefix c [36]).dropWhile let1) [36]) 2199023255552 &&
    decide (val (Lib.trimPrefix ((Lib.trimPrefix c [36]).dropWhile let1) [36]) ≠ 0))
def tailT (sh c : List UInt8) : List UInt8 × Int × Int × Bool × Bool :=
  (sh, (val (Lib.trimPrefix ((Lib.trimPrefix c [36]).dropWhile let1) [36]) : Int) - 1,
     (colV ((Lib.trimPrefix c [36]).takeWhile let1) : Int) - 1,
     Lib.hasPrefix ((Lib.trimPrefix c [36]).dropWhile let1) [36],
     Lib.hasPrefix c [36])
def noT : List UInt8 × Int × Int × Bool × Bool := ([], 0, 0, false, false)
theorem ref_free {l a b : List UInt8} (h : Lib.cut l [33] = (a, b, false)) : refF l = tailF l ∧ refT l = if tailF l then tailT [] l else noT := by
  have e : refF l = tailF l := by unfold refF tailF; rw [h]; rfl
  refine ⟨e, ?_⟩
  unfold refT
  rw [e, h]
  rfl
theorem ref_other {l a b : List UInt8} (h : Lib.cut l [33] = (a, b, true)) : refF l = (idB a && tailF b) ∧ refT l = if idB a && tailF b then tailT a b else noT := by
  have e : refF l = (idB a && tailF b) := by unfold refF tailF idB; rw [h]; rfl
  refine ⟨e, ?_⟩
  unfold refT
  rw [e, h]
  rfl
end Go.Proofs.YtkipbcimjmialaaDoor
