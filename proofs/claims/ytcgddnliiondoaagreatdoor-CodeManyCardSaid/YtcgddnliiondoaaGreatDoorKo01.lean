/- Spans, bands and rectangles, plainly: a list in normal form is one, for a set of cells. -/

set_option linter.unusedVariables false
set_option linter.unusedSimpArgs false
set_option maxRecDepth 100000
set_option maxHeartbeats 8000000
namespace Go.Proofs.YtcgddnliiondoaaGreatDoor.R
namespace Rg
set_option linter.unusedVariables false
set_option linter.unusedSimpArgs false
structure Sp where
  f : Int
  t : Int
structure Bd where
  f : Int
  t : Int
  cs : List Sp
structure Rc where
  a : Int
  b : Int
  c : Int
  d : Int
def eqL : List Sp → List Sp → Bool
  | [], [] => true
  | s :: l, s' :: l' => decide (s.f = s'.f ∧ s.t = s'.t) && eqL l l'
  | [], _ :: _ => false
  | _ :: _, [] => false
def same (e : Bool) (cs : Int → List Sp) (cur : Bd) : Bool := eqL cur.cs (cs cur.t) && (e || !(cs cur.t).isEmpty)
def one (b : Bd) : List Bd := if b.cs.isEmpty then [] else [b]
end Rg
end Go.Proofs.YtcgddnliiondoaaGreatDoor.R
