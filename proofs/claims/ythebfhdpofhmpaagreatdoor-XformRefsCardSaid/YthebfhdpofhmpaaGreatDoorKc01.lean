/- Spans, bands and rectangles, plainly: a list in normal form . -/

set_option linter.unusedVariables false
set_option linter.unusedSimpArgs false
set_option maxRecDepth 100000
set_option maxHeartbeats 8000000
namespace Go.Proofs.YthebfhdpofhmpaaGreatDoor.R
namespace Rg
set_option linter.unusedVariables false
set_option linter.unusedSimpArgs false
structure Sp where
  f : Int
  t : Int
structure Bd where
  f : Int
  t : Int
  cs : List Sp
structure Rc where
  a : Int
  b : Int
  c : Int
  d : Int
def eqL : List Sp → List Sp → Bool
  | [], [] => true
  | s :: l, s' :: l' => decide (s.f = s'.f ∧ s.t = s'.t) && eqL l l'
  | [], _ :: _ => false
  | _ :: _, [] => false
def same (e : Bool) (cs : Int → List Sp) (cur : Bd) : Bool := eqL cur.cs (cs cur.t) && (e || !(cs cur.t).isEmpty)
def one (b : Bd) : List Bd := if b.cs.isEmpty then [] else [b]
end Rg
end Go.Proofs.YthebfhdpofhmpaaGreatDoor.R
namespace Go.Proofs.YthebfhdpofhmpaaGreatDoor.R
namespace Rg
set_option linter.unusedVariables false
set_option linter.unusedSimpArgs false
def act (x : Rc) (r : Int) : Bool := decide (x.a ≤ r ∧ r < x.c)
def inR (x : Rc) (r c : Int) : Bool := act x r && decide (x.b ≤ c ∧ c < x.d)
def has : List Rc → Int → Int → Bool
  | [], _, _ => false
  | x :: l, r, c => inR x r c || has l r c
def col (r : Int) : Sp → List Rc → List Sp
  | cur, [] => [cur]
  | cur, x :: l => if act x r then (if x.b ≤ cur.t then col r ⟨cur.f, max cur.t x.d⟩ l else cur :: col r ⟨x.b, x.d⟩ l) else col r cur l
end Rg
end Go.Proofs.YthebfhdpofhmpaaGreatDoor.R
