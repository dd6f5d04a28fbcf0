/- RewriteSides: all its ways. -/
import Derived.Test.YtoikodohcieipaaGreatDoorKs41
import Derived.Test.YtoikodohcieipaaGreatDoorKs42
import Derived.Test.YtoikodohcieipaaGreatDoorKs43
set_option linter.unusedVariables false
set_option linter.unusedSimpArgs false
set_option maxRecDepth 100000
set_option maxHeartbeats 8000000
namespace Go.Proofs.YtoikodohcieipaaGreatDoor
open Go.RowKit
theorem sides_any(x:Ex)(v:Value)(rows:Bool)(k a t k' a' t':Int)(W:World)(hg:Gd W)(hr:RdI W x v)(hs:Sm (cutE x 1 220).1) :
  Calls Tryz.prog 5 #[v,.bool rows,.agg #[.int .i64 k,.int .i64 a,.int .i64 t],.agg #[.int .i64 k',.int .i64 a',.int .i64 t']] W fun e W'=>e=.returned (.bool true)∧Q W W':=by
 cases h1:(fitB (cutE x 1 220).1&&mall mayN (cutE x 1 220).1)
 ·exact sides_e1 x v rows k a t k' a' t' W hg hr hs h1
 cases h2:L.mayB k a t
 ·exact sides_e2 x v rows k a t k' a' t' W hg hr hs h1 h2
 cases h3:L.mayB k' a' t'
 ·exact sides_e3 x v rows k a t k' a' t' W hg hr hs h1 h2 h3
 rcases Int.lt_or_le 1099511627776 a with g0|g0
 ·exact sides_e4 x v rows k a t k' a' t' W hg hr hs h1 h2 h3 g0
 rcases Int.lt_or_le 1099511627776 t with g1|g1
 ·exact sides_e5 x v rows k a t k' a' t' W hg hr hs h1 h2 h3 g0 g1
 rcases Int.lt_or_le 1099511627776 a' with g2|g2
 ·exact sides_e6 x v rows k a t k' a' t' W hg hr hs h1 h2 h3 g0 g1 g2
 rcases Int.lt_or_le 1099511627776 t' with g3|g3
 ·exact sides_e7 x v rows k a t k' a' t' W hg hr hs h1 h2 h3 g0 g1 g2 g3
 cases hy:L.trB k' a' t' k a t false
 ·cases hx:L.trB k a t k' a' t' true
  ·exact sides_m00 x v rows k a t k' a' t' W hg hr hs h1 h2 h3 g0 g1 g2 g3 hy hx
  ·exact sides_m01 x v rows k a t k' a' t' W hg hr hs h1 h2 h3 g0 g1 g2 g3 hy hx
 ·cases hx:L.trB k a t k' a' t' true
  ·exact sides_m10 x v rows k a t k' a' t' W hg hr hs h1 h2 h3 g0 g1 g2 g3 hy hx
  ·exact sides_m11 x v rows k a t k' a' t' W hg hr hs h1 h2 h3 g0 g1 g2 g3 hy hx
end Go.Proofs.YtoikodohcieipaaGreatDoor
