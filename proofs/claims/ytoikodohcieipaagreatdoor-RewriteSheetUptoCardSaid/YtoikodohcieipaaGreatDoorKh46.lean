/- RewriteSheet, walked: all ways. -/
import Derived.Test.YtoikodohcieipaaGreatDoorKh44
import Derived.Test.YtoikodohcieipaaGreatDoorKh45
set_option linter.unusedVariables false
set_option linter.unusedSimpArgs false
set_option maxRecDepth 100000
set_option maxHeartbeats 8000000
namespace Go.Proofs.YtoikodohcieipaaGreatDoor
open Go.RowKit
theorem shlaw_any(x:Ex)(v:Value)(home gone:ByteArray)(W:World)(hg:Gd W)(hr:RdI W x v)(hs:Sm (cutE x 1 220).1)(hn:Sn (cutE x 1 220).1) :
  Calls Tryz.prog 4 #[v,.string home,.string gone] W fun e W'=>e=.returned (.bool true)∧Q W W':=by
 cases hm:(fitB (cutE x 1 220).1&&mall mayN (cutE x 1 220).1)
 ·exact shlaw_no x v home gone W hg hr hs hn hm
 ·by_cases hgo:(sh20 gone).data.toList=[]
  ·exact shlaw_blank x v home gone W hg hr hs hn hm hgo
  ·exact shlaw_yes x v home gone W hg hr hs hn hm hgo
end Go.Proofs.YtoikodohcieipaaGreatDoor
