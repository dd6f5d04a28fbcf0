/- Spans, bands and rectangles, plainly: a list in normal form . -/

set_option linter.unusedVariables false
set_option linter.unusedSimpArgs false
set_option maxRecDepth 100000
set_option maxHeartbeats 8000000
namespace Go.Proofs.YtcgddnliiondoaaGreatDoor.R
namespace Rg
set_option linter.unusedVariables false
set_option linter.unusedSimpArgs false
structure Rc where
  a : Int
  b : Int
  c : Int
  d : Int
end Rg
end Go.Proofs.YtcgddnliiondoaaGreatDoor.R
