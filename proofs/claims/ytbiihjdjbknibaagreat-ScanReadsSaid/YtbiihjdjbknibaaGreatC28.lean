/-
  Layer 7: contracts (Fl).
-/
import Derived.Test.YtbiihjdjbknibaaGreatC27
import Derived.Test.YtbiihjdjbknibaaGreatC05
namespace Go.Proofs.YtbiihjdjbknibaaGreat
set_option maxRecDepth 100000
set_option maxHeartbeats 8000000
set_option linter.unusedSimpArgs false
set_option linter.unusedVariables false
section
set_option maxRecDepth 100000
open Go.RowKit
end
end Go.Proofs.YtbiihjdjbknibaaGreat
