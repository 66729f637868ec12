/-
  The page that layer 2's statements ask for by example.
-/
import Derived.Test.YtlbbhfapmmcehaaSh
namespace Go.Proofs.Ytlbbhfapmmcehaa
set_option maxRecDepth 100000
open Go.ChangeShapes Go.WideShapes Go.ChangeAt Go.RowKit

theorem ex_0 : (page 128 1 [])[0]? = some 23 := by decide +kernel
theorem ex_1 : (page 128 1 [])[1]? = some 0 := by decide +kernel
theorem ex_127 : (page 128 1 [])[127]? = some 255 := by decide +kernel
theorem ex_torn : sGetE ((page 128 1 []).set 127 127) = 7 := by decide +kernel
end Go.Proofs.Ytlbbhfapmmcehaa
