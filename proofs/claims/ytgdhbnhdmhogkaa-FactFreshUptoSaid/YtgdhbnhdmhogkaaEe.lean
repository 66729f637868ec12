/-
  Contracts: a reader that is made; the numbers that the document tells.
-/
import Derived.Test.YtgdhbnhdmhogkaaEd
import Derived.Test.YtgdhbnhdmhogkaaLift
import Derived.Lib.SlBytesConst
namespace Go.Proofs.Ytgdhbnhdmhogkaa
open Go.RowKit
end Go.Proofs.Ytgdhbnhdmhogkaa
