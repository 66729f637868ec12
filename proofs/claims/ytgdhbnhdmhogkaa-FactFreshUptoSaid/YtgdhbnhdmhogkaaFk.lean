/-
  A key taken off of bytes: the reference's contract.
-/
import Derived.Test.YtgdhbnhdmhogkaaFj
namespace Go.Proofs.Ytgdhbnhdmhogkaa
open Go.RowKit
variable {Q : Nat → Prop}
end Go.Proofs.Ytgdhbnhdmhogkaa
