/-
  Layer 7: contracts (Ji Jm).
-/
import Derived.Test.YtbiihjdjbknibaaGreatC41
namespace Go.Proofs.YtbiihjdjbknibaaGreat
set_option maxRecDepth 100000
set_option maxHeartbeats 8000000
set_option linter.unusedSimpArgs false
set_option linter.unusedVariables false
section
set_option maxRecDepth 100000
open Go.RowKit
theorem geC_len {l:List Nat} (h:∀x∈l,x < 256):(geC l).length≤255:=by
 have hV:takeV l 1 < 256:=takeV_lt (s:=1) h sz1;unfold geC
 split
 ·rw[stC_len];omega
 ·simp
end
section
set_option maxRecDepth 100000
end
end Go.Proofs.YtbiihjdjbknibaaGreat
