/-
  Layer 7: contracts (Fk).
-/
import Derived.Test.YtbiihjdjbknibaaGreatC26
namespace Go.Proofs.YtbiihjdjbknibaaGreat
set_option maxRecDepth 100000
set_option maxHeartbeats 8000000
set_option linter.unusedSimpArgs false
set_option linter.unusedVariables false
section
set_option maxRecDepth 100000
open Go.RowKit
variable {Q:Nat→Prop}
def RfQ (Q:Nat→Prop) (w:World) (g:Nat) (q:List Nat):Prop:=∃l rf,Ref Q w g l rf∧lft l rf=q
theorem RfQ.kept {S:Nat→Prop} {w w':World} {g:Nat} {q:List Nat} (h:RfQ Q w g q) (hk:Kept S w w') (hg:¬S g) (hs:∀k,S k→Q k→¬At w k 5):RfQ Q w' g q:=by
 obtain⟨l,rf,h1,h2⟩:=h;exact⟨l,rf,h1.kept hk hg hs,h2⟩
theorem RfQ.new {w w':World} {g:Nat} {q:List Nat} (h:RfQ Q w g q) (hk:New w w'):RfQ Q w' g q:=h.kept hk (fun f=>f) (fun _ f _=>f.elim)
theorem RfQ.at_ {w:World} {g:Nat} {q:List Nat} (h:RfQ Q w g q):At w g 145:=by
 obtain⟨l,rf,h1,_⟩:=h;exact h1.at_
end
end Go.Proofs.YtbiihjdjbknibaaGreat
