/-
  Contracts of the reference's reader.
-/
import Derived.Test.YtgdhbnhdmhogkaaEc
namespace Go.Proofs.Ytgdhbnhdmhogkaa
open Go.RowKit
variable {Q : Nat → Prop}

theorem leV_drop (l : List Nat) (k x : Nat) (hx : l[k]? = some x) : leV (l.drop k) = x + 256 * leV (l.drop (k + 1)) := by
  have hk : k < l.length := (List.getElem?_eq_some_iff.1 hx).1
  have e : l[k] = x := (List.getElem?_eq_some_iff.1 hx).2
  rw [List.drop_eq_getElem_cons hk, e, leV]
end Go.Proofs.Ytgdhbnhdmhogkaa
