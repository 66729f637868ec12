/-
  No cell of these rows narrows 'for every input' (looked for: loops, veiled, ifaces, maps, wideKeys, modest, calm, conditions, laid).
  DERIVED. THE GIVEN ROWS OF THIS SEAT. 2 by the template 'for every input the law returns true; each argument reads behind the call as it read before'; 0 by the template 'total and deterministic' (their statements: YtgdhbnhdmhogkaaTotals.lean).
  GIVEN WITH THE SEED: the statements are not yours to turn. If you find one false, say at which input.
  Laid BY PROGRAM, IN A SANDBOX (cutbox-rows.mjs): the forced cells as the released guide's own fill.sh prints them over the translation eeb53023f1ad095c… (all of the seat's roots in one cut). By AI agents, Wed Nov 11 2026. No macro, syntax, notation, axiom, sorry.
-/
import Derived.Test.YtgdhbnhdmhogkaaChecked
import GoSem.Claim
import GoSem.ClaimJoined
import GoSem.ClaimMapViews
import Derived.JoinedTies
import Derived.KernelRfl
namespace Go.Proofs.Ytgdhbnhdmhogkaa
/- THE CELL 'sum', in the pinned program and in every row, IS THE sha256 OF THE DUMP (.gsa) THAT YtgdhbnhdmhogkaaProg.lean LOADS. Nothing in Lean hashes anything: it is a label: what it is worth is what the hold of that sum in a sandbox is worth. -/
noncomputable def Try.pinned : Pinned := { name := "ytgdhbnhdmhogkaa", sum := "eeb53023f1ad095cfa272b36a293ac2262debefa3190a445324ada0ea087bfc3", checked := Try.checked }
namespace Rows
def none {H : Type} : Left H := { results := [], args := [] }

/-- 'carracklaw06.FactApplies': WHATEVER THE INPUT: true; the input reads as it did. -/
def factAppliesSpec : ChangeSpec := { name := "factApplies", fn := fun _ => fun
  | [d1, d2, d3] => { results := [.lit (.bool true)], args := [d1, d2, d3] }
  | _ => none }
def factAppliesRow : OpenClaim := { program := "ytgdhbnhdmhogkaa", sum := "eeb53023f1ad095cfa272b36a293ac2262debefa3190a445324ada0ea087bfc3", func := "carrack/carracklaw06.FactApplies", spec := "factApplies", inPlace := ["internal/bytealg.abigen_runtime_cmpstring"], unfollowed := true, recurses := true, apart := false }
def FactAppliesSaid : Prop := factAppliesRow.holds Try.pinned (OpenSpec.ofChange factAppliesSpec)

/-- ITS FALSE NEIGHBOUR: 'it returns false'. Refute it at one input. -/
def factAppliesWrong : ChangeSpec := { name := "factApplies", fn := fun _ => fun
  | [d1, d2, d3] => { results := [.lit (.bool false)], args := [d1, d2, d3] }
  | _ => none }
def FactAppliesWrongFalsely : Prop := factAppliesRow.holds Try.pinned (OpenSpec.ofChange factAppliesWrong)

/-- 'carracklaw06.FactFresh': WHATEVER THE INPUT: true; the input reads as it did. -/
def factFreshSpec : ChangeSpec := { name := "factFresh", fn := fun _ => fun
  | [d1, d2, d3] => { results := [.lit (.bool true)], args := [d1, d2, d3] }
  | _ => none }
def factFreshRow : OpenClaim := { program := "ytgdhbnhdmhogkaa", sum := "eeb53023f1ad095cfa272b36a293ac2262debefa3190a445324ada0ea087bfc3", func := "carrack/carracklaw06.FactFresh", spec := "factFresh", inPlace := ["internal/bytealg.abigen_runtime_cmpstring"], unfollowed := true, recurses := true, apart := false }
def FactFreshSaid : Prop := factFreshRow.holds Try.pinned (OpenSpec.ofChange factFreshSpec)

/-- ITS FALSE NEIGHBOUR: 'it returns false'. Refute it at one input. -/
def factFreshWrong : ChangeSpec := { name := "factFresh", fn := fun _ => fun
  | [d1, d2, d3] => { results := [.lit (.bool false)], args := [d1, d2, d3] }
  | _ => none }
def FactFreshWrongFalsely : Prop := factFreshRow.holds Try.pinned (OpenSpec.ofChange factFreshWrong)

/- THE SECOND FORM. 'bulk': how many values and letters a reading holds, each counted each time it is reached (what is shared counts as often as it is met; a slice's spare places count too). A statement '..UptoSaid' is the law's where the arguments, and the package variables that the reading takes, are together of bulk at most 1048576: NARROWER than '..Said'. Prove '..Said' where nothing that the law and all that it calls make is longer than what came in: it says more and counts as full. Else prove '..UptoSaid'. A law counts once. -/
mutual
def uptoBulk {H : Type} : DataW H → Nat
  | .lit (.string bytes) => bytes.length + 1
  | .lit _ => 1
  | .nil => 1
  | .ptr d => uptoBulk d + 1
  | .slice elems spare => uptoBulkAll elems + uptoBulkAll spare + 1
  | .agg parts => uptoBulkAll parts + 1
  | .iface _ d => uptoBulk d + 1
  | .map entries => uptoBulkEntries entries + 1
  | .held _ => 1
def uptoBulkAll {H : Type} : List (DataW H) → Nat
  | [] => 0
  | d :: r => uptoBulk d + uptoBulkAll r
def uptoBulkEntries {H : Type} : List (Lit × DataW H) → Nat
  | [] => 0
  | x :: r => uptoBulkEntry x + uptoBulkEntries r
def uptoBulkEntry {H : Type} : Lit × DataW H → Nat
  | (.string bytes, d) => bytes.length + uptoBulk d + 1
  | (_, d) => uptoBulk d + 1
 end
def uptoSmall : (H : Type) → List (DataW H) → Bool := fun _ ds => decide (uptoBulkAll ds ≤ 1048576)
def OpenSpec.upto (s : _root_.Go.ChangeSpec) : _root_.Go.OpenSpec := { _root_.Go.OpenSpec.ofChange s with cond := some uptoSmall }

/-- 'carracklaw06.FactApplies', WHERE WHAT IT READS IS OF BULK AT MOST 1048576: true; the input reads as it did. -/
def factAppliesUptoRow : OpenClaim := { program := "ytgdhbnhdmhogkaa", sum := "eeb53023f1ad095cfa272b36a293ac2262debefa3190a445324ada0ea087bfc3", func := "carrack/carracklaw06.FactApplies", spec := "factApplies", inPlace := ["internal/bytealg.abigen_runtime_cmpstring"], unfollowed := true, recurses := true, apart := false, narrowed := true }
def FactAppliesUptoSaid : Prop := factAppliesUptoRow.holds Try.pinned (OpenSpec.upto factAppliesSpec)

/-- 'carracklaw06.FactFresh', WHERE WHAT IT READS IS OF BULK AT MOST 1048576: true; the input reads as it did. -/
def factFreshUptoRow : OpenClaim := { program := "ytgdhbnhdmhogkaa", sum := "eeb53023f1ad095cfa272b36a293ac2262debefa3190a445324ada0ea087bfc3", func := "carrack/carracklaw06.FactFresh", spec := "factFresh", inPlace := ["internal/bytealg.abigen_runtime_cmpstring"], unfollowed := true, recurses := true, apart := false, narrowed := true }
def FactFreshUptoSaid : Prop := factFreshUptoRow.holds Try.pinned (OpenSpec.upto factFreshSpec)

end Rows
end Go.Proofs.Ytgdhbnhdmhogkaa
