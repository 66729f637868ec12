/-
  No cell of these rows narrows 'for every input' (looked for: loops, veiled, ifaces, maps, wideKeys, modest, calm, conditions, laid).
  DERIVED. THE GIVEN ROWS OF THIS SEAT. 9 by the template 'for every input the law returns true; each argument reads behind the call as it read before'; 0 by the template 'total and deterministic' (their statements: YtgjipcoobadipaaTotals.lean).
  GIVEN WITH THE SEED: the statements are not yours to turn. If you find one false, say at which input.
  Laid BY PROGRAM, IN A SANDBOX (cutbox-rows.mjs): the forced cells as the released guide's own fill.sh prints them over the translation 4c2209515214ed85… (all of the seat's roots in one cut). By AI agents, Wed Nov 11 2026. No macro, syntax, notation, axiom, sorry.
-/
import Derived.Test.YtgjipcoobadipaaChecked
import GoSem.Claim
import GoSem.ClaimJoined
import GoSem.ClaimMapViews
import Derived.JoinedTies
import Derived.KernelRfl
namespace Go.Proofs.Ytgjipcoobadipaa
/- THE CELL 'sum', in the pinned program and in every row, IS THE sha256 OF THE DUMP (.gsa) THAT YtgjipcoobadipaaProg.lean LOADS. Nothing in Lean hashes anything: it is a label: what it is worth is what the hold of that sum in a sandbox is worth. -/
noncomputable def Try.pinned : Pinned := { name := "ytgjipcoobadipaa", sum := "4c2209515214ed85e0a557f92c990773cd76f4d4cc6a868e716c043894c0b82d", checked := Try.checked }
namespace Rows
def none {H : Type} : Left H := { results := [], args := [] }

/-- 'carracklaw06.FactKeys': WHATEVER THE INPUT: true; the input reads as it did. -/
def factKeysSpec : ChangeSpec := { name := "factKeys", fn := fun _ => fun
  | [d1, d2] => { results := [.lit (.bool true)], args := [d1, d2] }
  | _ => none }
def factKeysRow : OpenClaim := { program := "ytgjipcoobadipaa", sum := "4c2209515214ed85e0a557f92c990773cd76f4d4cc6a868e716c043894c0b82d", func := "carrack/carracklaw06.FactKeys", spec := "factKeys", inPlace := ["internal/bytealg.abigen_runtime_cmpstring"], apart := false }
def FactKeysSaid : Prop := factKeysRow.holds Try.pinned (OpenSpec.ofChange factKeysSpec)

/-- ITS FALSE NEIGHBOUR: 'it returns false'. Refute it at one input. -/
def factKeysWrong : ChangeSpec := { name := "factKeys", fn := fun _ => fun
  | [d1, d2] => { results := [.lit (.bool false)], args := [d1, d2] }
  | _ => none }
def FactKeysWrongFalsely : Prop := factKeysRow.holds Try.pinned (OpenSpec.ofChange factKeysWrong)

/-- 'carracklaw06.FactReads': WHATEVER THE INPUT: true; the input reads as it did. -/
def factReadsSpec : ChangeSpec := { name := "factReads", fn := fun _ => fun
  | [d] => { results := [.lit (.bool true)], args := [d] }
  | _ => none }
def factReadsRow : OpenClaim := { program := "ytgjipcoobadipaa", sum := "4c2209515214ed85e0a557f92c990773cd76f4d4cc6a868e716c043894c0b82d", func := "carrack/carracklaw06.FactReads", spec := "factReads", inPlace := ["internal/bytealg.abigen_runtime_cmpstring"], apart := false }
def FactReadsSaid : Prop := factReadsRow.holds Try.pinned (OpenSpec.ofChange factReadsSpec)

/-- ITS FALSE NEIGHBOUR: 'it returns false'. Refute it at one input. -/
def factReadsWrong : ChangeSpec := { name := "factReads", fn := fun _ => fun
  | [d] => { results := [.lit (.bool false)], args := [d] }
  | _ => none }
def FactReadsWrongFalsely : Prop := factReadsRow.holds Try.pinned (OpenSpec.ofChange factReadsWrong)

/-- 'carracklaw06.FactValues': WHATEVER THE INPUT: true; the input reads as it did. -/
def factValuesSpec : ChangeSpec := { name := "factValues", fn := fun _ => fun
  | [d1, d2, d3] => { results := [.lit (.bool true)], args := [d1, d2, d3] }
  | _ => none }
def factValuesRow : OpenClaim := { program := "ytgjipcoobadipaa", sum := "4c2209515214ed85e0a557f92c990773cd76f4d4cc6a868e716c043894c0b82d", func := "carrack/carracklaw06.FactValues", spec := "factValues", inPlace := ["internal/bytealg.abigen_runtime_cmpstring"], apart := false }
def FactValuesSaid : Prop := factValuesRow.holds Try.pinned (OpenSpec.ofChange factValuesSpec)

/-- ITS FALSE NEIGHBOUR: 'it returns false'. Refute it at one input. -/
def factValuesWrong : ChangeSpec := { name := "factValues", fn := fun _ => fun
  | [d1, d2, d3] => { results := [.lit (.bool false)], args := [d1, d2, d3] }
  | _ => none }
def FactValuesWrongFalsely : Prop := factValuesRow.holds Try.pinned (OpenSpec.ofChange factValuesWrong)

/-- 'carracklaw06.FactApplies': WHATEVER THE INPUT: true; the input reads as it did. -/
def factAppliesSpec : ChangeSpec := { name := "factApplies", fn := fun _ => fun
  | [d1, d2, d3] => { results := [.lit (.bool true)], args := [d1, d2, d3] }
  | _ => none }
def factAppliesRow : OpenClaim := { program := "ytgjipcoobadipaa", sum := "4c2209515214ed85e0a557f92c990773cd76f4d4cc6a868e716c043894c0b82d", func := "carrack/carracklaw06.FactApplies", spec := "factApplies", inPlace := ["internal/bytealg.abigen_runtime_cmpstring"], unfollowed := true, recurses := true, apart := false }
def FactAppliesSaid : Prop := factAppliesRow.holds Try.pinned (OpenSpec.ofChange factAppliesSpec)

/-- ITS FALSE NEIGHBOUR: 'it returns false'. Refute it at one input. -/
def factAppliesWrong : ChangeSpec := { name := "factApplies", fn := fun _ => fun
  | [d1, d2, d3] => { results := [.lit (.bool false)], args := [d1, d2, d3] }
  | _ => none }
def FactAppliesWrongFalsely : Prop := factAppliesRow.holds Try.pinned (OpenSpec.ofChange factAppliesWrong)

/-- 'carracklaw06.FactBack': WHATEVER THE INPUT: true; the input reads as it did. -/
def factBackSpec : ChangeSpec := { name := "factBack", fn := fun _ => fun
  | [d1, d2, d3] => { results := [.lit (.bool true)], args := [d1, d2, d3] }
  | _ => none }
def factBackRow : OpenClaim := { program := "ytgjipcoobadipaa", sum := "4c2209515214ed85e0a557f92c990773cd76f4d4cc6a868e716c043894c0b82d", func := "carrack/carracklaw06.FactBack", spec := "factBack", inPlace := ["internal/bytealg.abigen_runtime_cmpstring"], apart := false }
def FactBackSaid : Prop := factBackRow.holds Try.pinned (OpenSpec.ofChange factBackSpec)

/-- ITS FALSE NEIGHBOUR: 'it returns false'. Refute it at one input. -/
def factBackWrong : ChangeSpec := { name := "factBack", fn := fun _ => fun
  | [d1, d2, d3] => { results := [.lit (.bool false)], args := [d1, d2, d3] }
  | _ => none }
def FactBackWrongFalsely : Prop := factBackRow.holds Try.pinned (OpenSpec.ofChange factBackWrong)

/-- 'carracklaw06.FactOrder': WHATEVER THE INPUT: true; the input reads as it did. -/
def factOrderSpec : ChangeSpec := { name := "factOrder", fn := fun _ => fun
  | [d1, d2, d3] => { results := [.lit (.bool true)], args := [d1, d2, d3] }
  | _ => none }
def factOrderRow : OpenClaim := { program := "ytgjipcoobadipaa", sum := "4c2209515214ed85e0a557f92c990773cd76f4d4cc6a868e716c043894c0b82d", func := "carrack/carracklaw06.FactOrder", spec := "factOrder", inPlace := ["internal/bytealg.abigen_runtime_cmpstring"], apart := false }
def FactOrderSaid : Prop := factOrderRow.holds Try.pinned (OpenSpec.ofChange factOrderSpec)

/-- ITS FALSE NEIGHBOUR: 'it returns false'. Refute it at one input. -/
def factOrderWrong : ChangeSpec := { name := "factOrder", fn := fun _ => fun
  | [d1, d2, d3] => { results := [.lit (.bool false)], args := [d1, d2, d3] }
  | _ => none }
def FactOrderWrongFalsely : Prop := factOrderRow.holds Try.pinned (OpenSpec.ofChange factOrderWrong)

/-- 'carracklaw06.FactChanges': WHATEVER THE INPUT: true; the input reads as it did. -/
def factChangesSpec : ChangeSpec := { name := "factChanges", fn := fun _ => fun
  | [d1, d2, d3] => { results := [.lit (.bool true)], args := [d1, d2, d3] }
  | _ => none }
def factChangesRow : OpenClaim := { program := "ytgjipcoobadipaa", sum := "4c2209515214ed85e0a557f92c990773cd76f4d4cc6a868e716c043894c0b82d", func := "carrack/carracklaw06.FactChanges", spec := "factChanges", inPlace := ["internal/bytealg.abigen_runtime_cmpstring"], unfollowed := true, recurses := true, apart := false }
def FactChangesSaid : Prop := factChangesRow.holds Try.pinned (OpenSpec.ofChange factChangesSpec)

/-- ITS FALSE NEIGHBOUR: 'it returns false'. Refute it at one input. -/
def factChangesWrong : ChangeSpec := { name := "factChanges", fn := fun _ => fun
  | [d1, d2, d3] => { results := [.lit (.bool false)], args := [d1, d2, d3] }
  | _ => none }
def FactChangesWrongFalsely : Prop := factChangesRow.holds Try.pinned (OpenSpec.ofChange factChangesWrong)

/-- 'carracklaw06.FactFresh': WHATEVER THE INPUT: true; the input reads as it did. -/
def factFreshSpec : ChangeSpec := { name := "factFresh", fn := fun _ => fun
  | [d1, d2, d3] => { results := [.lit (.bool true)], args := [d1, d2, d3] }
  | _ => none }
def factFreshRow : OpenClaim := { program := "ytgjipcoobadipaa", sum := "4c2209515214ed85e0a557f92c990773cd76f4d4cc6a868e716c043894c0b82d", func := "carrack/carracklaw06.FactFresh", spec := "factFresh", inPlace := ["internal/bytealg.abigen_runtime_cmpstring"], unfollowed := true, recurses := true, apart := false }
def FactFreshSaid : Prop := factFreshRow.holds Try.pinned (OpenSpec.ofChange factFreshSpec)

/-- ITS FALSE NEIGHBOUR: 'it returns false'. Refute it at one input. -/
def factFreshWrong : ChangeSpec := { name := "factFresh", fn := fun _ => fun
  | [d1, d2, d3] => { results := [.lit (.bool false)], args := [d1, d2, d3] }
  | _ => none }
def FactFreshWrongFalsely : Prop := factFreshRow.holds Try.pinned (OpenSpec.ofChange factFreshWrong)

/-- 'carracklaw06.FactNil': WHATEVER THE INPUT: true; the input reads as it did. -/
def factNilSpec : ChangeSpec := { name := "factNil", fn := fun _ => fun
  | [d] => { results := [.lit (.bool true)], args := [d] }
  | _ => none }
def factNilRow : OpenClaim := { program := "ytgjipcoobadipaa", sum := "4c2209515214ed85e0a557f92c990773cd76f4d4cc6a868e716c043894c0b82d", func := "carrack/carracklaw06.FactNil", spec := "factNil", inPlace := ["internal/bytealg.abigen_runtime_cmpstring"], apart := false }
def FactNilSaid : Prop := factNilRow.holds Try.pinned (OpenSpec.ofChange factNilSpec)

/-- ITS FALSE NEIGHBOUR: 'it returns false'. Refute it at one input. -/
def factNilWrong : ChangeSpec := { name := "factNil", fn := fun _ => fun
  | [d] => { results := [.lit (.bool false)], args := [d] }
  | _ => none }
def FactNilWrongFalsely : Prop := factNilRow.holds Try.pinned (OpenSpec.ofChange factNilWrong)

/- THE SECOND FORM. 'bulk': how many values and letters a reading holds, each counted each time it is reached (what is shared counts as often as it is met; a slice's spare places count too). A statement '..UptoSaid' is the law's where the arguments, and the package variables that the reading takes, are together of bulk at most 1048576: NARROWER than '..Said'. Prove '..Said' where nothing that the law and all that it calls make is longer than what came in: it says more and counts as full. Else prove '..UptoSaid'. A law counts once. -/
mutual
def uptoBulk {H : Type} : DataW H → Nat
  | .lit (.string bytes) => bytes.length + 1
  | .lit _ => 1
  | .nil => 1
  | .ptr d => uptoBulk d + 1
  | .slice elems spare => uptoBulkAll elems + uptoBulkAll spare + 1
  | .agg parts => uptoBulkAll parts + 1
  | .iface _ d => uptoBulk d + 1
  | .map entries => uptoBulkEntries entries + 1
  | .held _ => 1
def uptoBulkAll {H : Type} : List (DataW H) → Nat
  | [] => 0
  | d :: r => uptoBulk d + uptoBulkAll r
def uptoBulkEntries {H : Type} : List (Lit × DataW H) → Nat
  | [] => 0
  | x :: r => uptoBulkEntry x + uptoBulkEntries r
def uptoBulkEntry {H : Type} : Lit × DataW H → Nat
  | (.string bytes, d) => bytes.length + uptoBulk d + 1
  | (_, d) => uptoBulk d + 1
 end
def uptoSmall : (H : Type) → List (DataW H) → Bool := fun _ ds => decide (uptoBulkAll ds ≤ 1048576)
def OpenSpec.upto (s : _root_.Go.ChangeSpec) : _root_.Go.OpenSpec := { _root_.Go.OpenSpec.ofChange s with cond := some uptoSmall }

/-- 'carracklaw06.FactKeys', WHERE WHAT IT READS IS OF BULK AT MOST 1048576: true; the input reads as it did. -/
def factKeysUptoRow : OpenClaim := { program := "ytgjipcoobadipaa", sum := "4c2209515214ed85e0a557f92c990773cd76f4d4cc6a868e716c043894c0b82d", func := "carrack/carracklaw06.FactKeys", spec := "factKeys", inPlace := ["internal/bytealg.abigen_runtime_cmpstring"], apart := false, narrowed := true }
def FactKeysUptoSaid : Prop := factKeysUptoRow.holds Try.pinned (OpenSpec.upto factKeysSpec)

/-- 'carracklaw06.FactReads', WHERE WHAT IT READS IS OF BULK AT MOST 1048576: true; the input reads as it did. -/
def factReadsUptoRow : OpenClaim := { program := "ytgjipcoobadipaa", sum := "4c2209515214ed85e0a557f92c990773cd76f4d4cc6a868e716c043894c0b82d", func := "carrack/carracklaw06.FactReads", spec := "factReads", inPlace := ["internal/bytealg.abigen_runtime_cmpstring"], apart := false, narrowed := true }
def FactReadsUptoSaid : Prop := factReadsUptoRow.holds Try.pinned (OpenSpec.upto factReadsSpec)

/-- 'carracklaw06.FactValues', WHERE WHAT IT READS IS OF BULK AT MOST 1048576: true; the input reads as it did. -/
def factValuesUptoRow : OpenClaim := { program := "ytgjipcoobadipaa", sum := "4c2209515214ed85e0a557f92c990773cd76f4d4cc6a868e716c043894c0b82d", func := "carrack/carracklaw06.FactValues", spec := "factValues", inPlace := ["internal/bytealg.abigen_runtime_cmpstring"], apart := false, narrowed := true }
def FactValuesUptoSaid : Prop := factValuesUptoRow.holds Try.pinned (OpenSpec.upto factValuesSpec)

/-- 'carracklaw06.FactApplies', WHERE WHAT IT READS IS OF BULK AT MOST 1048576: true; the input reads as it did. -/
def factAppliesUptoRow : OpenClaim := { program := "ytgjipcoobadipaa", sum := "4c2209515214ed85e0a557f92c990773cd76f4d4cc6a868e716c043894c0b82d", func := "carrack/carracklaw06.FactApplies", spec := "factApplies", inPlace := ["internal/bytealg.abigen_runtime_cmpstring"], unfollowed := true, recurses := true, apart := false, narrowed := true }
def FactAppliesUptoSaid : Prop := factAppliesUptoRow.holds Try.pinned (OpenSpec.upto factAppliesSpec)

/-- 'carracklaw06.FactBack', WHERE WHAT IT READS IS OF BULK AT MOST 1048576: true; the input reads as it did. -/
def factBackUptoRow : OpenClaim := { program := "ytgjipcoobadipaa", sum := "4c2209515214ed85e0a557f92c990773cd76f4d4cc6a868e716c043894c0b82d", func := "carrack/carracklaw06.FactBack", spec := "factBack", inPlace := ["internal/bytealg.abigen_runtime_cmpstring"], apart := false, narrowed := true }
def FactBackUptoSaid : Prop := factBackUptoRow.holds Try.pinned (OpenSpec.upto factBackSpec)

/-- 'carracklaw06.FactOrder', WHERE WHAT IT READS IS OF BULK AT MOST 1048576: true; the input reads as it did. -/
def factOrderUptoRow : OpenClaim := { program := "ytgjipcoobadipaa", sum := "4c2209515214ed85e0a557f92c990773cd76f4d4cc6a868e716c043894c0b82d", func := "carrack/carracklaw06.FactOrder", spec := "factOrder", inPlace := ["internal/bytealg.abigen_runtime_cmpstring"], apart := false, narrowed := true }
def FactOrderUptoSaid : Prop := factOrderUptoRow.holds Try.pinned (OpenSpec.upto factOrderSpec)

/-- 'carracklaw06.FactChanges', WHERE WHAT IT READS IS OF BULK AT MOST 1048576: true; the input reads as it did. -/
def factChangesUptoRow : OpenClaim := { program := "ytgjipcoobadipaa", sum := "4c2209515214ed85e0a557f92c990773cd76f4d4cc6a868e716c043894c0b82d", func := "carrack/carracklaw06.FactChanges", spec := "factChanges", inPlace := ["internal/bytealg.abigen_runtime_cmpstring"], unfollowed := true, recurses := true, apart := false, narrowed := true }
def FactChangesUptoSaid : Prop := factChangesUptoRow.holds Try.pinned (OpenSpec.upto factChangesSpec)

/-- 'carracklaw06.FactFresh', WHERE WHAT IT READS IS OF BULK AT MOST 1048576: true; the input reads as it did. -/
def factFreshUptoRow : OpenClaim := { program := "ytgjipcoobadipaa", sum := "4c2209515214ed85e0a557f92c990773cd76f4d4cc6a868e716c043894c0b82d", func := "carrack/carracklaw06.FactFresh", spec := "factFresh", inPlace := ["internal/bytealg.abigen_runtime_cmpstring"], unfollowed := true, recurses := true, apart := false, narrowed := true }
def FactFreshUptoSaid : Prop := factFreshUptoRow.holds Try.pinned (OpenSpec.upto factFreshSpec)

/-- 'carracklaw06.FactNil', WHERE WHAT IT READS IS OF BULK AT MOST 1048576: true; the input reads as it did. -/
def factNilUptoRow : OpenClaim := { program := "ytgjipcoobadipaa", sum := "4c2209515214ed85e0a557f92c990773cd76f4d4cc6a868e716c043894c0b82d", func := "carrack/carracklaw06.FactNil", spec := "factNil", inPlace := ["internal/bytealg.abigen_runtime_cmpstring"], apart := false, narrowed := true }
def FactNilUptoSaid : Prop := factNilUptoRow.holds Try.pinned (OpenSpec.upto factNilSpec)

end Rows
end Go.Proofs.Ytgjipcoobadipaa
