/-
  No cell of these rows narrows 'for every input' (looked for: loops, veiled, ifaces, maps, wideKeys, modest, calm, conditions, laid).
  DERIVED. THE GIVEN ROWS OF THIS SEAT. 5 by the template 'for every input the law returns true; each argument reads behind the call as it read before'; 0 by the template 'total and deterministic' (their statements: YtbiihjdjbknibaaTotals.lean).
  GIVEN WITH THE SEED: the statements are not yours to turn. If you find one false, say at which input.
  Laid BY PROGRAM, IN A SANDBOX (cutbox-rows.mjs): the forced cells as the released guide's own fill.sh prints them over the translation c3c2e66a512deefb… (all of the seat's roots in one cut). By AI agents, Wed Nov 11 2026. No macro, syntax, notation, axiom, sorry.
-/
import Derived.Test.YtbiihjdjbknibaaChecked
import GoSem.Claim
import GoSem.ClaimJoined
import GoSem.ClaimMapViews
import Derived.JoinedTies
import Derived.KernelRfl
namespace Go.Proofs.Ytbiihjdjbknibaa
/- THE CELL 'sum', in the pinned program and in every row, IS THE sha256 OF THE DUMP (.gsa) THAT YtbiihjdjbknibaaProg.lean LOADS. Nothing in Lean hashes anything: it is a label: what it is worth is what the hold of that sum in a sandbox is worth. -/
noncomputable def Try.pinned : Pinned := { name := "ytbiihjdjbknibaa", sum := "c3c2e66a512deefb7222ac7a7d6c510d3ccab7e1036a7923a51170fcf5a2a6d3", checked := Try.checked }
namespace Rows
def none {H : Type} : Left H := { results := [], args := [] }

/-- 'carracklaw13.PackPages': WHATEVER THE INPUT: true; the input reads as it did. -/
def packPagesSpec : ChangeSpec := { name := "packPages", fn := fun _ => fun
  | [d1, d2, d3] => { results := [.lit (.bool true)], args := [d1, d2, d3] }
  | _ => none }
def packPagesRow : OpenClaim := { program := "ytbiihjdjbknibaa", sum := "c3c2e66a512deefb7222ac7a7d6c510d3ccab7e1036a7923a51170fcf5a2a6d3", func := "carrack/carracklaw13.PackPages", spec := "packPages", inPlace := ["internal/bytealg.abigen_runtime_cmpstring", "internal/bytealg.MakeNoZero"], apart := false }
def PackPagesSaid : Prop := packPagesRow.holds Try.pinned (OpenSpec.ofChange packPagesSpec)

/-- ITS FALSE NEIGHBOUR: 'it returns false'. Refute it at one input. -/
def packPagesWrong : ChangeSpec := { name := "packPages", fn := fun _ => fun
  | [d1, d2, d3] => { results := [.lit (.bool false)], args := [d1, d2, d3] }
  | _ => none }
def PackPagesWrongFalsely : Prop := packPagesRow.holds Try.pinned (OpenSpec.ofChange packPagesWrong)

/-- 'carracklaw13.PackBack': WHATEVER THE INPUT: true; the input reads as it did. -/
def packBackSpec : ChangeSpec := { name := "packBack", fn := fun _ => fun
  | [d1, d2] => { results := [.lit (.bool true)], args := [d1, d2] }
  | _ => none }
def packBackRow : OpenClaim := { program := "ytbiihjdjbknibaa", sum := "c3c2e66a512deefb7222ac7a7d6c510d3ccab7e1036a7923a51170fcf5a2a6d3", func := "carrack/carracklaw13.PackBack", spec := "packBack", inPlace := ["internal/bytealg.abigen_runtime_cmpstring", "internal/bytealg.MakeNoZero"], apart := false }
def PackBackSaid : Prop := packBackRow.holds Try.pinned (OpenSpec.ofChange packBackSpec)

/-- ITS FALSE NEIGHBOUR: 'it returns false'. Refute it at one input. -/
def packBackWrong : ChangeSpec := { name := "packBack", fn := fun _ => fun
  | [d1, d2] => { results := [.lit (.bool false)], args := [d1, d2] }
  | _ => none }
def PackBackWrongFalsely : Prop := packBackRow.holds Try.pinned (OpenSpec.ofChange packBackWrong)

/-- 'carracklaw13.PackFull': WHATEVER THE INPUT: true; the input reads as it did. -/
def packFullSpec : ChangeSpec := { name := "packFull", fn := fun _ => fun
  | [d1, d2] => { results := [.lit (.bool true)], args := [d1, d2] }
  | _ => none }
def packFullRow : OpenClaim := { program := "ytbiihjdjbknibaa", sum := "c3c2e66a512deefb7222ac7a7d6c510d3ccab7e1036a7923a51170fcf5a2a6d3", func := "carrack/carracklaw13.PackFull", spec := "packFull", inPlace := ["internal/bytealg.abigen_runtime_cmpstring", "internal/bytealg.MakeNoZero"], apart := false }
def PackFullSaid : Prop := packFullRow.holds Try.pinned (OpenSpec.ofChange packFullSpec)

/-- ITS FALSE NEIGHBOUR: 'it returns false'. Refute it at one input. -/
def packFullWrong : ChangeSpec := { name := "packFull", fn := fun _ => fun
  | [d1, d2] => { results := [.lit (.bool false)], args := [d1, d2] }
  | _ => none }
def PackFullWrongFalsely : Prop := packFullRow.holds Try.pinned (OpenSpec.ofChange packFullWrong)

/-- 'carracklaw13.PackMore': WHATEVER THE INPUT: true; the input reads as it did. -/
def packMoreSpec : ChangeSpec := { name := "packMore", fn := fun _ => fun
  | [d1, d2, d3] => { results := [.lit (.bool true)], args := [d1, d2, d3] }
  | _ => none }
def packMoreRow : OpenClaim := { program := "ytbiihjdjbknibaa", sum := "c3c2e66a512deefb7222ac7a7d6c510d3ccab7e1036a7923a51170fcf5a2a6d3", func := "carrack/carracklaw13.PackMore", spec := "packMore", inPlace := ["internal/bytealg.abigen_runtime_cmpstring", "internal/bytealg.MakeNoZero"], apart := false }
def PackMoreSaid : Prop := packMoreRow.holds Try.pinned (OpenSpec.ofChange packMoreSpec)

/-- ITS FALSE NEIGHBOUR: 'it returns false'. Refute it at one input. -/
def packMoreWrong : ChangeSpec := { name := "packMore", fn := fun _ => fun
  | [d1, d2, d3] => { results := [.lit (.bool false)], args := [d1, d2, d3] }
  | _ => none }
def PackMoreWrongFalsely : Prop := packMoreRow.holds Try.pinned (OpenSpec.ofChange packMoreWrong)

/-- 'carracklaw13.PackFresh': WHATEVER THE INPUT: true; the input reads as it did. -/
def packFreshSpec : ChangeSpec := { name := "packFresh", fn := fun _ => fun
  | [d1, d2] => { results := [.lit (.bool true)], args := [d1, d2] }
  | _ => none }
def packFreshRow : OpenClaim := { program := "ytbiihjdjbknibaa", sum := "c3c2e66a512deefb7222ac7a7d6c510d3ccab7e1036a7923a51170fcf5a2a6d3", func := "carrack/carracklaw13.PackFresh", spec := "packFresh", inPlace := ["internal/bytealg.abigen_runtime_cmpstring", "internal/bytealg.MakeNoZero"], apart := false }
def PackFreshSaid : Prop := packFreshRow.holds Try.pinned (OpenSpec.ofChange packFreshSpec)

/-- ITS FALSE NEIGHBOUR: 'it returns false'. Refute it at one input. -/
def packFreshWrong : ChangeSpec := { name := "packFresh", fn := fun _ => fun
  | [d1, d2] => { results := [.lit (.bool false)], args := [d1, d2] }
  | _ => none }
def PackFreshWrongFalsely : Prop := packFreshRow.holds Try.pinned (OpenSpec.ofChange packFreshWrong)

/- THE SECOND FORM. 'bulk': how many values and letters a reading holds, each counted each time it is reached (what is shared counts as often as it is met; a slice's spare places count too). A statement '..UptoSaid' is the law's where the arguments, and the package variables that the reading takes, are together of bulk at most 1048576: NARROWER than '..Said'. Prove '..Said' where nothing that the law and all that it calls make is longer than what came in: it says more and counts as full. Else prove '..UptoSaid'. A law counts once. -/
mutual
def uptoBulk {H : Type} : DataW H → Nat
  | .lit (.string bytes) => bytes.length + 1
  | .lit _ => 1
  | .nil => 1
  | .ptr d => uptoBulk d + 1
  | .slice elems spare => uptoBulkAll elems + uptoBulkAll spare + 1
  | .agg parts => uptoBulkAll parts + 1
  | .iface _ d => uptoBulk d + 1
  | .map entries => uptoBulkEntries entries + 1
  | .held _ => 1
def uptoBulkAll {H : Type} : List (DataW H) → Nat
  | [] => 0
  | d :: r => uptoBulk d + uptoBulkAll r
def uptoBulkEntries {H : Type} : List (Lit × DataW H) → Nat
  | [] => 0
  | x :: r => uptoBulkEntry x + uptoBulkEntries r
def uptoBulkEntry {H : Type} : Lit × DataW H → Nat
  | (.string bytes, d) => bytes.length + uptoBulk d + 1
  | (_, d) => uptoBulk d + 1
 end
def uptoSmall : (H : Type) → List (DataW H) → Bool := fun _ ds => decide (uptoBulkAll ds ≤ 1048576)
def OpenSpec.upto (s : _root_.Go.ChangeSpec) : _root_.Go.OpenSpec := { _root_.Go.OpenSpec.ofChange s with cond := some uptoSmall }

/-- 'carracklaw13.PackPages', WHERE WHAT IT READS IS OF BULK AT MOST 1048576: true; the input reads as it did. -/
def packPagesUptoRow : OpenClaim := { program := "ytbiihjdjbknibaa", sum := "c3c2e66a512deefb7222ac7a7d6c510d3ccab7e1036a7923a51170fcf5a2a6d3", func := "carrack/carracklaw13.PackPages", spec := "packPages", inPlace := ["internal/bytealg.abigen_runtime_cmpstring", "internal/bytealg.MakeNoZero"], apart := false, narrowed := true }
def PackPagesUptoSaid : Prop := packPagesUptoRow.holds Try.pinned (OpenSpec.upto packPagesSpec)

/-- 'carracklaw13.PackBack', WHERE WHAT IT READS IS OF BULK AT MOST 1048576: true; the input reads as it did. -/
def packBackUptoRow : OpenClaim := { program := "ytbiihjdjbknibaa", sum := "c3c2e66a512deefb7222ac7a7d6c510d3ccab7e1036a7923a51170fcf5a2a6d3", func := "carrack/carracklaw13.PackBack", spec := "packBack", inPlace := ["internal/bytealg.abigen_runtime_cmpstring", "internal/bytealg.MakeNoZero"], apart := false, narrowed := true }
def PackBackUptoSaid : Prop := packBackUptoRow.holds Try.pinned (OpenSpec.upto packBackSpec)

/-- 'carracklaw13.PackFull', WHERE WHAT IT READS IS OF BULK AT MOST 1048576: true; the input reads as it did. -/
def packFullUptoRow : OpenClaim := { program := "ytbiihjdjbknibaa", sum := "c3c2e66a512deefb7222ac7a7d6c510d3ccab7e1036a7923a51170fcf5a2a6d3", func := "carrack/carracklaw13.PackFull", spec := "packFull", inPlace := ["internal/bytealg.abigen_runtime_cmpstring", "internal/bytealg.MakeNoZero"], apart := false, narrowed := true }
def PackFullUptoSaid : Prop := packFullUptoRow.holds Try.pinned (OpenSpec.upto packFullSpec)

/-- 'carracklaw13.PackMore', WHERE WHAT IT READS IS OF BULK AT MOST 1048576: true; the input reads as it did. -/
def packMoreUptoRow : OpenClaim := { program := "ytbiihjdjbknibaa", sum := "c3c2e66a512deefb7222ac7a7d6c510d3ccab7e1036a7923a51170fcf5a2a6d3", func := "carrack/carracklaw13.PackMore", spec := "packMore", inPlace := ["internal/bytealg.abigen_runtime_cmpstring", "internal/bytealg.MakeNoZero"], apart := false, narrowed := true }
def PackMoreUptoSaid : Prop := packMoreUptoRow.holds Try.pinned (OpenSpec.upto packMoreSpec)

/-- 'carracklaw13.PackFresh', WHERE WHAT IT READS IS OF BULK AT MOST 1048576: true; the input reads as it did. -/
def packFreshUptoRow : OpenClaim := { program := "ytbiihjdjbknibaa", sum := "c3c2e66a512deefb7222ac7a7d6c510d3ccab7e1036a7923a51170fcf5a2a6d3", func := "carrack/carracklaw13.PackFresh", spec := "packFresh", inPlace := ["internal/bytealg.abigen_runtime_cmpstring", "internal/bytealg.MakeNoZero"], apart := false, narrowed := true }
def PackFreshUptoSaid : Prop := packFreshUptoRow.holds Try.pinned (OpenSpec.upto packFreshSpec)

end Rows
end Go.Proofs.Ytbiihjdjbknibaa
