/-
  No cell of these rows narrows 'for every input' (looked for: loops, veiled, ifaces, maps, wideKeys, modest, calm, conditions, laid).
  DERIVED. THE GIVEN ROWS OF THIS SEAT. 6 by the template 'for every input the law returns true; each argument reads behind the call as it read before'; 0 by the template 'total and deterministic' (their statements: YtlbbhfapmmcehaaTotals.lean).
  GIVEN WITH THE SEED: the statements are not yours to turn. If you find one false, say at which input.
  Laid BY PROGRAM, IN A SANDBOX (cutbox-rows.mjs): the forced cells as the released guide's own fill.sh prints them over the translation 819a1cfa1d5f7c14… (all of the seat's roots in one cut). By AI agents, Wed Nov 11 2026. No macro, syntax, notation, axiom, sorry.
-/
import Derived.Test.YtlbbhfapmmcehaaChecked
import GoSem.Claim
import GoSem.ClaimJoined
import GoSem.ClaimMapViews
import Derived.JoinedTies
import Derived.KernelRfl
namespace Go.Proofs.Ytlbbhfapmmcehaa
/- THE CELL 'sum', in the pinned program and in every row, IS THE sha256 OF THE DUMP (.gsa) THAT YtlbbhfapmmcehaaProg.lean LOADS. Nothing in Lean hashes anything: it is a label: what it is worth is what the hold of that sum in a sandbox is worth. -/
noncomputable def Try.pinned : Pinned := { name := "ytlbbhfapmmcehaa", sum := "819a1cfa1d5f7c14648f27295403ba58fc659dc0e6aec235b3d94006c56155a2", checked := Try.checked }
namespace Rows
def none {H : Type} : Left H := { results := [], args := [] }

/-- 'carracklaw11.RecPuts': WHATEVER THE INPUT: true; the input reads as it did. -/
def recPutsSpec : ChangeSpec := { name := "recPuts", fn := fun _ => fun
  | [d1, d2] => { results := [.lit (.bool true)], args := [d1, d2] }
  | _ => none }
def recPutsRow : OpenClaim := { program := "ytlbbhfapmmcehaa", sum := "819a1cfa1d5f7c14648f27295403ba58fc659dc0e6aec235b3d94006c56155a2", func := "carrack/carracklaw11.RecPuts", spec := "recPuts", inPlace := ["internal/bytealg.MakeNoZero"], apart := false }
def RecPutsSaid : Prop := recPutsRow.holds Try.pinned (OpenSpec.ofChange recPutsSpec)

/-- ITS FALSE NEIGHBOUR: 'it returns false'. Refute it at one input. -/
def recPutsWrong : ChangeSpec := { name := "recPuts", fn := fun _ => fun
  | [d1, d2] => { results := [.lit (.bool false)], args := [d1, d2] }
  | _ => none }
def RecPutsWrongFalsely : Prop := recPutsRow.holds Try.pinned (OpenSpec.ofChange recPutsWrong)

/-- 'carracklaw11.RecGets': WHATEVER THE INPUT: true; the input reads as it did. -/
def recGetsSpec : ChangeSpec := { name := "recGets", fn := fun _ => fun
  | [d] => { results := [.lit (.bool true)], args := [d] }
  | _ => none }
def recGetsRow : OpenClaim := { program := "ytlbbhfapmmcehaa", sum := "819a1cfa1d5f7c14648f27295403ba58fc659dc0e6aec235b3d94006c56155a2", func := "carrack/carracklaw11.RecGets", spec := "recGets", inPlace := ["internal/bytealg.MakeNoZero"], apart := false }
def RecGetsSaid : Prop := recGetsRow.holds Try.pinned (OpenSpec.ofChange recGetsSpec)

/-- ITS FALSE NEIGHBOUR: 'it returns false'. Refute it at one input. -/
def recGetsWrong : ChangeSpec := { name := "recGets", fn := fun _ => fun
  | [d] => { results := [.lit (.bool false)], args := [d] }
  | _ => none }
def RecGetsWrongFalsely : Prop := recGetsRow.holds Try.pinned (OpenSpec.ofChange recGetsWrong)

/-- 'carracklaw11.RecDrops': WHATEVER THE INPUT: true; the input reads as it did. -/
def recDropsSpec : ChangeSpec := { name := "recDrops", fn := fun _ => fun
  | [d1, d2, d3] => { results := [.lit (.bool true)], args := [d1, d2, d3] }
  | _ => none }
def recDropsRow : OpenClaim := { program := "ytlbbhfapmmcehaa", sum := "819a1cfa1d5f7c14648f27295403ba58fc659dc0e6aec235b3d94006c56155a2", func := "carrack/carracklaw11.RecDrops", spec := "recDrops", inPlace := ["internal/bytealg.MakeNoZero"], apart := false }
def RecDropsSaid : Prop := recDropsRow.holds Try.pinned (OpenSpec.ofChange recDropsSpec)

/-- ITS FALSE NEIGHBOUR: 'it returns false'. Refute it at one input. -/
def recDropsWrong : ChangeSpec := { name := "recDrops", fn := fun _ => fun
  | [d1, d2, d3] => { results := [.lit (.bool false)], args := [d1, d2, d3] }
  | _ => none }
def RecDropsWrongFalsely : Prop := recDropsRow.holds Try.pinned (OpenSpec.ofChange recDropsWrong)

/-- 'carracklaw11.RecBack': WHATEVER THE INPUT: true; the input reads as it did. -/
def recBackSpec : ChangeSpec := { name := "recBack", fn := fun _ => fun
  | [d1, d2, d3, d4] => { results := [.lit (.bool true)], args := [d1, d2, d3, d4] }
  | _ => none }
def recBackRow : OpenClaim := { program := "ytlbbhfapmmcehaa", sum := "819a1cfa1d5f7c14648f27295403ba58fc659dc0e6aec235b3d94006c56155a2", func := "carrack/carracklaw11.RecBack", spec := "recBack", inPlace := ["internal/bytealg.MakeNoZero"], apart := false }
def RecBackSaid : Prop := recBackRow.holds Try.pinned (OpenSpec.ofChange recBackSpec)

/-- ITS FALSE NEIGHBOUR: 'it returns false'. Refute it at one input. -/
def recBackWrong : ChangeSpec := { name := "recBack", fn := fun _ => fun
  | [d1, d2, d3, d4] => { results := [.lit (.bool false)], args := [d1, d2, d3, d4] }
  | _ => none }
def RecBackWrongFalsely : Prop := recBackRow.holds Try.pinned (OpenSpec.ofChange recBackWrong)

/-- 'carracklaw11.RecCut': WHATEVER THE INPUT: true; the input reads as it did. -/
def recCutSpec : ChangeSpec := { name := "recCut", fn := fun _ => fun
  | [d1, d2] => { results := [.lit (.bool true)], args := [d1, d2] }
  | _ => none }
def recCutRow : OpenClaim := { program := "ytlbbhfapmmcehaa", sum := "819a1cfa1d5f7c14648f27295403ba58fc659dc0e6aec235b3d94006c56155a2", func := "carrack/carracklaw11.RecCut", spec := "recCut", inPlace := ["internal/bytealg.MakeNoZero"], apart := false }
def RecCutSaid : Prop := recCutRow.holds Try.pinned (OpenSpec.ofChange recCutSpec)

/-- ITS FALSE NEIGHBOUR: 'it returns false'. Refute it at one input. -/
def recCutWrong : ChangeSpec := { name := "recCut", fn := fun _ => fun
  | [d1, d2] => { results := [.lit (.bool false)], args := [d1, d2] }
  | _ => none }
def RecCutWrongFalsely : Prop := recCutRow.holds Try.pinned (OpenSpec.ofChange recCutWrong)

/-- 'carracklaw11.RecFresh': WHATEVER THE INPUT: true; the input reads as it did. -/
def recFreshSpec : ChangeSpec := { name := "recFresh", fn := fun _ => fun
  | [d1, d2, d3] => { results := [.lit (.bool true)], args := [d1, d2, d3] }
  | _ => none }
def recFreshRow : OpenClaim := { program := "ytlbbhfapmmcehaa", sum := "819a1cfa1d5f7c14648f27295403ba58fc659dc0e6aec235b3d94006c56155a2", func := "carrack/carracklaw11.RecFresh", spec := "recFresh", inPlace := ["internal/bytealg.MakeNoZero"], apart := false }
def RecFreshSaid : Prop := recFreshRow.holds Try.pinned (OpenSpec.ofChange recFreshSpec)

/-- ITS FALSE NEIGHBOUR: 'it returns false'. Refute it at one input. -/
def recFreshWrong : ChangeSpec := { name := "recFresh", fn := fun _ => fun
  | [d1, d2, d3] => { results := [.lit (.bool false)], args := [d1, d2, d3] }
  | _ => none }
def RecFreshWrongFalsely : Prop := recFreshRow.holds Try.pinned (OpenSpec.ofChange recFreshWrong)

/- THE SECOND FORM. 'bulk': how many values and letters a reading holds, each counted each time it is reached (what is shared counts as often as it is met; a slice's spare places count too). A statement '..UptoSaid' is the law's where the arguments, and the package variables that the reading takes, are together of bulk at most 1048576: NARROWER than '..Said'. Prove '..Said' where nothing that the law and all that it calls make is longer than what came in: it says more and counts as full. Else prove '..UptoSaid'. A law counts once. -/
mutual
def uptoBulk {H : Type} : DataW H → Nat
  | .lit (.string bytes) => bytes.length + 1
  | .lit _ => 1
  | .nil => 1
  | .ptr d => uptoBulk d + 1
  | .slice elems spare => uptoBulkAll elems + uptoBulkAll spare + 1
  | .agg parts => uptoBulkAll parts + 1
  | .iface _ d => uptoBulk d + 1
  | .map entries => uptoBulkEntries entries + 1
  | .held _ => 1
def uptoBulkAll {H : Type} : List (DataW H) → Nat
  | [] => 0
  | d :: r => uptoBulk d + uptoBulkAll r
def uptoBulkEntries {H : Type} : List (Lit × DataW H) → Nat
  | [] => 0
  | x :: r => uptoBulkEntry x + uptoBulkEntries r
def uptoBulkEntry {H : Type} : Lit × DataW H → Nat
  | (.string bytes, d) => bytes.length + uptoBulk d + 1
  | (_, d) => uptoBulk d + 1
 end
def uptoSmall : (H : Type) → List (DataW H) → Bool := fun _ ds => decide (uptoBulkAll ds ≤ 1048576)
def OpenSpec.upto (s : _root_.Go.ChangeSpec) : _root_.Go.OpenSpec := { _root_.Go.OpenSpec.ofChange s with cond := some uptoSmall }

/-- 'carracklaw11.RecPuts', WHERE WHAT IT READS IS OF BULK AT MOST 1048576: true; the input reads as it did. -/
def recPutsUptoRow : OpenClaim := { program := "ytlbbhfapmmcehaa", sum := "819a1cfa1d5f7c14648f27295403ba58fc659dc0e6aec235b3d94006c56155a2", func := "carrack/carracklaw11.RecPuts", spec := "recPuts", inPlace := ["internal/bytealg.MakeNoZero"], apart := false, narrowed := true }
def RecPutsUptoSaid : Prop := recPutsUptoRow.holds Try.pinned (OpenSpec.upto recPutsSpec)

/-- 'carracklaw11.RecGets', WHERE WHAT IT READS IS OF BULK AT MOST 1048576: true; the input reads as it did. -/
def recGetsUptoRow : OpenClaim := { program := "ytlbbhfapmmcehaa", sum := "819a1cfa1d5f7c14648f27295403ba58fc659dc0e6aec235b3d94006c56155a2", func := "carrack/carracklaw11.RecGets", spec := "recGets", inPlace := ["internal/bytealg.MakeNoZero"], apart := false, narrowed := true }
def RecGetsUptoSaid : Prop := recGetsUptoRow.holds Try.pinned (OpenSpec.upto recGetsSpec)

/-- 'carracklaw11.RecDrops', WHERE WHAT IT READS IS OF BULK AT MOST 1048576: true; the input reads as it did. -/
def recDropsUptoRow : OpenClaim := { program := "ytlbbhfapmmcehaa", sum := "819a1cfa1d5f7c14648f27295403ba58fc659dc0e6aec235b3d94006c56155a2", func := "carrack/carracklaw11.RecDrops", spec := "recDrops", inPlace := ["internal/bytealg.MakeNoZero"], apart := false, narrowed := true }
def RecDropsUptoSaid : Prop := recDropsUptoRow.holds Try.pinned (OpenSpec.upto recDropsSpec)

/-- 'carracklaw11.RecBack', WHERE WHAT IT READS IS OF BULK AT MOST 1048576: true; the input reads as it did. -/
def recBackUptoRow : OpenClaim := { program := "ytlbbhfapmmcehaa", sum := "819a1cfa1d5f7c14648f27295403ba58fc659dc0e6aec235b3d94006c56155a2", func := "carrack/carracklaw11.RecBack", spec := "recBack", inPlace := ["internal/bytealg.MakeNoZero"], apart := false, narrowed := true }
def RecBackUptoSaid : Prop := recBackUptoRow.holds Try.pinned (OpenSpec.upto recBackSpec)

/-- 'carracklaw11.RecCut', WHERE WHAT IT READS IS OF BULK AT MOST 1048576: true; the input reads as it did. -/
def recCutUptoRow : OpenClaim := { program := "ytlbbhfapmmcehaa", sum := "819a1cfa1d5f7c14648f27295403ba58fc659dc0e6aec235b3d94006c56155a2", func := "carrack/carracklaw11.RecCut", spec := "recCut", inPlace := ["internal/bytealg.MakeNoZero"], apart := false, narrowed := true }
def RecCutUptoSaid : Prop := recCutUptoRow.holds Try.pinned (OpenSpec.upto recCutSpec)

/-- 'carracklaw11.RecFresh', WHERE WHAT IT READS IS OF BULK AT MOST 1048576: true; the input reads as it did. -/
def recFreshUptoRow : OpenClaim := { program := "ytlbbhfapmmcehaa", sum := "819a1cfa1d5f7c14648f27295403ba58fc659dc0e6aec235b3d94006c56155a2", func := "carrack/carracklaw11.RecFresh", spec := "recFresh", inPlace := ["internal/bytealg.MakeNoZero"], apart := false, narrowed := true }
def RecFreshUptoSaid : Prop := recFreshUptoRow.holds Try.pinned (OpenSpec.upto recFreshSpec)

end Rows
end Go.Proofs.Ytlbbhfapmmcehaa
