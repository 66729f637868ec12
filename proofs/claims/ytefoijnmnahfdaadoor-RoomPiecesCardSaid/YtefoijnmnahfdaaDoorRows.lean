/-
  NARROWER THAN 'FOR EVERY INPUT', by the rows' own cells (each row's printed sentence says how): RoomRises: laid · RoomTurn: laid · RoomPieces: laid.
  DERIVED. THE GIVEN ROWS OF THIS SEAT. 3 by the template 'for every input the law returns true; each argument reads behind the call as it read before'; 0 by the template 'total and deterministic' (their statements: YtefoijnmnahfdaaDoorTotals.lean).
  GIVEN WITH THE SEED: the statements are not yours to turn. If you find one false, say at which input.
  Laid BY PROGRAM, IN A SANDBOX (cutbox-rows.mjs): the forced cells as the released guide's own fill.sh prints them over the translation 455f873e27c399eb… (all of the seat's roots in one cut). By AI agents, Wed Nov 11 2026. No macro, syntax, notation, axiom, sorry.
-/
import Derived.Test.YtefoijnmnahfdaaDoorChecked
import GoSem.Claim
import GoSem.ClaimJoined
import GoSem.ClaimMapViews
import Derived.JoinedTies
import Derived.KernelRfl
namespace Go.Proofs.YtefoijnmnahfdaaDoor
/- THE CELL 'sum', in the pinned program and in every row, IS THE sha256 OF THE DUMP (.gsa) THAT YtefoijnmnahfdaaDoorProg.lean LOADS. Nothing in Lean hashes anything: it is a label: what it is worth is what the hold of that sum in a sandbox is worth. -/
noncomputable def Tryd.pinned : Pinned := { name := "ytefoijnmnahfdaadoor", sum := "455f873e27c399eba5638a83bd3b0defa2df4743c25bc9973d6305b773ef773d", checked := Tryd.checked }
namespace Rows
def none {H : Type} : Left H := { results := [], args := [] }

/- WHAT THE LISTED PACKAGE-LEVEL VARIABLES READ AS WHEN THE CALL BEGINS. Each datum BY PROGRAM (the guide's laid-datum.mjs) off the statement by which the dump's own 'gosem.cut.vars' lays the variable. In a bare row this is a premise. The card (YtefoijnmnahfdaaDoorCards.lean) ties it to the program's text. -/
def laid_carrack_room_bounds {H : Type} : DataW H := .agg [.agg [.lit (.int .i64 8), .lit (.int .i64 64)], .agg [.lit (.int .i64 4), .lit (.int .i64 32)], .agg [.lit (.int .i64 128), .lit (.int .i64 256)], .agg [.lit (.int .i64 0), .lit (.int .i64 4)]]

/-- 'carracklaw10.RoomRises': WHATEVER THE INPUT: true; the input reads as it did. -/
def roomRisesSpec : ChangeSpec := { name := "roomRises", fn := fun _ => fun
  | [d1, d2, d3] => { results := [.lit (.bool true)], args := [d1, d2, d3] }
  | _ => none }
def roomRisesRow : OpenClaim := { program := "ytefoijnmnahfdaadoor", sum := "455f873e27c399eba5638a83bd3b0defa2df4743c25bc9973d6305b773ef773d", func := "carrack/carracklaw10.RoomRises", spec := "roomRises", named := ["carrack/room.bounds"], apart := false, laid := [("carrack/room.bounds", laid_carrack_room_bounds)] }
def RoomRisesSaid : Prop := roomRisesRow.holds Tryd.pinned (OpenSpec.ofChange roomRisesSpec)

/-- ITS FALSE NEIGHBOUR: 'it returns false'. Refute it at one input. -/
def roomRisesWrong : ChangeSpec := { name := "roomRises", fn := fun _ => fun
  | [d1, d2, d3] => { results := [.lit (.bool false)], args := [d1, d2, d3] }
  | _ => none }
def RoomRisesWrongFalsely : Prop := roomRisesRow.holds Tryd.pinned (OpenSpec.ofChange roomRisesWrong)

/-- 'carracklaw10.RoomTurn': WHATEVER THE INPUT: true; the input reads as it did. -/
def roomTurnSpec : ChangeSpec := { name := "roomTurn", fn := fun _ => fun
  | [d1, d2, d3] => { results := [.lit (.bool true)], args := [d1, d2, d3] }
  | _ => none }
def roomTurnRow : OpenClaim := { program := "ytefoijnmnahfdaadoor", sum := "455f873e27c399eba5638a83bd3b0defa2df4743c25bc9973d6305b773ef773d", func := "carrack/carracklaw10.RoomTurn", spec := "roomTurn", named := ["carrack/room.bounds"], apart := false, laid := [("carrack/room.bounds", laid_carrack_room_bounds)] }
def RoomTurnSaid : Prop := roomTurnRow.holds Tryd.pinned (OpenSpec.ofChange roomTurnSpec)

/-- ITS FALSE NEIGHBOUR: 'it returns false'. Refute it at one input. -/
def roomTurnWrong : ChangeSpec := { name := "roomTurn", fn := fun _ => fun
  | [d1, d2, d3] => { results := [.lit (.bool false)], args := [d1, d2, d3] }
  | _ => none }
def RoomTurnWrongFalsely : Prop := roomTurnRow.holds Tryd.pinned (OpenSpec.ofChange roomTurnWrong)

/-- 'carracklaw10.RoomPieces': WHATEVER THE INPUT: true; the input reads as it did. -/
def roomPiecesSpec : ChangeSpec := { name := "roomPieces", fn := fun _ => fun
  | [d] => { results := [.lit (.bool true)], args := [d] }
  | _ => none }
def roomPiecesRow : OpenClaim := { program := "ytefoijnmnahfdaadoor", sum := "455f873e27c399eba5638a83bd3b0defa2df4743c25bc9973d6305b773ef773d", func := "carrack/carracklaw10.RoomPieces", spec := "roomPieces", named := ["carrack/room.bounds"], apart := false, laid := [("carrack/room.bounds", laid_carrack_room_bounds)] }
def RoomPiecesSaid : Prop := roomPiecesRow.holds Tryd.pinned (OpenSpec.ofChange roomPiecesSpec)

/-- ITS FALSE NEIGHBOUR: 'it returns false'. Refute it at one input. -/
def roomPiecesWrong : ChangeSpec := { name := "roomPieces", fn := fun _ => fun
  | [d] => { results := [.lit (.bool false)], args := [d] }
  | _ => none }
def RoomPiecesWrongFalsely : Prop := roomPiecesRow.holds Tryd.pinned (OpenSpec.ofChange roomPiecesWrong)

/- THE SECOND FORM. 'bulk': how many values and letters a reading holds, each counted each time it is reached (what is shared counts as often as it is met; a slice's spare places count too). A statement '..UptoSaid' is the law's where the arguments, and the package variables that the reading takes, are together of bulk at most 1048576: NARROWER than '..Said'. Prove '..Said' where nothing that the law and all that it calls make is longer than what came in: it says more and counts as full. Else prove '..UptoSaid'. A law counts once. -/
mutual
def uptoBulk {H : Type} : DataW H → Nat
  | .lit (.string bytes) => bytes.length + 1
  | .lit _ => 1
  | .nil => 1
  | .ptr d => uptoBulk d + 1
  | .slice elems spare => uptoBulkAll elems + uptoBulkAll spare + 1
  | .agg parts => uptoBulkAll parts + 1
  | .iface _ d => uptoBulk d + 1
  | .map entries => uptoBulkEntries entries + 1
  | .held _ => 1
def uptoBulkAll {H : Type} : List (DataW H) → Nat
  | [] => 0
  | d :: r => uptoBulk d + uptoBulkAll r
def uptoBulkEntries {H : Type} : List (Lit × DataW H) → Nat
  | [] => 0
  | x :: r => uptoBulkEntry x + uptoBulkEntries r
def uptoBulkEntry {H : Type} : Lit × DataW H → Nat
  | (.string bytes, d) => bytes.length + uptoBulk d + 1
  | (_, d) => uptoBulk d + 1
 end
def uptoSmall : (H : Type) → List (DataW H) → Bool := fun _ ds => decide (uptoBulkAll ds ≤ 1048576)
def OpenSpec.upto (s : _root_.Go.ChangeSpec) : _root_.Go.OpenSpec := { _root_.Go.OpenSpec.ofChange s with cond := some uptoSmall }

/-- 'carracklaw10.RoomRises', WHERE WHAT IT READS IS OF BULK AT MOST 1048576: true; the input reads as it did. -/
def roomRisesUptoRow : OpenClaim := { program := "ytefoijnmnahfdaadoor", sum := "455f873e27c399eba5638a83bd3b0defa2df4743c25bc9973d6305b773ef773d", func := "carrack/carracklaw10.RoomRises", spec := "roomRises", named := ["carrack/room.bounds"], apart := false, laid := [("carrack/room.bounds", laid_carrack_room_bounds)], narrowed := true }
def RoomRisesUptoSaid : Prop := roomRisesUptoRow.holds Tryd.pinned (OpenSpec.upto roomRisesSpec)

/-- 'carracklaw10.RoomTurn', WHERE WHAT IT READS IS OF BULK AT MOST 1048576: true; the input reads as it did. -/
def roomTurnUptoRow : OpenClaim := { program := "ytefoijnmnahfdaadoor", sum := "455f873e27c399eba5638a83bd3b0defa2df4743c25bc9973d6305b773ef773d", func := "carrack/carracklaw10.RoomTurn", spec := "roomTurn", named := ["carrack/room.bounds"], apart := false, laid := [("carrack/room.bounds", laid_carrack_room_bounds)], narrowed := true }
def RoomTurnUptoSaid : Prop := roomTurnUptoRow.holds Tryd.pinned (OpenSpec.upto roomTurnSpec)

/-- 'carracklaw10.RoomPieces', WHERE WHAT IT READS IS OF BULK AT MOST 1048576: true; the input reads as it did. -/
def roomPiecesUptoRow : OpenClaim := { program := "ytefoijnmnahfdaadoor", sum := "455f873e27c399eba5638a83bd3b0defa2df4743c25bc9973d6305b773ef773d", func := "carrack/carracklaw10.RoomPieces", spec := "roomPieces", named := ["carrack/room.bounds"], apart := false, laid := [("carrack/room.bounds", laid_carrack_room_bounds)], narrowed := true }
def RoomPiecesUptoSaid : Prop := roomPiecesUptoRow.holds Tryd.pinned (OpenSpec.upto roomPiecesSpec)

end Rows
end Go.Proofs.YtefoijnmnahfdaaDoor
