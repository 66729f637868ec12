/-
  DERIVED. GIVEN WITH THE SEED: THE CARDS: each row of YtefoijnmnahfdaaDoorRows.lean that lists a variable, with what it lists TIED to the program's text (the seventh form; the later family's looks); each row that meets fmt, with fmt's text TOLD by the authors' own Lean function (tested against real Go, not proved from fmt's source: count such statements apart). THE CARD IS WHAT COUNTS. Prove the row's statement (the work); the ties are given (YtefoijnmnahfdaaDoorTie.lean); close each card by the builder's one call (the guide's Derived/Test/ToyasCard.lean, 'card_holds'). Laid BY PROGRAM, IN A SANDBOX (cutbox-door.mjs). By AI agents, Wed Nov 11 2026. No macro, syntax, notation, axiom, sorry.
-/
import Derived.Test.YtefoijnmnahfdaaDoorRows
import GoSem.ClaimSeven
namespace Go.Proofs.YtefoijnmnahfdaaDoor
namespace Rows

/-- THE TIED CARD OF 'carracklaw10.RoomRises'. -/
def roomRisesCard : Claim7 := { stood := { row := roomRisesRow, standIns := [], harness := (true, "3546d34766e38c7690a79831c54a639a2105683536f04f2ba2d839b3117733d3"), looks := false }, kinds := [], alts := [], laidByText := true, laidKinds := [.wider], laidTests := true, laidLooks := .later }
def RoomRisesCardSaid : Prop := Claim7.holds Tryd.pinned (.plain (OpenSpec.ofChange roomRisesSpec)) roomRisesCard

/-- THE TIED CARD OF 'carracklaw10.RoomTurn'. -/
def roomTurnCard : Claim7 := { stood := { row := roomTurnRow, standIns := [], harness := (true, "3546d34766e38c7690a79831c54a639a2105683536f04f2ba2d839b3117733d3"), looks := false }, kinds := [], alts := [], laidByText := true, laidKinds := [.wider], laidTests := true, laidLooks := .later }
def RoomTurnCardSaid : Prop := Claim7.holds Tryd.pinned (.plain (OpenSpec.ofChange roomTurnSpec)) roomTurnCard

/-- THE TIED CARD OF 'carracklaw10.RoomPieces'. -/
def roomPiecesCard : Claim7 := { stood := { row := roomPiecesRow, standIns := [], harness := (true, "3546d34766e38c7690a79831c54a639a2105683536f04f2ba2d839b3117733d3"), looks := false }, kinds := [], alts := [], laidByText := true, laidKinds := [.wider], laidTests := true, laidLooks := .later }
def RoomPiecesCardSaid : Prop := Claim7.holds Tryd.pinned (.plain (OpenSpec.ofChange roomPiecesSpec)) roomPiecesCard

/-- THE SECOND FORM's CARD OF 'carracklaw10.RoomRises'. -/
def roomRisesUptoCard : Claim7 := { stood := { row := roomRisesUptoRow, standIns := [], harness := (true, "3546d34766e38c7690a79831c54a639a2105683536f04f2ba2d839b3117733d3"), looks := false }, kinds := [], alts := [], laidByText := true, laidKinds := [.wider], laidTests := true, laidLooks := .later }
def RoomRisesUptoCardSaid : Prop := Claim7.holds Tryd.pinned (.plain (OpenSpec.upto roomRisesSpec)) roomRisesUptoCard

/-- THE SECOND FORM's CARD OF 'carracklaw10.RoomTurn'. -/
def roomTurnUptoCard : Claim7 := { stood := { row := roomTurnUptoRow, standIns := [], harness := (true, "3546d34766e38c7690a79831c54a639a2105683536f04f2ba2d839b3117733d3"), looks := false }, kinds := [], alts := [], laidByText := true, laidKinds := [.wider], laidTests := true, laidLooks := .later }
def RoomTurnUptoCardSaid : Prop := Claim7.holds Tryd.pinned (.plain (OpenSpec.upto roomTurnSpec)) roomTurnUptoCard

/-- THE SECOND FORM's CARD OF 'carracklaw10.RoomPieces'. -/
def roomPiecesUptoCard : Claim7 := { stood := { row := roomPiecesUptoRow, standIns := [], harness := (true, "3546d34766e38c7690a79831c54a639a2105683536f04f2ba2d839b3117733d3"), looks := false }, kinds := [], alts := [], laidByText := true, laidKinds := [.wider], laidTests := true, laidLooks := .later }
def RoomPiecesUptoCardSaid : Prop := Claim7.holds Tryd.pinned (.plain (OpenSpec.upto roomPiecesSpec)) roomPiecesUptoCard
end Rows
end Go.Proofs.YtefoijnmnahfdaaDoor
