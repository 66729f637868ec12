/-
  RoomPieces: a piece fits with what a step has beside it into a page's body, and eight of them are told by two bytes; for every size.
-/
import Derived.Test.YtefoijnmnahfdaaDoorCards
import Derived.Test.YtefoijnmnahfdaaDoorTie
import Derived.Test.YtefoijnmnahfdaaDoorRme
namespace Go.Proofs.YtefoijnmnahfdaaDoor.roomPieces
open Go.ChangeShapes Go.WideShapes Go.ChangeAt Go.RowKit

theorem own : ownKnob Tryd.prog.godebug = none := by kernel_rfl
theorem laidOut : laidOutB Tryd.prog = true := by kernel_rfl

set_option maxHeartbeats 1600000 in
theorem walk (s : Int) (w : World) (hB : Bd w) (_ : -9223372036854775808 ≤ s ∧ s ≤ 9223372036854775807) : Calls Tryd.prog 5 #[.int .i64 s] w (True1 w) := by
  have HB := Lib.hid hB
  clear hB
  by_cases hx : 128 ≤ s ∧ s ≤ 256
  · have e : pieceI s = s - 56 := by rw [pieceI, inB_yes hx]; rfl
    have d0 : decide (s < 128) = false := decide_eq_false (by omega)
    have d1 : decide (256 < s) = false := decide_eq_false (by omega)
    have d2 : decide (1 ≤ s - 56) = true := decide_eq_true (by omega)
    have q0 := wrapI (x := s - 56 + 51) (by omega) (by omega)
    have m0 := wrapJ (x := s - 56 + 51) (by omega) (by omega)
    have q1 := wrapI (x := s - 5) (by omega) (by omega)
    have m1 := wrapJ (x := s - 5) (by omega) (by omega)
    have q2 := wrapI (x := 8 * (s - 56)) (by omega) (by omega)
    have m2 := wrapJ (x := 8 * (s - 56)) (by omega) (by omega)
    have d3 : decide (s - 56 + 51 ≤ s - 5) = true := decide_eq_true (by omega)
    have d4 : decide (82 ≤ s - 5) = true := decide_eq_true (by omega)
    have d5 : decide (8 * (s - 56) ≤ 65535) = true := decide_eq_true (by omega)
    have d6 : decide (s - 56 ≤ 255) = true := decide_eq_true (by omega)
    have HP : Hid (∀ u, Bd u → Calls Tryd.prog 11 #[.int .i64 s] u (IntN u (s - 56))) := fun u hu => by have := piece_any s u hu; rw [e] at this; exact this
    clear hx e
    generalize s - 56 = n at *
    go_enter Tryd.func5, Tryd.ntmps5
    go_wp2_with fail
    refine (HP.out _ HB.out).mono ?_
    rintro e w2 ⟨rfl, k2⟩
    go_wp2_with (go_at_call 7; refine (works_any _ (HB.out.new k2)).mono ?_; rintro e w9 ⟨rfl, k9⟩)
    go_ret
    exact ⟨rfl, k2.new k9⟩
  · have e : pieceI s = 0 := by rw [pieceI, inB_no hx]; rfl
    by_cases h : s < 128
    · have d0 : decide (s < 128) = true := decide_eq_true h
      clear hx h
      go_enter Tryd.func5, Tryd.ntmps5
      go_wp2_with fail
      refine (piece_any _ _ HB.out).mono ?_
      rintro e w2 ⟨rfl, k2⟩
      rw [e]
      go_wp2_with (go_at_call 7; refine (works_any _ (HB.out.new k2)).mono ?_; rintro e w9 ⟨rfl, k9⟩)
      go_ret
      exact ⟨rfl, k2.new k9⟩
    · have d0 : decide (s < 128) = false := decide_eq_false h
      have d1 : decide (256 < s) = true := decide_eq_true (by omega)
      clear hx h
      go_enter Tryd.func5, Tryd.ntmps5
      go_wp2_with fail
      refine (piece_any _ _ HB.out).mono ?_
      rintro e w2 ⟨rfl, k2⟩
      rw [e]
      go_wp2_with (go_at_call 7; refine (works_any _ (HB.out.new k2)).mono ?_; rintro e w9 ⟨rfl, k9⟩)
      go_ret
      exact ⟨rfl, k2.new k9⟩

/-- A world for the witness: the settled one, with the variable as its initialiser lays it. -/
noncomputable def laidWorld (os : Os) : World :=
  { World.holding Tryd.prog os ⟨#[], #[], []⟩ with heap := (World.holding Tryd.prog os ⟨#[], #[], []⟩).heap.modify 0 fun
      | .cells _ t frozen => .cells #[.int .i64 8, .int .i64 64, .int .i64 4, .int .i64 32, .int .i64 128, .int .i64 256, .int .i64 0, .int .i64 4] t frozen
      | o => o }
theorem laid_met (os : Os) : laidMet Tryd.prog Rows.roomPiecesRow.laid ((laidWorld os).forCall (fun _ _ => 0) ⟨#[], #[.int .i64 0], []⟩).memory :=
  laidMet_of_run' 8 (by kernel_rfl) (by kernel_rfl)
theorem reads (os : Os) {H : Type} (enc : TypeId × Value → H) : ∃ places, DataW.whole enc Tryd.prog ((laidWorld os).forCall (fun _ _ => 0) ⟨#[], #[.int .i64 0], []⟩).memory Tryd.f5.params.toList Rows.roomPiecesSpec.vars false (#[.int .i64 0] : Array Value).toList 8 = some ([.lit (.int .i64 0)], [], places) :=
  ⟨[], by kernel_rfl⟩

set_option maxRecDepth 100000 in
theorem lifted (os : Os) (started : os.Started) (H : Type) (enc : TypeId × Value → H) (F : Stop.Interp) :
    ReturnsInHanded {} Tryd.checked os 5 .any ((OpenSpec.ofChange Rows.roomPiecesSpec).preRow enc Tryd.prog Tryd.f5 Rows.roomPiecesRow.domain false Rows.roomPiecesRow.laid) (((OpenSpec.ofChange Rows.roomPiecesSpec).at F).post enc Tryd.prog Tryd.f5 false true false false) := by
  obtain ⟨places, hx⟩ := reads os enc
  refine lift_row (C := Tryd.checked) (s := Rows.roomPiecesSpec) (tb := 4) own started (by kernel_rfl) Tryd.func5
    (witness_row_at (enc := enc) (C := Tryd.checked) false (laidWorld os) #[.int .i64 0] rfl (by kernel_rfl) (by kernel_rfl) (by kernel_rfl)
      (OpenSpec.preRow_of_cond 8 hx (by kernel_rfl) (fun k hk => by cases hk) (by kernel_rfl) (laid_met os)))
    rfl (by kernel_rfl) Tryd.underlying4 ?_ laidOut (of_decide_eq_true (by kernel_rfl)) ?_
  · intro ds hd
    match ds, hd with
    | [d0], _ => exact ⟨rfl, rfl, rfl⟩
  · intro W base args ds hA hL
    have hA : Args enc Tryd.prog W base Tryd.f5.params.toList args.toList ds := hA
    rw [Tryd.params5] at hA
    obtain ⟨v0, vs0, d0, ds0, p0, hargs, rfl, a0, hA⟩ := hA.cons_
    obtain ⟨rfl, rfl⟩ := hA.nil_
    obtain rfl : args = #[v0] := by cases args; simp_all
    obtain ⟨x0, rfl, w0⟩ := a0.int_ Tryd.underlying3
    exact walk x0 W (bd_of hL) (i64_bounds w0)

theorem said : Rows.RoomPiecesSaid :=
  OpenClaim.holds_of_cond 5 Tryd.f5 rfl rfl rfl rfl rfl rfl rfl ⟨rfl, rfl, rfl, rfl, rfl⟩ rfl rfl rfl rfl rfl (by kernel_rfl) Tryd.func5 (by kernel_rfl)
    (of_decide_eq_true (by kernel_rfl)) (by unfold Func.isWrapper; first | (rw [if_pos (by decide +kernel)]; kernel_rfl) | (rw [if_neg (by decide +kernel)]; exact ⟨rfl, rfl⟩))
    (fun os started H enc _ F => by rw [OpenClaim.pre_eq_preRow]; exact lifted os started H enc F)

/-- No parameter wants a stand-in; the program's own looks are off. -/
theorem plain (f : FuncId) (fn : Func) (hf : Tryd.pinned.checked.prog.funcNamed "carrack/carracklaw10.RoomPieces" = some f) (hfn : Tryd.pinned.checked.prog.funcs[f]? = some fn) :
    false = Tryd.pinned.checked.prog.looks [] ∧ ∀ (j : Nat) t, fn.params[j]? = some t → Tryd.pinned.checked.prog.wantsStandIn t = false := by
  obtain rfl : f = 5 := Option.some.inj ((show Tryd.prog.funcNamed "carrack/carracklaw10.RoomPieces" = some 5 by kernel_rfl).symm.trans hf) |>.symm
  obtain rfl : fn = Tryd.f5 := (Option.some.inj (Tryd.func5.symm.trans hfn)).symm
  refine ⟨by kernel_rfl, fun j t ht => ?_⟩
  rw [Tryd.params5] at ht
  have hm : t ∈ [3] := by simpa using Array.mem_of_getElem? ht
  have hall : ([3].all fun u => !Tryd.prog.wantsStandIn u) = true := by kernel_rfl
  exact (show Tryd.prog.wantsStandIn t = false by simpa using List.all_eq_true.1 hall t hm)

theorem card : Rows.RoomPiecesCardSaid :=
  Claim7.holds_tied_plain_at .later [] _ _ _ _ said (fun _ h => by cases h) (by kernel_rfl) (fun _ h => by cases h) roomPieces_row_tie rfl ⟨rfl, rfl⟩ (by kernel_rfl) rfl plain (by kernel_rfl)
end Go.Proofs.YtefoijnmnahfdaaDoor.roomPieces
