/-
  PathSplits: the last name, and what is under what, is the document's, of any texts; for every two texts of at most 1048576 letters together.
-/
import Derived.Test.YtofolfginoadiaaLu
import Derived.Test.YtofolfginoadiaaVi
namespace Go.Proofs.Ytofolfginoadiaa.pathSplits
open Go.ChangeShapes Go.WideShapes Go.ChangeAt Go.RowKit

theorem own : ownKnob Try.prog.godebug = none := by kernel_rfl
theorem laidOut : laidOutB Try.prog = true := by kernel_rfl

set_option maxHeartbeats 2000000 in
theorem walk (s t : ByteArray) (w : World) (_ : s.size ≤ maxLen) (_ : t.size ≤ maxLen) (hst : s.size ≤ 1048576 ∧ t.size ≤ 1048576) :
    Calls Try.prog 5 #[.string s, .string t] w (True1 w) := by
  obtain ⟨hs, ht⟩ := hst
  go_enter Try.func5, Try.ntmps5
  go_wp2_with fail
  refine (split_any s _ hs).mono ?_
  rintro e w1 ⟨A1, c1, rfl, x1, _, k1⟩
  have X1 := Lib.hid x1
  have K1 := Lib.hid k1
  clear x1 k1
  go_wp2_with fail
  refine (rsplit_any s _ hs).mono ?_
  rintro e w2 ⟨A2, c2, rfl, x2, _, k2⟩
  have X12 := Lib.hid (X1.out.new k2)
  have X2 := Lib.hid x2
  have K2 := Lib.hid (K1.out.new k2)
  clear x2 k2 X1 K1
  have hD : Hid ((sD s.data.toList).length ≤ maxLen) := by
    have := pN_le s.data.toList
    unfold sD
    split
    · rw [Hid, List.length_dropLast]; unfold maxLen; omega
    · simp [Hid]
  cases hu : uL s.data.toList t.data.toList
  all_goals
    go_wp2_with (first
      | (go_at_call 10; refine (texts_any A1 A2 _ _ c1 c2 _ _ _ X12.out X2.out hD.out).mono ?_; rintro e w3 ⟨q, rfl, hw3⟩; have K3 : Hid (New w w3) := (by rw [hw3]; exact K2.out.drewN q); clear hw3)
      | (go_at_call 18; refine (under_any s t _ hs ht).mono ?_; rintro e w4 ⟨rfl, k4⟩; have K4 := Lib.hid (K3.out.new k4); clear k4; rw [hu])
      | (go_at_call 19; refine (runder_any s t _ hs ht).mono ?_; rintro e w5 ⟨rfl, k5⟩; have K5 := Lib.hid (K4.out.new k5); clear k5; rw [hu])
      | (go_at_call 13; refine (lives_any _).mono ?_; rintro e w6 ⟨rfl, hk6⟩))
    go_ret
    exact ⟨rfl, K5.out.new hk6⟩

set_option maxRecDepth 100000 in
theorem lifted (os : Os) (started : os.Started) (H : Type) (enc : TypeId × Value → H) (F : Stop.Interp) :
    ReturnsInHanded {} Try.checked os 5 .any ((Rows.OpenSpec.upto Rows.pathSplitsSpec).pre6 enc Try.prog Try.f5 Rows.pathSplitsUptoRow.domain false) (((Rows.OpenSpec.upto Rows.pathSplitsSpec).at F).post enc Try.prog Try.f5 false true false false) := by
  refine lift_upto (C := Try.checked) (s := Rows.pathSplitsSpec) (tb := 4) own started (by kernel_rfl) Try.func5
    (OpenSpec.witness (enc := enc) (C := Try.checked) (s := Rows.OpenSpec.upto Rows.pathSplitsSpec) (k := Rows.uptoSmall) rfl false ⟨#[], #[.string .empty, .string .empty], []⟩ 8 (by kernel_rfl) (by kernel_rfl) (by kernel_rfl)
      (x := ([.lit (.string []), .lit (.string [])], [], [])) (by kernel_rfl) rfl (by kernel_rfl))
    rfl (by kernel_rfl) Try.underlying4 ?_ laidOut (of_decide_eq_true (by kernel_rfl)) ?_
  · intro ds hd
    match ds, hd with
    | [d0, d1], _ => exact ⟨rfl, rfl, rfl⟩
  · intro W base args ds hA hk
    have hA : Args enc Try.prog W base Try.f5.params.toList args.toList ds := hA
    rw [Try.params5] at hA
    obtain ⟨v0, vs0, d0, ds0, p0, hargs, rfl, a0, hA⟩ := hA.cons_
    obtain ⟨v1, vs1, d1, ds1, p1, rfl, rfl, a1, hA⟩ := hA.cons_
    obtain ⟨rfl, rfl⟩ := hA.nil_
    obtain rfl : args = #[v0, v1] := by cases args; simp_all
    obtain ⟨x0, rfl, rfl, b0⟩ := a0.string_ Try.underlying9
    obtain ⟨x1, rfl, rfl, b1⟩ := a1.string_ Try.underlying9
    exact walk x0 x1 W b0 b1 (small2 hk)

theorem proved : Rows.PathSplitsUptoSaid :=
  OpenClaim.holds_of_cond 5 Try.f5 rfl rfl rfl rfl rfl rfl rfl ⟨rfl, rfl, rfl, rfl, rfl⟩ rfl rfl rfl rfl rfl (by kernel_rfl) Try.func5 (by kernel_rfl)
    (of_decide_eq_true (by kernel_rfl)) (by unfold Func.isWrapper; first | (rw [if_pos (by decide +kernel)]; kernel_rfl) | (rw [if_neg (by decide +kernel)]; exact ⟨rfl, rfl⟩))
    (fun os started H enc _ F => lifted os started H enc F)
end Go.Proofs.Ytofolfginoadiaa.pathSplits
