/-
  PathParses: what is a name, and what a text's names are, is the document's, of any text; for every text of at most 1048576 letters.
-/
import Derived.Test.YtofolfginoadiaaLu
import Derived.Test.YtofolfginoadiaaVi
namespace Go.Proofs.Ytofolfginoadiaa.pathParses
open Go.ChangeShapes Go.WideShapes Go.ChangeAt Go.RowKit

theorem own : ownKnob Try.prog.godebug = none := by kernel_rfl
theorem laidOut : laidOutB Try.prog = true := by kernel_rfl

set_option maxHeartbeats 2000000 in
theorem walk (s : ByteArray) (w : World) (hm : s.size ≤ maxLen) (hs : s.size ≤ 1048576) :
    Calls Try.prog 3 #[.string s] w (True1 w) := by
  go_enter Try.func3, Try.ntmps3
  go_wp2_with fail
  refine (parse_any s _ hs).mono ?_
  rintro e w1 ⟨A1, c1, rfl, o1, k1⟩
  have O1 := Lib.hid o1
  have K1 := Lib.hid k1
  clear o1 k1
  go_wp2_with fail
  refine (rparse_any s _ hs).mono ?_
  rintro e w2 ⟨A2, c2, rfl, o2, k2⟩
  have O12 := Lib.hid (O1.out.new k2)
  have O2 := Lib.hid o2
  have K2 := Lib.hid (K1.out.new k2)
  clear o2 k2 O1 K1
  have hl6 := pN_le s.data.toList
  go_wp2_with fail
  refine (texts_any A1 A2 _ _ c1 c2 (pN s.data.toList) (pN s.data.toList) _ O12.out.txs O2.out.txs (by unfold maxLen; omega)).mono ?_
  rintro e w3 ⟨q, rfl, hw3⟩
  have K3 : Hid (New w w3) := by rw [hw3]; exact K2.out.drewN q
  clear hw3 K2 O12 O2
  cases hname : nameL s.data.toList with
  | true =>
    go_wp2_with (first
      | (go_at_call 11; refine (name_any s _ hm).mono ?_; rintro e w4 ⟨rfl, hw4⟩; subst w4; rw [hname])
      | (go_at_call 12; refine (rname_any s _ hm).mono ?_; rintro e w4 ⟨rfl, hw4⟩; subst w4; rw [hname])
      | (go_at_call 13; refine (lives_any _).mono ?_; rintro e w4 ⟨rfl, hk4⟩))
    go_ret
    exact ⟨rfl, K3.out.new hk4⟩
  | false =>
    go_wp2_with (first
      | (go_at_call 11; refine (name_any s _ hm).mono ?_; rintro e w4 ⟨rfl, hw4⟩; subst w4; rw [hname])
      | (go_at_call 12; refine (rname_any s _ hm).mono ?_; rintro e w4 ⟨rfl, hw4⟩; subst w4; rw [hname])
      | (go_at_call 13; refine (lives_any _).mono ?_; rintro e w4 ⟨rfl, hk4⟩))
    go_ret
    exact ⟨rfl, K3.out.new hk4⟩

set_option maxRecDepth 100000 in
theorem lifted (os : Os) (started : os.Started) (H : Type) (enc : TypeId × Value → H) (F : Stop.Interp) :
    ReturnsInHanded {} Try.checked os 3 .any ((Rows.OpenSpec.upto Rows.pathParsesSpec).pre6 enc Try.prog Try.f3 Rows.pathParsesUptoRow.domain false) (((Rows.OpenSpec.upto Rows.pathParsesSpec).at F).post enc Try.prog Try.f3 false true false false) := by
  refine lift_upto (C := Try.checked) (s := Rows.pathParsesSpec) (tb := 4) own started (by kernel_rfl) Try.func3
    (OpenSpec.witness (enc := enc) (C := Try.checked) (s := Rows.OpenSpec.upto Rows.pathParsesSpec) (k := Rows.uptoSmall) rfl false ⟨#[], #[.string .empty], []⟩ 8 (by kernel_rfl) (by kernel_rfl) (by kernel_rfl)
      (x := ([.lit (.string [])], [], [])) (by kernel_rfl) rfl (by kernel_rfl))
    rfl (by kernel_rfl) Try.underlying4 ?_ laidOut (of_decide_eq_true (by kernel_rfl)) ?_
  · intro ds hd
    match ds, hd with
    | [d0], _ => exact ⟨rfl, rfl, rfl⟩
  · intro W base args ds hA hk
    have hA : Args enc Try.prog W base Try.f3.params.toList args.toList ds := hA
    rw [Try.params3] at hA
    obtain ⟨v0, vs0, d0, ds0, p0, hargs, rfl, a0, hA⟩ := hA.cons_
    obtain ⟨rfl, rfl⟩ := hA.nil_
    obtain rfl : args = #[v0] := by cases args; simp_all
    obtain ⟨x0, rfl, rfl, b0⟩ := a0.string_ Try.underlying9
    exact walk x0 W b0 (small1 hk)

theorem proved : Rows.PathParsesUptoSaid :=
  OpenClaim.holds_of_cond 3 Try.f3 rfl rfl rfl rfl rfl rfl rfl ⟨rfl, rfl, rfl, rfl, rfl⟩ rfl rfl rfl rfl rfl (by kernel_rfl) Try.func3 (by kernel_rfl)
    (of_decide_eq_true (by kernel_rfl)) (by unfold Func.isWrapper; first | (rw [if_pos (by decide +kernel)]; kernel_rfl) | (rw [if_neg (by decide +kernel)]; exact ⟨rfl, rfl⟩))
    (fun os started H enc _ F => lifted os started H enc F)
end Go.Proofs.Ytofolfginoadiaa.pathParses
