/-
  PathJoins: any names, joined, are the document's, and what is handed in stays; for every list of texts.
-/
import Derived.Test.YtofolfginoadiaaLu
import Derived.Test.YtofolfginoadiaaVi
namespace Go.Proofs.Ytofolfginoadiaa.pathJoins
open Go.ChangeShapes Go.WideShapes Go.ChangeAt Go.RowKit

theorem own : ownKnob Try.prog.godebug = none := by kernel_rfl
theorem laidOut : laidOutB Try.prog = true := by kernel_rfl

set_option maxHeartbeats 2000000 in
theorem walk (A : Option Addr) (n c : Nat) (g : List (List UInt8)) (w : World) (h : IsX w (.slice A n c) A n c g) :
    Calls Try.prog 4 #[.slice A n c] w (True1 w) := by
  have hle := h.le
  have hcap := h.cap
  have hn : n ≤ maxLen := by unfold maxLen; omega
  have HT := Lib.hid h.txs
  have HX := Lib.hid h.each
  have hg := Lib.hid h.txs.len
  clear h
  go_enter Try.func4, Try.ntmps4
  go_wp2_with (first
    | (at_builtin; refine wpList_append_tx _ rfl _ _ rfl w.heap.size none 0 0 [] rfl (OwnT.nil _ _) rfl A n c g rfl HT.out (by omega) (Nat.le_refl _) ?_)
    | fail)
  intro A1 c1 w1 O1 g1
  have K1 : Hid (New w w1) := Lib.hid ((Kept.refl _ _).grown g1.out (by simp))
  have HT1 := Lib.hid (HT.out.new K1.out)
  have X1 : Hid (Txs w1 A1 n g) := by have := O1.out.txs; rw [hg.out] at this; exact this
  have hc1 : n ≤ c1 := by have := O1.out.le; rw [hg.out] at this; exact this.1
  clear g1 O1 HT
  go_wp2_with fail
  refine (join_any A1 n c1 g _ X1.out hn hc1 HX.out).mono ?_
  rintro e w2 ⟨rfl, k2⟩
  have HT2 := Lib.hid (HT1.out.new k2)
  have X2 := Lib.hid (X1.out.new k2)
  have K2 := Lib.hid (K1.out.new k2)
  clear k2 HT1 X1 K1
  go_wp2_with fail
  refine (rjoin_any A n c g _ HT2.out hn HX.out).mono ?_
  rintro e w3 ⟨rfl, k3⟩
  have HT3 := Lib.hid (HT2.out.new k3)
  have X3 := Lib.hid (X2.out.new k3)
  have K3 := Lib.hid (K2.out.new k3)
  clear k3 HT2 X2 K2
  go_wp2_with (first
    | (go_at_call 10; refine (texts_any A1 A n n c1 c g g _ X3.out HT3.out hn).mono ?_; rintro e w4 ⟨q, rfl, hw4⟩; have K4 : Hid (New w w4) := (by rw [hw4]; exact K3.out.drewN q); clear hw4)
    | (go_at_call 13; refine (lives_any _).mono ?_; rintro e w5 ⟨rfl, hk5⟩))
  go_ret
  exact ⟨rfl, K4.out.new hk5⟩

set_option maxRecDepth 100000 in
theorem lifted (os : Os) (started : os.Started) (H : Type) (enc : TypeId × Value → H) :
    ReturnsInHanded {} Try.checked os 4 .any (Rows.pathJoinsSpec.pre6 enc Try.prog Try.f4 Rows.pathJoinsRow.domain false) (Rows.pathJoinsSpec.post enc Try.prog Try.f4 false true false false) := by
  refine lift_new (C := Try.checked) (s := Rows.pathJoinsSpec) (tb := 4) own started (by kernel_rfl) Try.func4
    (ChangeSpec.witness6 (enc := enc) (C := Try.checked) false ⟨#[], #[.slice none 0 0], []⟩ 8 (by kernel_rfl) (by kernel_rfl) (by kernel_rfl) (by kernel_rfl))
    rfl (by kernel_rfl) Try.underlying4 ?_ laidOut (of_decide_eq_true (by kernel_rfl)) ?_
  · intro ds hd
    match ds, hd with
    | [d0], _ => exact ⟨rfl, rfl, rfl⟩
  · intro W base args ds hA
    have hA : Args enc Try.prog W base Try.f4.params.toList args.toList ds := hA
    rw [Try.params4] at hA
    obtain ⟨v0, vs0, d0, ds0, p0, hargs, rfl, a0, hA⟩ := hA.cons_
    obtain ⟨rfl, rfl⟩ := hA.nil_
    obtain rfl : args = #[v0] := by cases args; simp_all
    obtain ⟨A0, n0, c0, l0, b0⟩ := a0.texts_ Try.underlying22 Try.underlying9 (by kernel_rfl) (by kernel_rfl)
    obtain rfl := b0.val
    exact walk A0 n0 c0 l0 W b0

theorem over : Rows.pathJoinsRow.holds Try.pinned (OpenSpec.ofChange Rows.pathJoinsSpec) :=
  OpenClaim.holds_of_wide 4 Try.f4 rfl rfl rfl rfl rfl rfl rfl ⟨rfl, rfl, rfl, rfl, rfl⟩ rfl rfl rfl rfl rfl (by kernel_rfl) Try.func4 (by kernel_rfl)
    (of_decide_eq_true (by kernel_rfl)) (by unfold Func.isWrapper; first | (rw [if_pos (by decide +kernel)]; kernel_rfl) | (rw [if_neg (by decide +kernel)]; exact ⟨rfl, rfl⟩))
    (fun os started H enc _ => lifted os started H enc)

theorem proved : Rows.PathJoinsSaid := over
end Go.Proofs.Ytofolfginoadiaa.pathJoins
