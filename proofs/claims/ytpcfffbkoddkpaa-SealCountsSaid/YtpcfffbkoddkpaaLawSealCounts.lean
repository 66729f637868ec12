/-
  SealCounts: noughts, what is blank, what is less, are the document's; for every bytes a and b.
-/
import Derived.Test.YtpcfffbkoddkpaaSl
namespace Go.Proofs.Ytpcfffbkoddkpaa.sealCounts
open Go.ChangeShapes Go.WideShapes Go.ChangeAt Go.RowKit

theorem own : ownKnob Try.prog.godebug = none := by kernel_rfl
theorem laidOut : laidOutB Try.prog = true := by kernel_rfl

set_option maxHeartbeats 1000000 in
theorem walk (A0 : Option Addr) (n0 c0 : Nat) (l0 : List Nat) (A1 : Option Addr) (n1 c1 : Nat) (l1 : List Nat) (w : World)
    (b0 : IsB w (.slice A0 n0 c0) A0 n0 c0 l0) (b1 : IsB w (.slice A1 n1 c1) A1 n1 c1 l1) :
    Calls Try.prog 5 #[.slice A0 n0 c0, .slice A1 n1 c1] w (True1 w) := by
  have h0 : n0 ≤ 140737488351232 := by have := b0.le; have := b0.cap; omega
  have H0 := Lib.hid b0.bts
  have H1 := Lib.hid b1.bts
  have K0 : Hid (New w w) := Kept.refl _ _
  generalize eN : noughts l0 = no
  generalize eB : blank l0 = bl
  generalize eL : less l0 l1 = ls
  have EN := Lib.hid eN
  have EB := Lib.hid eB
  have EL := Lib.hid eL
  clear b0 b1 eN eB eL
  go_enter Try.func5, Try.ntmps5
  go_wp2_with fail
  refine (sNoughts_v A0 n0 c0 l0 _ H0.out (by omega) no EN.out).mono ?_
  rintro e w' ⟨rfl, rfl⟩
  go_wp2_with fail
  refine (rNoughts_v A0 n0 c0 l0 _ H0.out (by omega) no EN.out).mono ?_
  rintro e w' ⟨rfl, rfl⟩
  go_wp2_with fail
  refine (sBlank_v A0 n0 c0 l0 _ H0.out (by unfold maxLen; omega) bl EB.out).mono ?_
  rintro e w' ⟨rfl, rfl⟩
  go_wp2_with fail
  refine (rBlank_v A0 n0 c0 l0 _ H0.out (by omega) bl EB.out).mono ?_
  rintro e w' ⟨rfl, rfl⟩
  go_wp2_with fail
  refine (sLess_k A0 A1 n0 n1 c0 c1 l0 l1 K0 H0 H1 h0 ls EL.out).mono ?_
  rintro e w2 ⟨rfl, K2⟩
  go_wp2_with fail
  refine (rLess_k A0 A1 n0 n1 c0 c1 l0 l1 K2 H0 H1 h0 ls EL.out).mono ?_
  rintro e w3 ⟨rfl, K3⟩
  clear K0 K2
  go_wp2_with fail
  refine (works_k K3).mono ?_
  rintro e w9 ⟨rfl, Kl⟩
  go_wp2
  go_ret
  exact ⟨rfl, Kl⟩

set_option maxRecDepth 100000 in
theorem lifted (os : Os) (started : os.Started) (H : Type) (enc : TypeId × Value → H) :
    ReturnsInHanded {} Try.checked os 5 .any (Rows.sealCountsSpec.pre6 enc Try.prog Try.f5 Rows.sealCountsRow.domain false) (Rows.sealCountsSpec.post enc Try.prog Try.f5 false true false false) := by
  refine lift_new (C := Try.checked) (s := Rows.sealCountsSpec) (tb := 4) own started (by kernel_rfl) Try.func5
    (ChangeSpec.witness6 (enc := enc) (C := Try.checked) false ⟨#[], #[.slice none 0 0, .slice none 0 0], []⟩ 8 (by kernel_rfl) (by kernel_rfl) (by kernel_rfl) (by kernel_rfl))
    rfl (by kernel_rfl) Try.underlying4 ?_ laidOut (of_decide_eq_true (by kernel_rfl)) ?_
  · intro ds hd
    match ds, hd with
    | [d0, d1], _ => exact ⟨rfl, rfl, rfl⟩
  · intro W base args ds hA
    have hA : Args enc Try.prog W base Try.f5.params.toList args.toList ds := hA
    rw [Try.params5] at hA
    obtain ⟨v0, vs0, d0, ds0, p0, hargs, rfl, a0, hA⟩ := hA.cons_
    obtain ⟨v1, vs1, d1, ds1, p1, rfl, rfl, a1, hA⟩ := hA.cons_
    obtain ⟨rfl, rfl⟩ := hA.nil_
    obtain rfl : args = #[v0, v1] := by cases args; simp_all
    obtain ⟨A0, n0, c0, l0, b0⟩ := a0.bytes_ Try.underlying22 Try.underlying5 (by kernel_rfl) (by kernel_rfl)
    obtain rfl := b0.val
    obtain ⟨A1, n1, c1, l1, b1⟩ := a1.bytes_ Try.underlying22 Try.underlying5 (by kernel_rfl) (by kernel_rfl)
    obtain rfl := b1.val
    exact walk A0 n0 c0 l0 A1 n1 c1 l1 W b0 b1

theorem over : Rows.sealCountsRow.holds Try.pinned (OpenSpec.ofChange Rows.sealCountsSpec) :=
  OpenClaim.holds_of_wide 5 Try.f5 rfl rfl rfl rfl rfl rfl rfl ⟨rfl, rfl, rfl, rfl, rfl⟩ rfl rfl rfl rfl rfl (by kernel_rfl) Try.func5 (by kernel_rfl)
    (of_decide_eq_true (by kernel_rfl)) (by unfold Func.isWrapper; first | (rw [if_pos (by decide +kernel)]; kernel_rfl) | (rw [if_neg (by decide +kernel)]; exact ⟨rfl, rfl⟩))
    (fun os started H enc _ => lifted os started H enc)

theorem proved : Rows.SealCountsSaid := over
end Go.Proofs.Ytpcfffbkoddkpaa.sealCounts
