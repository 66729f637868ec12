/-
  SealLess: what is less than one that is less is less, nothing is less than itself, of two that are less than one another none is; for every bytes a, b, c.
-/
import Derived.Test.YtpcfffbkoddkpaaSj
namespace Go.Proofs.Ytpcfffbkoddkpaa.sealLess
open Go.ChangeShapes Go.WideShapes Go.ChangeAt Go.RowKit

theorem own : ownKnob Try.prog.godebug = none := by kernel_rfl
theorem laidOut : laidOutB Try.prog = true := by kernel_rfl

set_option maxHeartbeats 1000000 in
theorem walk (A0 : Option Addr) (n0 c0 : Nat) (l0 : List Nat) (A1 : Option Addr) (n1 c1 : Nat) (l1 : List Nat) (A2 : Option Addr) (n2 c2 : Nat) (l2 : List Nat) (w : World)
    (b0 : IsB w (.slice A0 n0 c0) A0 n0 c0 l0) (b1 : IsB w (.slice A1 n1 c1) A1 n1 c1 l1) (b2 : IsB w (.slice A2 n2 c2) A2 n2 c2 l2) :
    Calls Try.prog 9 #[.slice A0 n0 c0, .slice A1 n1 c1, .slice A2 n2 c2] w (True1 w) := by
  have h0 : n0 ≤ 140737488351232 := by have := b0.le; have := b0.cap; omega
  have h1 : n1 ≤ 140737488351232 := by have := b1.le; have := b1.cap; omega
  have H0 := Lib.hid b0.bts
  have H1 := Lib.hid b1.bts
  have H2 := Lib.hid b2.bts
  have haa := Lib.hid (less_self l0)
  have hba : Hid (less l0 l1 = true → less l1 l0 = false) := less_not_both l0 l1 b0.bts.2.1 b1.bts.2.1
  have hac : Hid (less l0 l1 = true → less l1 l2 = true → less l0 l2 = true) := less_trans l0 l1 l2 b0.bts.2.1 b1.bts.2.1 b2.bts.2.1
  have hno : Hid (less l0 l1 = true → noughts l0 < noughts l1) := less_noughts l0 l1 b0.bts.2.1 b1.bts.2.1
  have K0 : Hid (New w w) := Kept.refl _ _
  clear b0 b1 b2
  by_cases hab : less l0 l1 = true
  · have ba := Lib.hid (hba.out hab)
    have hn := hno.out hab
    have ab := Lib.hid hab
    generalize e0 : noughts l0 = m0 at hn
    generalize e1 : noughts l1 = m1 at hn
    have E0 := Lib.hid e0
    have E1 := Lib.hid e1
    clear e0 e1
    by_cases hbc : less l1 l2 = true
    · have ac := Lib.hid (hac.out hab hbc)
      have bc := Lib.hid hbc
      clear hba hac hno hab hbc
      go_enter Try.func9, Try.ntmps9
      go_wp2_with fail
      refine (sLess_k A0 A0 n0 n0 c0 c0 l0 l0 K0 H0 H0 h0 false haa.out).mono ?_
      clear K0
      rintro e w' ⟨rfl, K0⟩
      go_wp2_with fail
      refine (sLess_k A0 A1 n0 n1 c0 c1 l0 l1 K0 H0 H1 h0 true ab.out).mono ?_
      clear K0
      rintro e w' ⟨rfl, K0⟩
      go_wp2_with fail
      refine (sLess_k A1 A0 n1 n0 c1 c0 l1 l0 K0 H1 H0 h1 false ba.out).mono ?_
      clear K0
      rintro e w' ⟨rfl, K0⟩
      go_wp2_with fail
      refine (sLess_k A0 A1 n0 n1 c0 c1 l0 l1 K0 H0 H1 h0 true ab.out).mono ?_
      clear K0
      rintro e w' ⟨rfl, K0⟩
      go_wp2_with fail
      refine (sLess_k A1 A2 n1 n2 c1 c2 l1 l2 K0 H1 H2 h1 true bc.out).mono ?_
      clear K0
      rintro e w' ⟨rfl, K0⟩
      go_wp2_with fail
      refine (sLess_k A0 A2 n0 n2 c0 c2 l0 l2 K0 H0 H2 h0 true ac.out).mono ?_
      clear K0
      rintro e w' ⟨rfl, K0⟩
      go_wp2_with fail
      refine (sLess_k A0 A1 n0 n1 c0 c1 l0 l1 K0 H0 H1 h0 true ab.out).mono ?_
      clear K0
      rintro e w' ⟨rfl, K0⟩
      go_wp2_with fail
      refine (sNoughts_k A0 n0 c0 l0 K0 H0 h0 m0 E0.out).mono ?_
      clear K0
      rintro e w' ⟨rfl, K0⟩
      go_wp2_with fail
      refine (sNoughts_k A1 n1 c1 l1 K0 H1 h1 m1 E1.out).mono ?_
      clear K0
      rintro e w' ⟨rfl, K0⟩
      go_wp2_with fail
      refine (works_k K0).mono ?_
      rintro e w' ⟨rfl, Kl⟩
      go_wp2
      go_ret
      exact ⟨rfl, Kl⟩
    · have bc : Hid (less l1 l2 = false) := by simpa [Hid] using hbc
      clear hba hac hno hab hbc
      go_enter Try.func9, Try.ntmps9
      go_wp2_with fail
      refine (sLess_k A0 A0 n0 n0 c0 c0 l0 l0 K0 H0 H0 h0 false haa.out).mono ?_
      clear K0
      rintro e w' ⟨rfl, K0⟩
      go_wp2_with fail
      refine (sLess_k A0 A1 n0 n1 c0 c1 l0 l1 K0 H0 H1 h0 true ab.out).mono ?_
      clear K0
      rintro e w' ⟨rfl, K0⟩
      go_wp2_with fail
      refine (sLess_k A1 A0 n1 n0 c1 c0 l1 l0 K0 H1 H0 h1 false ba.out).mono ?_
      clear K0
      rintro e w' ⟨rfl, K0⟩
      go_wp2_with fail
      refine (sLess_k A0 A1 n0 n1 c0 c1 l0 l1 K0 H0 H1 h0 true ab.out).mono ?_
      clear K0
      rintro e w' ⟨rfl, K0⟩
      go_wp2_with fail
      refine (sLess_k A1 A2 n1 n2 c1 c2 l1 l2 K0 H1 H2 h1 false bc.out).mono ?_
      clear K0
      rintro e w' ⟨rfl, K0⟩
      go_wp2_with fail
      refine (sLess_k A0 A1 n0 n1 c0 c1 l0 l1 K0 H0 H1 h0 true ab.out).mono ?_
      clear K0
      rintro e w' ⟨rfl, K0⟩
      go_wp2_with fail
      refine (sNoughts_k A0 n0 c0 l0 K0 H0 h0 m0 E0.out).mono ?_
      clear K0
      rintro e w' ⟨rfl, K0⟩
      go_wp2_with fail
      refine (sNoughts_k A1 n1 c1 l1 K0 H1 h1 m1 E1.out).mono ?_
      clear K0
      rintro e w' ⟨rfl, K0⟩
      go_wp2_with fail
      refine (works_k K0).mono ?_
      rintro e w' ⟨rfl, Kl⟩
      go_wp2
      go_ret
      exact ⟨rfl, Kl⟩
  · have ab : Hid (less l0 l1 = false) := by simpa [Hid] using hab
    clear hba hac hno hab
    go_enter Try.func9, Try.ntmps9
    go_wp2_with fail
    refine (sLess_k A0 A0 n0 n0 c0 c0 l0 l0 K0 H0 H0 h0 false haa.out).mono ?_
    clear K0
    rintro e w' ⟨rfl, K0⟩
    go_wp2_with fail
    refine (sLess_k A0 A1 n0 n1 c0 c1 l0 l1 K0 H0 H1 h0 false ab.out).mono ?_
    clear K0
    rintro e w' ⟨rfl, K0⟩
    go_wp2_with fail
    refine (sLess_k A0 A1 n0 n1 c0 c1 l0 l1 K0 H0 H1 h0 false ab.out).mono ?_
    clear K0
    rintro e w' ⟨rfl, K0⟩
    go_wp2_with fail
    refine (sLess_k A0 A1 n0 n1 c0 c1 l0 l1 K0 H0 H1 h0 false ab.out).mono ?_
    clear K0
    rintro e w' ⟨rfl, K0⟩
    go_wp2_with fail
    refine (works_k K0).mono ?_
    rintro e w' ⟨rfl, Kl⟩
    go_wp2
    go_ret
    exact ⟨rfl, Kl⟩

set_option maxRecDepth 100000 in
theorem lifted (os : Os) (started : os.Started) (H : Type) (enc : TypeId × Value → H) :
    ReturnsInHanded {} Try.checked os 9 .any (Rows.sealLessSpec.pre6 enc Try.prog Try.f9 Rows.sealLessRow.domain false) (Rows.sealLessSpec.post enc Try.prog Try.f9 false true false false) := by
  refine lift_new (C := Try.checked) (s := Rows.sealLessSpec) (tb := 4) own started (by kernel_rfl) Try.func9
    (ChangeSpec.witness6 (enc := enc) (C := Try.checked) false ⟨#[], #[.slice none 0 0, .slice none 0 0, .slice none 0 0], []⟩ 8 (by kernel_rfl) (by kernel_rfl) (by kernel_rfl) (by kernel_rfl))
    rfl (by kernel_rfl) Try.underlying4 ?_ laidOut (of_decide_eq_true (by kernel_rfl)) ?_
  · intro ds hd
    match ds, hd with
    | [d0, d1, d2], _ => exact ⟨rfl, rfl, rfl⟩
  · intro W base args ds hA
    have hA : Args enc Try.prog W base Try.f9.params.toList args.toList ds := hA
    rw [Try.params9] at hA
    obtain ⟨v0, vs0, d0, ds0, p0, hargs, rfl, a0, hA⟩ := hA.cons_
    obtain ⟨v1, vs1, d1, ds1, p1, rfl, rfl, a1, hA⟩ := hA.cons_
    obtain ⟨v2, vs2, d2, ds2, p2, rfl, rfl, a2, hA⟩ := hA.cons_
    obtain ⟨rfl, rfl⟩ := hA.nil_
    obtain rfl : args = #[v0, v1, v2] := by cases args; simp_all
    obtain ⟨A0, n0, c0, l0, b0⟩ := a0.bytes_ Try.underlying22 Try.underlying5 (by kernel_rfl) (by kernel_rfl)
    obtain rfl := b0.val
    obtain ⟨A1, n1, c1, l1, b1⟩ := a1.bytes_ Try.underlying22 Try.underlying5 (by kernel_rfl) (by kernel_rfl)
    obtain rfl := b1.val
    obtain ⟨A2, n2, c2, l2, b2⟩ := a2.bytes_ Try.underlying22 Try.underlying5 (by kernel_rfl) (by kernel_rfl)
    obtain rfl := b2.val
    exact walk A0 n0 c0 l0 A1 n1 c1 l1 A2 n2 c2 l2 W b0 b1 b2

theorem over : Rows.sealLessRow.holds Try.pinned (OpenSpec.ofChange Rows.sealLessSpec) :=
  OpenClaim.holds_of_wide 9 Try.f9 rfl rfl rfl rfl rfl rfl rfl ⟨rfl, rfl, rfl, rfl, rfl⟩ rfl rfl rfl rfl rfl (by kernel_rfl) Try.func9 (by kernel_rfl)
    (of_decide_eq_true (by kernel_rfl)) (by unfold Func.isWrapper; first | (rw [if_pos (by decide +kernel)]; kernel_rfl) | (rw [if_neg (by decide +kernel)]; exact ⟨rfl, rfl⟩))
    (fun os started H enc _ => lifted os started H enc)

theorem proved : Rows.SealLessSaid := over
end Go.Proofs.Ytpcfffbkoddkpaa.sealLess
