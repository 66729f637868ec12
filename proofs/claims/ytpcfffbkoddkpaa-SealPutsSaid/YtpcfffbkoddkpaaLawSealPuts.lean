/-
  SealPuts: a page of whatever size, kind and body, and how much a body has, are the document's, or its error; for every size, kind and body.
-/
import Derived.Test.YtpcfffbkoddkpaaSn
namespace Go.Proofs.Ytpcfffbkoddkpaa.sealPuts
open Go.ChangeShapes Go.WideShapes Go.ChangeAt Go.RowKit

theorem own : ownKnob Try.prog.godebug = none := by kernel_rfl
theorem laidOut : laidOutB Try.prog = true := by kernel_rfl

theorem putL_length (n : Int) (k : Nat) (b : List Nat) : (sPutL n k b).length ≤ 256 := by
  unfold sPutL
  split
  · rename_i h
    have h1 := h.1
    unfold isPg at h1
    rw [page_length _ _ _ (by omega)]
    omega
  · simp

set_option maxHeartbeats 1000000 in
theorem walk (x0 : Int) (x1 : Nat) (A2 : Option Addr) (n2 c2 : Nat) (l2 : List Nat) (w : World)
    (_b0 : -9223372036854775808 ≤ x0 ∧ x0 ≤ 9223372036854775807) (_b1 : x1 < 256) (b2 : IsB w (.slice A2 n2 c2) A2 n2 c2 l2) :
    Calls Try.prog 3 #[.int .i64 x0, .int .u8 x1, .slice A2 n2 c2] w (True1 w) := by
  have h2 : n2 ≤ 140737488351232 := by have := b2.le; have := b2.cap; omega
  have H2 := Lib.hid b2.bts
  have K0 : Hid (New w w) := Kept.refl _ _
  have hq := putL_length x0 x1 l2
  generalize eE : sPutE x0 x1 l2 = E
  generalize eP : sPutL x0 x1 l2 = p at hq
  generalize eQ : p.length = q at hq
  generalize eB : pgBody x0 = bo
  have PP := Lib.hid (And.intro eP eE)
  have EQ := Lib.hid eQ
  have EB := Lib.hid eB
  clear b2 eE eP eQ eB
  go_enter Try.func3, Try.ntmps3
  go_wp2_with fail
  refine (sPut_k x0 x1 A2 n2 c2 l2 K0 H2 h2 p E PP.out q EQ.out).mono ?_
  rintro e w1 ⟨A1, c1, rfl, P1, rfl, N1, K1⟩
  have T1 : Hid (Bts w1 A1 c1 p) := by have := P1.out.bts; rw [EQ.out] at this; exact this
  clear P1 N1 K0
  go_wp2_with fail
  refine (rPut_k x0 x1 A2 n2 c2 l2 K1 (H2.out.new K1.out) h2 p E PP.out c1 EQ.out).mono ?_
  rintro e w3 ⟨A3, c3, rfl, T3, N3, K3⟩
  have T1' : Hid (Bts w3 A1 c1 p) := T1.out.new N3.out
  clear T1 N3 K1
  go_wp2_with fail
  refine (same_k A1 A3 c1 c1 c1 c3 p p K3 T1' T3 (by omega) true (decide_eq_true rfl)).mono ?_
  rintro e w4 ⟨rfl, N4, K4⟩
  clear T1' T3 N4 K3
  go_wp2_with fail
  refine (sBody_v x0 bo _ EB.out).mono ?_
  rintro e w' ⟨rfl, rfl⟩
  go_wp2_with fail
  refine (rBody_any x0 _).mono ?_
  rintro e w' ⟨rfl, rfl⟩
  rw [EB.out]
  go_wp2_with fail
  refine (works_k K4).mono ?_
  rintro e w9 ⟨rfl, Kl⟩
  go_wp2
  go_ret
  exact ⟨rfl, Kl⟩

set_option maxRecDepth 100000 in
theorem lifted (os : Os) (started : os.Started) (H : Type) (enc : TypeId × Value → H) :
    ReturnsInHanded {} Try.checked os 3 .any (Rows.sealPutsSpec.pre6 enc Try.prog Try.f3 Rows.sealPutsRow.domain false) (Rows.sealPutsSpec.post enc Try.prog Try.f3 false true false false) := by
  refine lift_new (C := Try.checked) (s := Rows.sealPutsSpec) (tb := 4) own started (by kernel_rfl) Try.func3
    (ChangeSpec.witness6 (enc := enc) (C := Try.checked) false ⟨#[], #[.int .i64 0, .int .u8 0, .slice none 0 0], []⟩ 8 (by kernel_rfl) (by kernel_rfl) (by kernel_rfl) (by kernel_rfl))
    rfl (by kernel_rfl) Try.underlying4 ?_ laidOut (of_decide_eq_true (by kernel_rfl)) ?_
  · intro ds hd
    match ds, hd with
    | [d0, d1, d2], _ => exact ⟨rfl, rfl, rfl⟩
  · intro W base args ds hA
    have hA : Args enc Try.prog W base Try.f3.params.toList args.toList ds := hA
    rw [Try.params3] at hA
    obtain ⟨v0, vs0, d0, ds0, p0, hargs, rfl, a0, hA⟩ := hA.cons_
    obtain ⟨v1, vs1, d1, ds1, p1, rfl, rfl, a1, hA⟩ := hA.cons_
    obtain ⟨v2, vs2, d2, ds2, p2, rfl, rfl, a2, hA⟩ := hA.cons_
    obtain ⟨rfl, rfl⟩ := hA.nil_
    obtain rfl : args = #[v0, v1, v2] := by cases args; simp_all
    obtain ⟨x0, rfl, w0⟩ := a0.int_ Try.underlying3
    obtain ⟨y1, rfl, w1⟩ := a1.int_ Try.underlying5
    obtain ⟨x1, rfl, h1⟩ := u8_nat w1
    obtain ⟨A2, n2, c2, l2, b2⟩ := a2.bytes_ Try.underlying22 Try.underlying5 (by kernel_rfl) (by kernel_rfl)
    obtain rfl := b2.val
    exact walk x0 x1 A2 n2 c2 l2 W (i64_bounds w0) h1 b2

theorem over : Rows.sealPutsRow.holds Try.pinned (OpenSpec.ofChange Rows.sealPutsSpec) :=
  OpenClaim.holds_of_wide 3 Try.f3 rfl rfl rfl rfl rfl rfl rfl ⟨rfl, rfl, rfl, rfl, rfl⟩ rfl rfl rfl rfl rfl (by kernel_rfl) Try.func3 (by kernel_rfl)
    (of_decide_eq_true (by kernel_rfl)) (by unfold Func.isWrapper; first | (rw [if_pos (by decide +kernel)]; kernel_rfl) | (rw [if_neg (by decide +kernel)]; exact ⟨rfl, rfl⟩))
    (fun os started H enc _ => lifted os started H enc)

theorem proved : Rows.SealPutsSaid := over
end Go.Proofs.Ytpcfffbkoddkpaa.sealPuts
