/-
  SealGets: what whatever bytes say is the document's, or its error; for every bytes.
-/
import Derived.Test.YtpcfffbkoddkpaaSo
namespace Go.Proofs.Ytpcfffbkoddkpaa.sealGets
open Go.ChangeShapes Go.WideShapes Go.ChangeAt Go.RowKit

theorem own : ownKnob Try.prog.godebug = none := by kernel_rfl
theorem laidOut : laidOutB Try.prog = true := by kernel_rfl

theorem getL_length (l : List Nat) : (sGetL l).length ≤ l.length := by
  unfold sGetL
  split
  · rw [List.length_take, List.length_drop]; omega
  · simp

set_option maxHeartbeats 1000000 in
theorem walk (A0 : Option Addr) (n0 c0 : Nat) (l0 : List Nat) (w : World) (b0 : IsB w (.slice A0 n0 c0) A0 n0 c0 l0) :
    Calls Try.prog 4 #[.slice A0 n0 c0] w (True1 w) := by
  have hle := b0.le
  have hcap := b0.cap
  have H0 := Lib.hid b0.bts
  have K0 : Hid (New w w) := Kept.refl _ _
  have hx := getL_length l0
  rw [b0.bts.1] at hx
  generalize eK : sGetK l0 = k
  generalize eL : sGetL l0 = x at hx
  generalize eE : sGetE l0 = E
  generalize eM : x.length = m at hx
  have GG := Lib.hid (And.intro eK (And.intro eL eE))
  have EM := Lib.hid eM
  clear b0 eK eL eE eM
  go_enter Try.func4, Try.ntmps4
  go_wp2_with fail
  refine (sGet_k A0 n0 c0 l0 K0 H0 hle (by omega) k x E GG.out m EM.out).mono ?_
  rintro e w1 ⟨A1, c1, rfl, O1, N1, K1⟩
  have T1 : Hid (Bts w1 A1 m x) := by have := O1.out.bts; rw [EM.out] at this; exact this
  clear O1 N1 K0
  go_wp2_with fail
  refine (rGet_k A0 n0 c0 l0 K1 (H0.out.new K1.out) hle hcap k x E GG.out m EM.out).mono ?_
  rintro e w2 ⟨A2, c2, rfl, O2, N2, K2⟩
  have T2 : Hid (Bts w2 A2 m x) := by have := O2.out.bts; rw [EM.out] at this; exact this
  have T1' : Hid (Bts w2 A1 m x) := T1.out.new N2.out
  clear O2 N2 K1 T1
  go_wp2_with fail
  refine (same_k A1 A2 m m c1 c2 x x K2 T1' T2 (by omega) true (decide_eq_true rfl)).mono ?_
  rintro e w3 ⟨rfl, N3, K3⟩
  clear N3 K2 T1' T2
  go_wp2_with fail
  refine (works_k K3).mono ?_
  rintro e w9 ⟨rfl, Kl⟩
  go_wp2
  go_ret
  exact ⟨rfl, Kl⟩

set_option maxRecDepth 100000 in
theorem lifted (os : Os) (started : os.Started) (H : Type) (enc : TypeId × Value → H) :
    ReturnsInHanded {} Try.checked os 4 .any (Rows.sealGetsSpec.pre6 enc Try.prog Try.f4 Rows.sealGetsRow.domain false) (Rows.sealGetsSpec.post enc Try.prog Try.f4 false true false false) := by
  refine lift_new (C := Try.checked) (s := Rows.sealGetsSpec) (tb := 4) own started (by kernel_rfl) Try.func4
    (ChangeSpec.witness6 (enc := enc) (C := Try.checked) false ⟨#[], #[.slice none 0 0], []⟩ 8 (by kernel_rfl) (by kernel_rfl) (by kernel_rfl) (by kernel_rfl))
    rfl (by kernel_rfl) Try.underlying4 ?_ laidOut (of_decide_eq_true (by kernel_rfl)) ?_
  · intro ds hd
    match ds, hd with
    | [d0], _ => exact ⟨rfl, rfl, rfl⟩
  · intro W base args ds hA
    have hA : Args enc Try.prog W base Try.f4.params.toList args.toList ds := hA
    rw [Try.params4] at hA
    obtain ⟨v0, vs0, d0, ds0, p0, hargs, rfl, a0, hA⟩ := hA.cons_
    obtain ⟨rfl, rfl⟩ := hA.nil_
    obtain rfl : args = #[v0] := by cases args; simp_all
    obtain ⟨A0, n0, c0, l0, b0⟩ := a0.bytes_ Try.underlying22 Try.underlying5 (by kernel_rfl) (by kernel_rfl)
    obtain rfl := b0.val
    exact walk A0 n0 c0 l0 W b0

theorem over : Rows.sealGetsRow.holds Try.pinned (OpenSpec.ofChange Rows.sealGetsSpec) :=
  OpenClaim.holds_of_wide 4 Try.f4 rfl rfl rfl rfl rfl rfl rfl ⟨rfl, rfl, rfl, rfl, rfl⟩ rfl rfl rfl rfl rfl (by kernel_rfl) Try.func4 (by kernel_rfl)
    (of_decide_eq_true (by kernel_rfl)) (by unfold Func.isWrapper; first | (rw [if_pos (by decide +kernel)]; kernel_rfl) | (rw [if_neg (by decide +kernel)]; exact ⟨rfl, rfl⟩))
    (fun os started H enc _ => lifted os started H enc)

theorem proved : Rows.SealGetsSaid := over
end Go.Proofs.Ytpcfffbkoddkpaa.sealGets
