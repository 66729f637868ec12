/-
  RecGets: the changes of whatever body are the document's, or its error; for every body.
-/
import Derived.Test.YtlbbhfapmmcehaaJw
namespace Go.Proofs.Ytlbbhfapmmcehaa.recGets
open Go.ChangeShapes Go.WideShapes Go.ChangeAt Go.RowKit

theorem own : ownKnob Try.prog.godebug = none := by kernel_rfl
theorem laidOut : laidOutB Try.prog = true := by kernel_rfl

set_option maxRecDepth 100000 in
set_option maxHeartbeats 1600000 in
theorem walk (A : Option Addr) (n c : Nat) (l : List Nat) (w : World) (b : IsB w (.slice A n c) A n c l) :
    Calls Try.prog 4 #[.slice A n c] w (True1 w) := by
  have hn : n ≤ 140737488351232 := Nat.le_trans b.le b.cap
  have C1 := fun u hu => Lib.hid (recGet_any A n c l u (b.bts.new hu) hn b.nil)
  have C2 := fun u hu => Lib.hid (rrecGet_any A n c l u (b.bts.new hu) hn)
  have HL : Hid ((geC l).length ≤ 255) := geC_len b.bts.2.1
  clear b hn
  go_enter Try.func4, Try.ntmps4
  go_wp2_with fail
  refine (C1 _ (Kept.refl _ _)).out.mono ?_
  rintro e w1 ⟨A1, c1, es1, rfl, e1, o1, k1⟩
  have T1 := Lib.hid o1.in_
  have E1 := Lib.hid e1
  have K1 := Lib.hid k1
  clear o1 k1 C1 e1
  go_wp2_with fail
  refine (C2 _ K1.out).out.mono ?_
  rintro e w3 ⟨A3, c3, es3, rfl, e3, o3, k3⟩
  have T3 := Lib.hid o3.in_
  have E3 := Lib.hid e3
  have T1' := Lib.hid (T1.out.new k3)
  have K3 := Lib.hid (K1.out.new k3)
  have hl1 : es1.length ≤ maxLen := by have := HL.out; rw [← E1.out, cts_lenE] at this; unfold maxLen; omega
  have HL1 := Lib.hid hl1
  clear o3 k3 C2 T1 K1 e3 hl1
  generalize hm1 : es1.length = m1 at *
  generalize hm3 : es3.length = m3 at *
  clear hm1 hm3
  go_wp2_with fail
  refine (changes0_yes A1 A3 m1 m3 c1 c3 es1 es3 _ T1'.out T3.out HL1.out (E1.out.trans E3.out.symm)).mono ?_
  rintro e w6 ⟨rfl, k6⟩
  have K6 : Hid (New w w6) := K3.out.new k6
  clear T1' T3 K3 k6
  go_wp2_with fail
  refine (works11_k K6).mono ?_
  rintro e w9 ⟨rfl, Kl⟩
  go_wp2
  go_ret
  exact ⟨rfl, Kl⟩

set_option maxRecDepth 100000 in
theorem lifted (os : Os) (started : os.Started) (H : Type) (enc : TypeId × Value → H) :
    ReturnsInHanded {} Try.checked os 4 .any (Rows.recGetsSpec.pre6 enc Try.prog Try.f4 Rows.recGetsRow.domain false) (Rows.recGetsSpec.post enc Try.prog Try.f4 false true false false) := by
  refine lift_new (C := Try.checked) (s := Rows.recGetsSpec) (tb := 4) own started (by kernel_rfl) Try.func4
    (ChangeSpec.witness6 (enc := enc) (C := Try.checked) false ⟨#[], #[.slice none 0 0], []⟩ 8 (by kernel_rfl) (by kernel_rfl) (by kernel_rfl) (by kernel_rfl))
    rfl (by kernel_rfl) Try.underlying4 ?_ laidOut (of_decide_eq_true (by kernel_rfl)) ?_
  · intro ds hd
    match ds, hd with
    | [d0], _ => exact ⟨rfl, rfl, rfl⟩
  · intro W base args ds hA
    have hA : Args enc Try.prog W base Try.f4.params.toList args.toList ds := hA
    rw [Try.params4] at hA
    obtain ⟨v0, vs0, d0, ds0, p0, hargs, rfl, a0, hA⟩ := hA.cons_
    obtain ⟨rfl, rfl⟩ := hA.nil_
    obtain rfl : args = #[v0] := by cases args; simp_all
    obtain ⟨A0, n0, c0, l0, b0⟩ := a0.bytes_ Try.underlying23 Try.underlying5 (by kernel_rfl) (by kernel_rfl)
    obtain rfl := b0.val
    exact walk A0 n0 c0 l0 W b0

theorem over : Rows.recGetsRow.holds Try.pinned (OpenSpec.ofChange Rows.recGetsSpec) :=
  OpenClaim.holds_of_wide 4 Try.f4 rfl rfl rfl rfl rfl rfl rfl ⟨rfl, rfl, rfl, rfl, rfl⟩ rfl rfl rfl rfl rfl (by kernel_rfl) Try.func4 (by kernel_rfl)
    (of_decide_eq_true (by kernel_rfl)) (by unfold Func.isWrapper; first | (rw [if_pos (by decide +kernel)]; kernel_rfl) | (rw [if_neg (by decide +kernel)]; exact ⟨rfl, rfl⟩))
    (fun os started H enc _ => lifted os started H enc)

theorem proved : Rows.RecGetsSaid := over
end Go.Proofs.Ytlbbhfapmmcehaa.recGets
