/-
  EndsPuts: a number's bytes of whatever size, and a row, are the document's, or its error; for every number, size and bytes.
-/
import Derived.Test.YtgeojhopnegdjaaEe
namespace Go.Proofs.Ytgeojhopnegdjaa.endsPuts
open Go.ChangeShapes Go.WideShapes Go.ChangeAt Go.RowKit

theorem own : ownKnob Try.prog.godebug = none := by kernel_rfl
theorem laidOut : laidOutB Try.prog = true := by kernel_rfl

set_option maxHeartbeats 800000 in
theorem walk (n : Nat) (s : Int) (A : Option Addr) (m c : Nat) (l : List Nat) (w : World) (hn : n < 18446744073709551616) (_hs : -9223372036854775808 ≤ s ∧ s ≤ 9223372036854775807) (hb : IsB w (.slice A m c) A m c l) :
    Calls Try.prog 3 #[.int .u64 n, .int .i64 s, .slice A m c] w (True1 w) := by
  have hm : m ≤ maxLen := by have := hb.le; have := hb.cap; unfold maxLen; omega
  have Hb := Lib.hid hb.bts
  clear hb
  go_enter Try.func3, Try.ntmps3
  go_wp2_with fail
  refine (eput_any n s _ hn).mono ?_
  rintro e w1 ⟨A1, c1, rfl, o1, k1⟩
  have O1 := Lib.hid o1
  have K1 := Lib.hid k1
  clear o1 k1
  go_wp2_with fail
  refine (rput_any n s _ hn).mono ?_
  rintro e w2 ⟨A2, c2, rfl, o2, k2⟩
  have O2 := Lib.hid o2
  have O12 := Lib.hid (O1.out.new k2)
  have K2 := Lib.hid (K1.out.new k2)
  clear o2 k2 O1 K1
  go_wp2_with fail
  refine (erow_any A m c l _ (Hb.out.new K2.out) hm).mono ?_
  rintro e w3 ⟨A3, c3, rfl, o3, k3⟩
  have O3 := Lib.hid o3
  have O23 := Lib.hid (O2.out.new k3)
  have O13 := Lib.hid (O12.out.new k3)
  have K3 := Lib.hid (K2.out.new k3)
  clear o3 k3 O2 O12 K2
  go_wp2_with fail
  refine (rrow_any A m c l _ (Hb.out.new K3.out) hm).mono ?_
  rintro e w4 ⟨A4, c4, rfl, o4, k4⟩
  have O4 := Lib.hid o4
  have O34 := Lib.hid (O3.out.new k4)
  have O24 := Lib.hid (O23.out.new k4)
  have O14 := Lib.hid (O13.out.new k4)
  have K4 := Lib.hid (K3.out.new k4)
  clear o4 k4 O3 O23 O13 K3
  go_wp2_with fail
  refine (same_eq _ _ _ _ _ _ _ O14.out.bts O24.out.bts (Nat.le_trans O14.out.le.1 O14.out.le.2)).mono ?_
  rintro e w5 ⟨d5, rfl, hw5⟩
  have K5 : Hid (New w w5) := by rw [hw5]; exact K4.out.drewN d5
  have O35 : Hid (OwnB w5 5 w2.heap.size A3 c3 (rowL l)) := by rw [hw5]; exact O34.out.drewN d5
  have O45 : Hid (OwnB w5 5 w3.heap.size A4 c4 (rowL l)) := by rw [hw5]; exact O4.out.drewN d5
  clear hw5 K4 O4 O34 O24 O14
  go_wp2_with fail
  refine (same_eq _ _ _ _ _ _ _ O35.out.bts O45.out.bts (Nat.le_trans O35.out.le.1 O35.out.le.2)).mono ?_
  rintro e w6 ⟨d6, rfl, hw6⟩
  have K6 : Hid (New w w6) := by rw [hw6]; exact K5.out.drewN d6
  clear hw6 K5 O35 O45
  go_wp2_with (go_at_call 14; refine (works_any _).mono ?_; rintro e w7 ⟨rfl, hk⟩)
  go_ret
  exact ⟨rfl, K6.out.new hk⟩

set_option maxRecDepth 100000 in
theorem lifted (os : Os) (started : os.Started) (H : Type) (enc : TypeId × Value → H) :
    ReturnsInHanded {} Try.checked os 3 .any (Rows.endsPutsSpec.pre6 enc Try.prog Try.f3 Rows.endsPutsRow.domain false) (Rows.endsPutsSpec.post enc Try.prog Try.f3 false true false false) := by
  refine lift_new (C := Try.checked) (s := Rows.endsPutsSpec) (tb := 4) own started (by kernel_rfl) Try.func3
    (ChangeSpec.witness6 (enc := enc) (C := Try.checked) false ⟨#[], #[.int .u64 0, .int .i64 0, .slice none 0 0], []⟩ 8 (by kernel_rfl) (by kernel_rfl) (by kernel_rfl) (by kernel_rfl))
    rfl (by kernel_rfl) Try.underlying4 ?_ laidOut (of_decide_eq_true (by kernel_rfl)) ?_
  · intro ds hd
    match ds, hd with
    | [d0, d1, d2], _ => exact ⟨rfl, rfl, rfl⟩
  · intro W base args ds hA
    have hA : Args enc Try.prog W base Try.f3.params.toList args.toList ds := hA
    rw [Try.params3] at hA
    obtain ⟨v0, vs0, d0, ds0, p0, hargs, rfl, a0, hA⟩ := hA.cons_
    obtain ⟨v1, vs1, d1, ds1, p1, rfl, rfl, a1, hA⟩ := hA.cons_
    obtain ⟨v2, vs2, d2, ds2, p2, rfl, rfl, a2, hA⟩ := hA.cons_
    obtain ⟨rfl, rfl⟩ := hA.nil_
    obtain rfl : args = #[v0, v1, v2] := by cases args; simp_all
    obtain ⟨y0, rfl, w0⟩ := a0.int_ Try.underlying22
    obtain ⟨x0, rfl, h0⟩ := u64_nat w0
    obtain ⟨x1, rfl, w1⟩ := a1.int_ Try.underlying3
    obtain ⟨A2, n2, c2, l2, b2⟩ := a2.bytes_ Try.underlying23 Try.underlying5 (by kernel_rfl) (by kernel_rfl)
    obtain rfl := b2.val
    exact walk x0 x1 A2 n2 c2 l2 W h0 (i64_bounds w1) b2

theorem over : Rows.endsPutsRow.holds Try.pinned (OpenSpec.ofChange Rows.endsPutsSpec) :=
  OpenClaim.holds_of_wide 3 Try.f3 rfl rfl rfl rfl rfl rfl rfl ⟨rfl, rfl, rfl, rfl, rfl⟩ rfl rfl rfl rfl rfl (by kernel_rfl) Try.func3 (by kernel_rfl)
    (of_decide_eq_true (by kernel_rfl)) (by unfold Func.isWrapper; first | (rw [if_pos (by decide +kernel)]; kernel_rfl) | (rw [if_neg (by decide +kernel)]; exact ⟨rfl, rfl⟩))
    (fun os started H enc _ => lifted os started H enc)

theorem proved : Rows.EndsPutsSaid := over
end Go.Proofs.Ytgeojhopnegdjaa.endsPuts
