/-
  RecDrops: pages of drops, and what bodies of drops say, are the document's, or its error; for every size, Seq and body.
-/
import Derived.Test.YtlbbhfapmmcehaaJw
namespace Go.Proofs.Ytlbbhfapmmcehaa.recDrops
open Go.ChangeShapes Go.WideShapes Go.ChangeAt Go.RowKit

theorem own : ownKnob Try.prog.godebug = none := by kernel_rfl
theorem laidOut : laidOutB Try.prog = true := by kernel_rfl

set_option maxRecDepth 100000 in
set_option maxHeartbeats 1600000 in
theorem walk (x0 : Int) (x1 : Nat) (A2 : Option Addr) (n2 c2 : Nat) (l2 : List Nat) (w : World)
    (_b0 : -9223372036854775808 ≤ x0 ∧ x0 ≤ 9223372036854775807) (b1 : x1 < 18446744073709551616) (b2 : IsB w (.slice A2 n2 c2) A2 n2 c2 l2) :
    Calls Try.prog 5 #[.int .i64 x0, .int .u64 x1, .slice A2 n2 c2] w (True1 w) := by
  have hle := b2.le
  have hcap := b2.cap
  have HB := Lib.hid b2.bts
  have C1 := fun u => Lib.hid (putDrop_any x0 x1 u b1)
  have C2 := fun u => Lib.hid (rputDrop_any x0 x1 u b1)
  have C3 := fun u hu => Lib.hid (getDrop_any A2 n2 c2 l2 u (b2.bts.new hu) (by omega) b2.nil)
  have C4 := fun u hu => Lib.hid (rgetDrop_any A2 n2 c2 l2 u (b2.bts.new hu) hle (by unfold maxLen; omega))
  have HL : Hid ((pdL x0 x1).length ≤ 256) := pdL_len x0 x1
  clear b2 b1
  generalize pdL x0 x1 = pl at *
  generalize pdE x0 x1 = pe at *
  generalize gdV l2 = gv at *
  generalize gdE l2 = ge at *
  go_enter Try.func5, Try.ntmps5
  go_wp2_with fail
  refine (C1 _).out.mono ?_
  rintro e w1 ⟨A1, c1, rfl, p1, k1⟩
  have T1 := Lib.hid p1.bts
  have K1 := Lib.hid k1
  clear p1 k1 C1
  go_wp2_with fail
  refine (C2 _).out.mono ?_
  rintro e w3 ⟨A3, c3, rfl, o3, k3⟩
  have T3 := Lib.hid o3.bts
  have T1' := Lib.hid (T1.out.new k3)
  have K3 := Lib.hid (K1.out.new k3)
  clear o3 k3 C2 T1 K1
  go_wp2_with fail
  refine (C3 _ K3.out).out.mono ?_
  rintro e w4 ⟨rfl, k4⟩
  have T3' := Lib.hid (T3.out.new k4)
  have T4 := Lib.hid (T1'.out.new k4)
  have K4 := Lib.hid (K3.out.new k4)
  clear k4 C3 T3 T1' K3
  go_wp2_with fail
  refine (C4 _ K4.out).out.mono ?_
  rintro e w5 ⟨rfl, k5⟩
  have T3'' := Lib.hid (T3'.out.new k5)
  have T5 := Lib.hid (T4.out.new k5)
  have K5 := Lib.hid (K4.out.new k5)
  clear k5 C4 T3' T4 K4
  go_wp2_with fail
  refine (same_eq A1 A3 pl.length c1 c3 pl _ T5.out T3''.out (by have := HL.out; unfold maxLen; omega)).mono ?_
  rintro e w6 ⟨d6, rfl, rfl⟩
  have K6 : Hid (New w (w5.drewN d6)) := K5.out.drewN d6
  clear T5 T3'' K5
  go_wp2_with fail
  refine (works11_k K6).mono ?_
  rintro e w9 ⟨rfl, Kl⟩
  go_wp2
  go_ret
  exact ⟨rfl, Kl⟩

set_option maxRecDepth 100000 in
theorem lifted (os : Os) (started : os.Started) (H : Type) (enc : TypeId × Value → H) :
    ReturnsInHanded {} Try.checked os 5 .any (Rows.recDropsSpec.pre6 enc Try.prog Try.f5 Rows.recDropsRow.domain false) (Rows.recDropsSpec.post enc Try.prog Try.f5 false true false false) := by
  refine lift_new (C := Try.checked) (s := Rows.recDropsSpec) (tb := 4) own started (by kernel_rfl) Try.func5
    (ChangeSpec.witness6 (enc := enc) (C := Try.checked) false ⟨#[], #[.int .i64 0, .int .u64 0, .slice none 0 0], []⟩ 8 (by kernel_rfl) (by kernel_rfl) (by kernel_rfl) (by kernel_rfl))
    rfl (by kernel_rfl) Try.underlying4 ?_ laidOut (of_decide_eq_true (by kernel_rfl)) ?_
  · intro ds hd
    match ds, hd with
    | [d0, d1, d2], _ => exact ⟨rfl, rfl, rfl⟩
  · intro W base args ds hA
    have hA : Args enc Try.prog W base Try.f5.params.toList args.toList ds := hA
    rw [Try.params5] at hA
    obtain ⟨v0, vs0, d0, ds0, p0, hargs, rfl, a0, hA⟩ := hA.cons_
    obtain ⟨v1, vs1, d1, ds1, p1, rfl, rfl, a1, hA⟩ := hA.cons_
    obtain ⟨v2, vs2, d2, ds2, p2, rfl, rfl, a2, hA⟩ := hA.cons_
    obtain ⟨rfl, rfl⟩ := hA.nil_
    obtain rfl : args = #[v0, v1, v2] := by cases args; simp_all
    obtain ⟨x0, rfl, w0⟩ := a0.int_ Try.underlying3
    obtain ⟨y1, rfl, w1⟩ := a1.int_ Try.underlying35
    obtain ⟨x1, rfl, h1⟩ := u64_nat w1
    obtain ⟨A2, n2, c2, l2, b2⟩ := a2.bytes_ Try.underlying23 Try.underlying5 (by kernel_rfl) (by kernel_rfl)
    obtain rfl := b2.val
    exact walk x0 x1 A2 n2 c2 l2 W (i64_bounds w0) h1 b2

theorem over : Rows.recDropsRow.holds Try.pinned (OpenSpec.ofChange Rows.recDropsSpec) :=
  OpenClaim.holds_of_wide 5 Try.f5 rfl rfl rfl rfl rfl rfl rfl ⟨rfl, rfl, rfl, rfl, rfl⟩ rfl rfl rfl rfl rfl (by kernel_rfl) Try.func5 (by kernel_rfl)
    (of_decide_eq_true (by kernel_rfl)) (by unfold Func.isWrapper; first | (rw [if_pos (by decide +kernel)]; kernel_rfl) | (rw [if_neg (by decide +kernel)]; exact ⟨rfl, rfl⟩))
    (fun os started H enc _ => lifted os started H enc)

theorem proved : Rows.RecDropsSaid := over
end Go.Proofs.Ytlbbhfapmmcehaa.recDrops
