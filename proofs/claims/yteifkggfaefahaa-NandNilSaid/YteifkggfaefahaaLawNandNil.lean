/-
  NandNil: of no chip, nil or zero, all is refused, or nothing; the example holds; whatever the arguments
-/
import Derived.Test.YteifkggfaefahaaNr
namespace Go.Proofs.Yteifkggfaefahaa.nandNil
open Go.ChangeShapes Go.WideShapes Go.ChangeAt Go.RowKit

theorem own : ownKnob Try.prog.godebug = none := by kernel_rfl
theorem laidOut : laidOutB Try.prog = true := by kernel_rfl

set_option maxRecDepth 100000 in
set_option maxHeartbeats 1600000 in
theorem walk (b p : Int) (A : Option Addr) (n c : Nat) (l : List Nat) (z : Bool) (w : World) (_hb : -9223372036854775808 ≤ b ∧ b ≤ 9223372036854775807) (_hp : -9223372036854775808 ≤ p ∧ p ≤ 9223372036854775807) (_ha : IsB w (.slice A n c) A n c l) :
    Calls Try.prog 9 #[.int .i64 b, .int .i64 p, .slice A n c, .bool z] w (True1 w) := by
  clear _hb _hp _ha
  cases z
  · have N0 : Hid (NoneAt w (.pointer none)) := NoneAt.nil w
    have K0 : Hid (New w w) := Kept.refl _ _
    go_enter Try.func9, Try.ntmps9
    go_wp2_with fail
    refine (zRead _ b p _ N0).mono ?_
    rintro e w' ⟨rfl, rfl⟩
    go_wp2_with fail
    refine (zPower _ _ N0).mono ?_
    rintro e w' ⟨rfl, rfl⟩
    go_wp2_with fail
    refine (zProg _ b p A n c _ N0).mono ?_
    rintro e w' ⟨rfl, rfl⟩
    go_wp2_with fail
    refine (zErase _ b _ N0).mono ?_
    rintro e w' ⟨rfl, rfl⟩
    go_wp2_with fail
    refine (zHits _ _ _ _ _ N0).mono ?_
    rintro e w' ⟨rfl, rfl⟩
    go_wp2_with fail
    refine (zBad _ b _ N0).mono ?_
    rintro e w' ⟨rfl, rfl⟩
    go_wp2_with fail
    refine (zDeeds _ _ N0).mono ?_
    rintro e w' ⟨rfl, rfl⟩
    go_wp2_with fail
    refine (zBytes _ _ N0).mono ?_
    rintro e w' ⟨rfl, rfl⟩
    go_wp2_with fail
    refine (zGeo _ _ N0).mono ?_
    rintro e w1 ⟨rfl, k1⟩
    have K1 : Hid (New w w1) := K0.out.new k1
    clear k1
    go_wp2_with fail
    refine (worksN_k K1).mono ?_
    rintro e w2 ⟨rfl, k2⟩
    have K2 := Lib.hid k2
    clear k2
    go_wp2
    go_ret
    exact ⟨rfl, K2.out⟩
  · obtain ⟨zs, hz⟩ : ∃ zs : Array Value, zs = #[.int .i64 0, .int .i64 0, .int .i64 0, .int .i64 0, .slice none 0 0, .slice none 0 0, .bool false, .int .i64 0, .nilFunc] := ⟨_, rfl⟩
    have N0 : Hid (NoneAt (w.alloc (.cells zs 70)) (.pointer (some ⟨w.heap.size, 0, none⟩))) := NoneAt.zero _ _ (by rw [(Blk.made w 70 zs).cell, hz]; rfl)
    have K0 : Hid (New w (w.alloc (.cells zs 70))) := (Kept.refl _ _).alloc _
    subst hz
    go_enter Try.func9, Try.ntmps9
    go_wp2_with fail
    refine (zRead _ b p _ N0).mono ?_
    rintro e w' ⟨rfl, rfl⟩
    go_wp2_with fail
    refine (zPower _ _ N0).mono ?_
    rintro e w' ⟨rfl, rfl⟩
    go_wp2_with fail
    refine (zProg _ b p A n c _ N0).mono ?_
    rintro e w' ⟨rfl, rfl⟩
    go_wp2_with fail
    refine (zErase _ b _ N0).mono ?_
    rintro e w' ⟨rfl, rfl⟩
    go_wp2_with fail
    refine (zHits _ _ _ _ _ N0).mono ?_
    rintro e w' ⟨rfl, rfl⟩
    go_wp2_with fail
    refine (zBad _ b _ N0).mono ?_
    rintro e w' ⟨rfl, rfl⟩
    go_wp2_with fail
    refine (zDeeds _ _ N0).mono ?_
    rintro e w' ⟨rfl, rfl⟩
    go_wp2_with fail
    refine (zBytes _ _ N0).mono ?_
    rintro e w' ⟨rfl, rfl⟩
    go_wp2_with fail
    refine (zGeo _ _ N0).mono ?_
    rintro e w1 ⟨rfl, k1⟩
    have K1 : Hid (New w w1) := K0.out.new k1
    clear k1
    go_wp2_with fail
    refine (worksN_k K1).mono ?_
    rintro e w2 ⟨rfl, k2⟩
    have K2 := Lib.hid k2
    clear k2
    go_wp2
    go_ret
    exact ⟨rfl, K2.out⟩

set_option maxRecDepth 100000 in
theorem lifted (os : Os) (started : os.Started) (H : Type) (enc : TypeId × Value → H) :
    ReturnsInHanded {} Try.checked os 9 .any (Rows.nandNilSpec.pre6 enc Try.prog Try.f9 Rows.nandNilRow.domain false) (Rows.nandNilSpec.post enc Try.prog Try.f9 false true false false) := by
  refine lift_new (C := Try.checked) (s := Rows.nandNilSpec) (tb := 4) own started (by kernel_rfl) Try.func9
    (ChangeSpec.witness6 (enc := enc) (C := Try.checked) false ⟨#[], #[.int .i64 0, .int .i64 0, .slice none 0 0, .bool false], []⟩ 8 (by kernel_rfl) (by kernel_rfl) (by kernel_rfl) (by kernel_rfl))
    rfl (by kernel_rfl) Try.underlying4 ?_ laidOut (of_decide_eq_true (by kernel_rfl)) ?_
  · intro ds hd
    match ds, hd with
    | [d0, d1, d2, d3], _ => exact ⟨rfl, rfl, rfl⟩
  · intro W base args ds hA
    have hA : Args enc Try.prog W base Try.f9.params.toList args.toList ds := hA
    rw [Try.params9] at hA
    obtain ⟨v0, vs0, d0, ds0, p0, hargs, rfl, a0, hA⟩ := hA.cons_
    obtain ⟨v1, vs1, d1, ds1, p1, rfl, rfl, a1, hA⟩ := hA.cons_
    obtain ⟨v2, vs2, d2, ds2, p2, rfl, rfl, a2, hA⟩ := hA.cons_
    obtain ⟨v3, vs3, d3, ds3, p3, rfl, rfl, a3, hA⟩ := hA.cons_
    obtain ⟨rfl, rfl⟩ := hA.nil_
    obtain rfl : args = #[v0, v1, v2, v3] := by cases args; simp_all
    obtain ⟨x0, rfl, w0⟩ := a0.int_ Try.underlying3
    obtain ⟨x1, rfl, w1⟩ := a1.int_ Try.underlying3
    obtain ⟨A2, n2, c2, l2, b2⟩ := a2.bytes_ Try.underlying30 Try.underlying5 (by kernel_rfl) (by kernel_rfl)
    obtain rfl := b2.val
    obtain ⟨x3, rfl⟩ := a3.bool_ Try.underlying4
    exact walk x0 x1 A2 n2 c2 l2 x3 W (i64_bounds w0) (i64_bounds w1) b2

theorem over : Rows.nandNilRow.holds Try.pinned (OpenSpec.ofChange Rows.nandNilSpec) :=
  OpenClaim.holds_of_wide 9 Try.f9 rfl rfl rfl rfl rfl rfl rfl ⟨rfl, rfl, rfl, rfl, rfl⟩ rfl rfl rfl rfl rfl (by kernel_rfl) Try.func9 (by kernel_rfl)
    (of_decide_eq_true (by kernel_rfl)) (by unfold Func.isWrapper; first | (rw [if_pos (by decide +kernel)]; kernel_rfl) | (rw [if_neg (by decide +kernel)]; exact ⟨rfl, rfl⟩))
    (fun os started H enc _ => lifted os started H enc)

theorem proved : Rows.NandNilSaid := over
end Go.Proofs.Yteifkggfaefahaa.nandNil
