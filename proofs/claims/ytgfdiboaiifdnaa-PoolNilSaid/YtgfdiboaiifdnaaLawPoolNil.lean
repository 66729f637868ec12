/-
  PoolNil: of no chip, a zero one, no pool, and of a zero one, all is refused, or nothing; whatever the arguments.
-/
import Derived.Test.YtgfdiboaiifdnaaHa
namespace Go.Proofs.Ytgfdiboaiifdnaa.poolNil
open Go.ChangeShapes Go.WideShapes Go.ChangeAt Go.RowKit

theorem own : ownKnob Try.prog.godebug = none := by kernel_rfl
theorem laidOut : laidOutB Try.prog = true := by kernel_rfl

set_option maxRecDepth 100000 in
set_option maxHeartbeats 1600000 in
theorem walk (b k r : Int) (z : Bool) (w : World) (_ : -9223372036854775808 ≤ b ∧ b ≤ 9223372036854775807) :
    Calls Try.prog 7 #[.int .i64 b, .int .u8 k, .int .u32 r, .bool z] w (True1 w) := by
  cases z
  · have N0 : Hid (NoneAt w (.pointer none)) := NoneAt.nil w
    have P0 : Hid (NonePool w (.pointer none)) := NonePool.nil w
    have K0 : Hid (New w w) := Kept.refl _ _
    go_enter Try.func7, Try.ntmps7
    go_wp2_with fail
    refine (zScan _ _ N0).mono ?_
    rintro e w' ⟨rfl, rfl⟩
    go_wp2_with fail
    refine (qTake _ k r _ P0).mono ?_
    rintro e w' ⟨rfl, rfl⟩
    go_wp2_with fail
    refine (qFree _ b _ P0).mono ?_
    rintro e w' ⟨rfl, rfl⟩
    go_wp2_with fail
    refine (qTaken _ _ P0).mono ?_
    rintro e w' ⟨rfl, rfl⟩
    go_wp2_with fail
    refine (qBlanks _ _ P0).mono ?_
    rintro e w' ⟨rfl, rfl⟩
    go_wp2_with fail
    refine (qLast _ _ P0).mono ?_
    rintro e w' ⟨rfl, rfl⟩
    go_wp2_with fail
    refine (qChip _ _ P0).mono ?_
    rintro e w' ⟨rfl, rfl⟩
    go_wp2_with fail
    refine (pWorks_any _).mono ?_
    rintro e w2 ⟨rfl, k2⟩
    have K2 := Lib.hid (K0.out.new k2)
    clear k2
    go_wp2
    go_ret
    exact ⟨rfl, K2.out⟩
  · obtain ⟨zs, hz⟩ : ∃ zs : Array Value, zs = #[.int .i64 0, .int .i64 0, .int .i64 0, .int .i64 0, .slice none 0 0, .slice none 0 0, .bool false, .int .i64 0, .nilFunc] := ⟨_, rfl⟩
    obtain ⟨ps, hp⟩ : ∃ ps : Array Value, ps = #[.pointer none, .slice none 0 0, .int .i64 0, .int .u64 0] := ⟨_, rfl⟩
    have k1 : New (w.alloc (.cells zs 61)) ((w.alloc (.cells zs 61)).alloc (.cells ps 64)) := (Kept.refl _ _).alloc _
    have n0 : NoneAt (w.alloc (.cells zs 61)) (.pointer (some ⟨w.heap.size, 0, none⟩)) := NoneAt.zero _ _ (by rw [(Blk.made w 61 zs).cell, hz]; rfl)
    have N0 := Lib.hid (n0.new k1)
    have P0 : Hid (NonePool ((w.alloc (.cells zs 61)).alloc (.cells ps 64)) (.pointer (some ⟨w.heap.size + 1, 0, none⟩))) := NonePool.zero _ _ (by
      have := (Blk.made (w.alloc (.cells zs 61)) 64 ps).cell 0
      rw [show (w.alloc (.cells zs 61)).heap.size = w.heap.size + 1 by simp] at this
      rw [this, hp]
      rfl)
    have K0 : Hid (New w ((w.alloc (.cells zs 61)).alloc (.cells ps 64))) := ((Kept.refl _ _).alloc _).alloc _
    clear n0 k1
    subst hz
    subst hp
    go_enter Try.func7, Try.ntmps7
    go_wp2_with fail
    refine (zScan _ _ N0).mono ?_
    rintro e w' ⟨rfl, rfl⟩
    go_wp2_with fail
    refine (qTake _ k r _ P0).mono ?_
    rintro e w' ⟨rfl, rfl⟩
    go_wp2_with fail
    refine (qFree _ b _ P0).mono ?_
    rintro e w' ⟨rfl, rfl⟩
    go_wp2_with fail
    refine (qTaken _ _ P0).mono ?_
    rintro e w' ⟨rfl, rfl⟩
    go_wp2_with fail
    refine (qBlanks _ _ P0).mono ?_
    rintro e w' ⟨rfl, rfl⟩
    go_wp2_with fail
    refine (qLast _ _ P0).mono ?_
    rintro e w' ⟨rfl, rfl⟩
    go_wp2_with fail
    refine (qChip _ _ P0).mono ?_
    rintro e w' ⟨rfl, rfl⟩
    go_wp2_with fail
    refine (pWorks_any _).mono ?_
    rintro e w2 ⟨rfl, k2⟩
    have K2 := Lib.hid (K0.out.new k2)
    clear k2
    go_wp2
    go_ret
    exact ⟨rfl, K2.out⟩

set_option maxRecDepth 100000 in
theorem lifted (os : Os) (started : os.Started) (H : Type) (enc : TypeId × Value → H) :
    ReturnsInHanded {} Try.checked os 7 .any (Rows.poolNilSpec.pre6 enc Try.prog Try.f7 Rows.poolNilRow.domain false) (Rows.poolNilSpec.post enc Try.prog Try.f7 false true false false) := by
  refine lift_new (C := Try.checked) (s := Rows.poolNilSpec) (tb := 4) own started (by kernel_rfl) Try.func7
    (ChangeSpec.witness6 (enc := enc) (C := Try.checked) false ⟨#[], #[.int .i64 0, .int .u8 0, .int .u32 0, .bool false], []⟩ 8 (by kernel_rfl) (by kernel_rfl) (by kernel_rfl) (by kernel_rfl))
    rfl (by kernel_rfl) Try.underlying4 ?_ laidOut (of_decide_eq_true (by kernel_rfl)) ?_
  · intro ds hd
    match ds, hd with
    | [d0, d1, d2, d3], _ => exact ⟨rfl, rfl, rfl⟩
  · intro W base args ds hA
    have hA : Args enc Try.prog W base Try.f7.params.toList args.toList ds := hA
    rw [Try.params7] at hA
    obtain ⟨v0, vs0, d0, ds0, p0, hargs, rfl, a0, hA⟩ := hA.cons_
    obtain ⟨v1, vs1, d1, ds1, p1, rfl, rfl, a1, hA⟩ := hA.cons_
    obtain ⟨v2, vs2, d2, ds2, p2, rfl, rfl, a2, hA⟩ := hA.cons_
    obtain ⟨v3, vs3, d3, ds3, p3, rfl, rfl, a3, hA⟩ := hA.cons_
    obtain ⟨rfl, rfl⟩ := hA.nil_
    obtain rfl : args = #[v0, v1, v2, v3] := by cases args; simp_all
    obtain ⟨x0, rfl, w0⟩ := a0.int_ Try.underlying3
    obtain ⟨y1, rfl, _⟩ := a1.int_ Try.underlying5
    obtain ⟨y2, rfl, _⟩ := a2.int_ Try.underlying37
    obtain ⟨x3, rfl⟩ := a3.bool_ Try.underlying4
    exact walk x0 y1 y2 x3 W (i64_bounds w0)

theorem over : Rows.poolNilRow.holds Try.pinned (OpenSpec.ofChange Rows.poolNilSpec) :=
  OpenClaim.holds_of_wide 7 Try.f7 rfl rfl rfl rfl rfl rfl rfl ⟨rfl, rfl, rfl, rfl, rfl⟩ rfl rfl rfl rfl rfl (by kernel_rfl) Try.func7 (by kernel_rfl)
    (of_decide_eq_true (by kernel_rfl)) (by unfold Func.isWrapper; first | (rw [if_pos (by decide +kernel)]; kernel_rfl) | (rw [if_neg (by decide +kernel)]; exact ⟨rfl, rfl⟩))
    (fun os started H enc _ => lifted os started H enc)

theorem proved : Rows.PoolNilSaid := over
end Go.Proofs.Ytgfdiboaiifdnaa.poolNil
