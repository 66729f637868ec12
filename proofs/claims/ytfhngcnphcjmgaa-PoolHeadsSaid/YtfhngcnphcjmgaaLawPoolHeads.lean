/-
  PoolHeads: the heads of the program against the reference's, and a head put and read back; for every size, head and bytes.
-/
import Derived.Test.YtfhngcnphcjmgaaGr
namespace Go.Proofs.Ytfhngcnphcjmgaa.poolHeads
open Go.ChangeShapes Go.WideShapes Go.ChangeAt Go.RowKit

theorem own : ownKnob Try.prog.godebug = none := by kernel_rfl
theorem laidOut : laidOutB Try.prog = true := by kernel_rfl

set_option maxRecDepth 100000 in
set_option maxHeartbeats 3200000 in
theorem walk (x0 : Int) (x1 y1 z1 : Nat) (A2 : Option Addr) (n2 c2 : Nat) (l2 : List Nat) (w : World)
    (_b0 : -9223372036854775808 ≤ x0 ∧ x0 ≤ 9223372036854775807) (b1 : x1 < 256 ∧ y1 < 4294967296 ∧ z1 < 18446744073709551616) (b2 : IsB w (.slice A2 n2 c2) A2 n2 c2 l2) :
    Calls Try.prog 7 #[.int .i64 x0, .agg #[.int .u8 (x1 : Nat), .int .u32 (y1 : Nat), .int .u64 (z1 : Nat)], .slice A2 n2 c2] w (True1 w) := by
  have hle := b2.le
  have hcap := b2.cap
  have H2 := Lib.hid b2.bts
  have HB := Lib.hid b1
  have HPL := Lib.hid (phL_len x0 x1 y1 z1)
  have HBK : Hid (phE x0 x1 y1 z1 = 0 → ghE (phL x0 x1 y1 z1) = 0 ∧ ghK (phL x0 x1 y1 z1) = x1 ∧ ghR (phL x0 x1 y1 z1) = y1 ∧ ghS (phL x0 x1 y1 z1) = z1) := heads_back b1.1 b1.2.1 b1.2.2
  obtain ⟨wh, hwh⟩ : ∃ wh, wh = w.alloc (.cells #[.int .u8 (x1 : Nat), .int .u32 (y1 : Nat), .int .u64 (z1 : Nat)] 62) := ⟨_, rfl⟩
  have KH : Hid (New w wh) := by rw [hwh]; exact (Kept.refl _ _).alloc _
  have BH : Hid (Blk wh w.heap.size 62 [.int .u8 (x1 : Nat), .int .u32 (y1 : Nat), .int .u64 (z1 : Nat)]) := by rw [hwh]; exact Blk.made w _ _
  have HWH := Lib.hid hwh
  clear b1 b2 hwh
  go_enter Try.func7, Try.ntmps7
  go_wp2_with fail
  rw [← HWH.out]
  clear HWH
  generalize w.heap.size = gh at *
  refine (putHead_any x0 x1 y1 z1 _ HB.out.1 HB.out.2.1 HB.out.2.2).mono ?_
  rintro e w1 ⟨A1, c1, rfl, h1, h2⟩
  have KK1 : Hid (New w w1) := KH.out.new h2.out
  have HC := Lib.hid h1.out.cap
  have T1 : Hid (Bts w1 A1 (phL x0 x1 y1 z1).length (phL x0 x1 y1 z1)) := h1.out.bts
  have B1 := Lib.hid (BH.out.new h2.out)
  clear h1 h2 KH BH
  generalize eP : phL x0 x1 y1 z1 = p at *
  generalize eM : p.length = m at *
  have EP := Lib.hid eP
  have EM := Lib.hid eM
  clear eP eM
  have d0 : w1.cell? ⟨gh, 0, none⟩ = some (.int .u8 (x1 : Nat)) := B1.out.cell 0
  have d1 : w1.cell? ⟨gh, 1, none⟩ = some (.int .u32 (y1 : Nat)) := B1.out.cell 1
  have d2 : w1.cell? ⟨gh, 2, none⟩ = some (.int .u64 (z1 : Nat)) := B1.out.cell 2
  go_wp2_with fail
  refine (rPutHead_any x0 x1 y1 z1 _ HB.out.1 HB.out.2.1 HB.out.2.2).mono ?_
  rintro e w2 ⟨A3, c3, rfl, h1, h2⟩
  rw [EP.out] at h1 ⊢
  rw [EM.out] at h1 ⊢
  have KK2 : Hid (New w w2) := KK1.out.new h2.out
  have T3 := h1
  have T2 := Lib.hid (T1.out.new h2.out)
  have B2 := Lib.hid (B1.out.new h2.out)
  have L2 : Hid (Bts w2 A2 n2 l2) := H2.out.new KK2.out
  clear h1 h2 KK1 T1 B1 d0 d1 d2
  go_wp2_with fail
  refine (getHead_any A2 n2 c2 l2 _ L2.out hle (by omega)).mono ?_
  rintro e w3 ⟨rfl, h2⟩
  obtain ⟨w4, hw4⟩ : ∃ w4, w4 = w3.alloc (.cells #[.int .u8 (ghK l2 : Nat), .int .u32 (ghR l2 : Nat), .int .u64 (ghS l2 : Nat)] 62) := ⟨_, rfl⟩
  have X4 : Hid (Blk w4 w3.heap.size 62 [.int .u8 (ghK l2 : Nat), .int .u32 (ghR l2 : Nat), .int .u64 (ghS l2 : Nat)]) := by rw [hw4]; exact Blk.made w3 _ _
  have N24 : Hid (New w2 w4) := by rw [hw4]; exact h2.alloc _
  have HW4 := Lib.hid hw4
  clear hw4 h2
  have KK4 : Hid (New w w4) := KK2.out.new N24.out
  have T4 := Lib.hid (T2.out.new N24.out)
  have R4 : Hid (Bts w4 A3 m p) := T3.out.new N24.out
  have B4 := Lib.hid (B2.out.new N24.out)
  have L4 : Hid (Bts w4 A2 n2 l2) := H2.out.new KK4.out
  clear KK2 T2 T3 B2 L2 N24
  go_wp2_with fail
  rw [← HW4.out]
  clear HW4
  generalize w3.heap.size = ga at *
  refine (rGetHead_any A2 n2 c2 l2 _ L4.out hle hcap).mono ?_
  rintro e w5 ⟨rfl, h2⟩
  obtain ⟨w6, hw6⟩ : ∃ w6, w6 = w5.alloc (.cells #[.int .u8 (ghK l2 : Nat), .int .u32 (ghR l2 : Nat), .int .u64 (ghS l2 : Nat)] 62) := ⟨_, rfl⟩
  have Y6 : Hid (Blk w6 w5.heap.size 62 [.int .u8 (ghK l2 : Nat), .int .u32 (ghR l2 : Nat), .int .u64 (ghS l2 : Nat)]) := by rw [hw6]; exact Blk.made w5 _ _
  have N46 : Hid (New w4 w6) := by rw [hw6]; exact h2.alloc _
  have HW6 := Lib.hid hw6
  clear hw6 h2
  have KK6 : Hid (New w w6) := KK4.out.new N46.out
  have X6 := Lib.hid (X4.out.new N46.out)
  have T6 := Lib.hid (T4.out.new N46.out)
  have R6 := Lib.hid (R4.out.new N46.out)
  have B6 := Lib.hid (B4.out.new N46.out)
  clear KK4 T4 R4 B4 L4 X4 N46 H2
  go_wp2_with fail
  rw [← HW6.out]
  clear HW6
  generalize w5.heap.size = gd at *
  have hm : m ≤ 256 := HPL.out
  refine (same_k A1 A3 m m c1 c3 p p KK6 T6 R6 (by omega) true (decide_eq_true rfl)).mono ?_
  rintro e w7 ⟨rfl, N7, KK7⟩
  have T7 := Lib.hid (T6.out.new N7.out)
  have B7 := Lib.hid (B6.out.new N7.out)
  have a0 : w7.cell? ⟨ga, 0, none⟩ = some (.int .u8 (ghK l2 : Nat)) := (X6.out.new N7.out).cell 0
  have a1 : w7.cell? ⟨ga, 1, none⟩ = some (.int .u32 (ghR l2 : Nat)) := (X6.out.new N7.out).cell 1
  have a2 : w7.cell? ⟨ga, 2, none⟩ = some (.int .u64 (ghS l2 : Nat)) := (X6.out.new N7.out).cell 2
  have d0 : w7.cell? ⟨gd, 0, none⟩ = some (.int .u8 (ghK l2 : Nat)) := (Y6.out.new N7.out).cell 0
  have d1 : w7.cell? ⟨gd, 1, none⟩ = some (.int .u32 (ghR l2 : Nat)) := (Y6.out.new N7.out).cell 1
  have d2 : w7.cell? ⟨gd, 2, none⟩ = some (.int .u64 (ghS l2 : Nat)) := (Y6.out.new N7.out).cell 2
  clear KK6 T6 R6 B6 X6 Y6 N7
  generalize ghK l2 = qk at *
  generalize ghR l2 = qr at *
  generalize ghS l2 = qs at *
  generalize ghE l2 = qe at *
  by_cases hE : phE x0 x1 y1 z1 = 0
  · have GB := Lib.hid (HBK.out hE)
    rw [hE]
    clear hE HBK
    go_wp2_with fail
    refine (getHead_any A1 m c1 p _ T7.out (by have := HC.out; omega) (by have := HC.out; omega)).mono ?_
    rintro e w8 ⟨rfl, h8⟩
    rw [GB.out.1, GB.out.2.1, GB.out.2.2.1, GB.out.2.2.2]
    obtain ⟨w9, hw9⟩ : ∃ w9, w9 = w8.alloc (.cells #[.int .u8 (x1 : Nat), .int .u32 (y1 : Nat), .int .u64 (z1 : Nat)] 62) := ⟨_, rfl⟩
    have X9 : Hid (Blk w9 w8.heap.size 62 [.int .u8 (x1 : Nat), .int .u32 (y1 : Nat), .int .u64 (z1 : Nat)]) := by rw [hw9]; exact Blk.made w8 _ _
    have N9 : Hid (New w7 w9) := by rw [hw9]; exact h8.alloc _
    have HW9 := Lib.hid hw9
    clear hw9 h8 a0 a1 a2 d0 d1 d2
    have B9 := Lib.hid (B7.out.new N9.out)
    have KK9 : Hid (New w w9) := KK7.out.new N9.out
    go_upto_region 9 with fail
    rw [← HW9.out]
    clear HW9
    generalize w8.heap.size = gz at *
    have a0 : w9.cell? ⟨gz, 0, none⟩ = some (.int .u8 (x1 : Nat)) := X9.out.cell 0
    have a1 : w9.cell? ⟨gz, 1, none⟩ = some (.int .u32 (y1 : Nat)) := X9.out.cell 1
    have a2 : w9.cell? ⟨gz, 2, none⟩ = some (.int .u64 (z1 : Nat)) := X9.out.cell 2
    have d0 : w9.cell? ⟨gh, 0, none⟩ = some (.int .u8 (x1 : Nat)) := B9.out.cell 0
    have d1 : w9.cell? ⟨gh, 1, none⟩ = some (.int .u32 (y1 : Nat)) := B9.out.cell 1
    have d2 : w9.cell? ⟨gh, 2, none⟩ = some (.int .u64 (z1 : Nat)) := B9.out.cell 2
    clear X9 N9 B9 B7 T7 KK7 GB
    go_wp2_with fail
    refine (pWorks_any _).mono ?_
    rintro e w10 ⟨rfl, h10⟩
    have KE := Lib.hid (KK9.out.new h10)
    clear a0 a1 a2 d0 d1 d2
    go_wp2
    go_ret
    exact ⟨rfl, KE.out⟩
  · have hne : (phE x0 x1 y1 z1 == 0) = false := beq_eq_false_iff_ne.2 hE
    clear hE HBK
    generalize phE x0 x1 y1 z1 = pe at *
    go_wp2_with fail
    refine (pWorks_any _).mono ?_
    rintro e w8 ⟨rfl, h8⟩
    have KE := Lib.hid (KK7.out.new h8)
    clear a0 a1 a2 d0 d1 d2
    go_wp2
    go_ret
    exact ⟨rfl, KE.out⟩

set_option maxRecDepth 100000 in
theorem lifted (os : Os) (started : os.Started) (H : Type) (enc : TypeId × Value → H) :
    ReturnsInHanded {} Try.checked os 7 .any (Rows.poolHeadsSpec.pre6 enc Try.prog Try.f7 Rows.poolHeadsRow.domain false) (Rows.poolHeadsSpec.post enc Try.prog Try.f7 false true false false) := by
  refine lift_new (C := Try.checked) (s := Rows.poolHeadsSpec) (tb := 4) own started (by kernel_rfl) Try.func7
    (ChangeSpec.witness6 (enc := enc) (C := Try.checked) false ⟨#[], #[.int .i64 0, .agg #[.int .u8 0, .int .u32 0, .int .u64 0], .slice none 0 0], []⟩ 8 (by kernel_rfl) (by kernel_rfl) (by kernel_rfl) (by kernel_rfl))
    rfl (by kernel_rfl) Try.underlying4 ?_ laidOut (of_decide_eq_true (by kernel_rfl)) ?_
  · intro ds hd
    match ds, hd with
    | [d0, d1, d2], _ => exact ⟨rfl, rfl, rfl⟩
  · intro W base args ds hA
    have hA : Args enc Try.prog W base Try.f7.params.toList args.toList ds := hA
    rw [Try.params7] at hA
    obtain ⟨v0, vs0, d0, ds0, p0, hargs, rfl, a0, hA⟩ := hA.cons_
    obtain ⟨v1, vs1, d1, ds1, p1, rfl, rfl, a1, hA⟩ := hA.cons_
    obtain ⟨v2, vs2, d2, ds2, p2, rfl, rfl, a2, hA⟩ := hA.cons_
    obtain ⟨rfl, rfl⟩ := hA.nil_
    obtain rfl : args = #[v0, v1, v2] := by cases args; simp_all
    obtain ⟨x0, rfl, w0⟩ := a0.int_ Try.underlying3
    obtain ⟨x1, y1, z1, rfl, b1⟩ := a1.head_
    obtain ⟨A2, n2, c2, l2, b2⟩ := a2.bytes_ Try.underlying30 Try.underlying5 (by kernel_rfl) (by kernel_rfl)
    obtain rfl := b2.val
    exact walk x0 x1 y1 z1 A2 n2 c2 l2 W (i64_bounds w0) b1 b2

theorem over : Rows.poolHeadsRow.holds Try.pinned (OpenSpec.ofChange Rows.poolHeadsSpec) :=
  OpenClaim.holds_of_wide 7 Try.f7 rfl rfl rfl rfl rfl rfl rfl ⟨rfl, rfl, rfl, rfl, rfl⟩ rfl rfl rfl rfl rfl (by kernel_rfl) Try.func7 (by kernel_rfl)
    (of_decide_eq_true (by kernel_rfl)) (by unfold Func.isWrapper; first | (rw [if_pos (by decide +kernel)]; kernel_rfl) | (rw [if_neg (by decide +kernel)]; exact ⟨rfl, rfl⟩))
    (fun os started H enc _ => lifted os started H enc)

theorem proved : Rows.PoolHeadsSaid := over
end Go.Proofs.Ytfhngcnphcjmgaa.poolHeads
