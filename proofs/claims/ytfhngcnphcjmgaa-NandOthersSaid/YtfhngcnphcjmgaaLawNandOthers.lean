/-
  NandOthers: no other page changes than the one that is programmed, or those of the block that is erased; for every geometry, every list of acts (the first 40 are played) and every act.
-/
import Derived.Test.YtfhngcnphcjmgaaTd
namespace Go.Proofs.Ytfhngcnphcjmgaa.nandOthers
open Go.ChangeShapes Go.WideShapes Go.ChangeAt Go.RowKit

theorem own : ownKnob Try.prog.godebug = none := by kernel_rfl
theorem laidOut : laidOutB Try.prog = true := by kernel_rfl

theorem lay_cut (c M : List Nat) (off : Nat) (h : off + M.length ≤ c.length) : (lay c off M).length = c.length ∧ (lay c off M).take off = c.take off ∧ (lay c off M).drop (off + M.length) = c.drop (off + M.length) := by
  refine ⟨lay_length _ _ _ h, ?_, ?_⟩
  · unfold lay
    rw [List.take_append_of_le_length (by simp; omega), List.take_take, Nat.min_self]
  · have := lay_behind c M off 0 h
    simpa using this
theorem deedS_cut (s : CSt) (b off : Nat) (goal : List Nat) (h : off + goal.length ≤ s.by_.length) : (deedS s b off goal).by_.length = s.by_.length ∧ (deedS s b off goal).by_.take off = s.by_.take off ∧ (deedS s b off goal).by_.drop (off + goal.length) = s.by_.drop (off + goal.length) := by
  have hl : (mixF (fun i => 0) ((s.by_.drop off).take goal.length) goal).length = goal.length := by rw [mixF_length, List.length_take, List.length_drop]; omega
  unfold deedS
  split
  · exact lay_cut _ _ _ h
  · rename_i x t e
    split
    · exact lay_cut _ _ _ h
    · have h2 : (mixF (maskF x.mask) ((s.by_.drop off).take goal.length) goal).length = goal.length := by rw [mixF_length, List.length_take, List.length_drop]; omega
      have := lay_cut s.by_ (mixF (maskF x.mask) ((s.by_.drop off).take goal.length) goal) off (by rw [h2]; exact h)
      rw [h2] at this
      exact this
theorem progS_out (s : CSt) (b p : Int) (l : List Nat) (h : ¬ there s b p) : progS s b p l = s := by
  have h1 : refE s b p ≠ 0 := fun e => h (refE_ok e).2
  unfold progS progR
  rw [if_pos h1, if_neg h1]
theorem erasS_out (s : CSt) (b : Int) (h : ¬ there s b 0) : erasS s b = s := by
  have h1 : refE s b 0 ≠ 0 := fun e => h (refE_ok e).2
  unfold erasS erasR
  rw [if_pos h1, if_neg h1]
theorem progS_cut (s : CSt) (ok : s.Ok) (b p : Nat) (l : List Nat) (h : there s b p) : (progS s b p l).by_.length = s.by_.length ∧ (progS s b p l).by_.take ((b * s.np + p) * s.nz) = s.by_.take ((b * s.np + p) * s.nz) ∧ (progS s b p l).by_.drop ((b * s.np + p) * s.nz + s.nz) = s.by_.drop ((b * s.np + p) * s.nz + s.nz) ∧ (b * s.np + p) * s.nz + s.nz ≤ s.by_.length := by
  have h1 := (off_fit s ok b p h).2.2
  have h2 : offP s b p = (b * s.np + p) * s.nz := by unfold offP; simp
  rw [h2] at h1
  unfold progS
  split
  · rename_i h3
    have h4 := (progR_ok h3).2.1
    have h5 := deedS_cut s b (offP s b p) l (by rw [h2, h4]; exact h1)
    rw [h2, h4] at h5
    rw [Int.toNat_natCast, h2]
    exact ⟨h5.1, h5.2.1, h5.2.2, h1⟩
  · exact ⟨rfl, rfl, rfl, h1⟩
theorem erasS_cut (s : CSt) (ok : s.Ok) (b : Nat) (h : there s b 0) : (erasS s b).by_.length = s.by_.length ∧ (erasS s b).by_.take (b * s.np * s.nz) = s.by_.take (b * s.np * s.nz) ∧ (erasS s b).by_.drop (b * s.np * s.nz + s.np * s.nz) = s.by_.drop (b * s.np * s.nz + s.np * s.nz) ∧ b * s.np * s.nz + s.np * s.nz ≤ s.by_.length := by
  have h1 := (off_fit s ok b 0 h).1
  have h2 : offP s b 0 = b * s.np * s.nz := by unfold offP; simp
  rw [h2] at h1
  simp only [Int.toNat_zero, Nat.sub_zero] at h1
  unfold erasS
  split
  · have h5 := deedS_cut s b (offP s b 0) (ones s) (by rw [h2, ones_len]; exact h1)
    rw [h2, ones_len] at h5
    rw [Int.toNat_natCast, h2]
    exact ⟨h5.1, h5.2.1, h5.2.2, h1⟩
  · exact ⟨rfl, rfl, rfl, h1⟩

/-- Behind the last act: what it may have changed lies between i and j. -/
def OthR (w0 : World) (gp B : Nat) (s : CSt) (A : Option Addr) (cA : Nat) (f t : Value) (wx : World) : Prop :=
  ∃ (g gr : Nat) (Qc : Nat → Prop) (s' : CSt) (i j : Nat), f = .int .i64 i ∧ t = .int .i64 j ∧ Blk wx gp 37 [.pointer (some ⟨g, 0, none⟩), .pointer (some ⟨gr, 0, none⟩)] ∧ NChip Qc wx g s' ∧ New w0 wx ∧ OwnB wx 5 B A cA s.by_ ∧
    i ≤ s.by_.length ∧ j ≤ s.by_.length ∧ s'.by_.length = s.by_.length ∧ s'.by_.take i = s.by_.take i ∧ s'.by_.drop j = s.by_.drop j

theorem OthR.drewN {w0 : World} {gp B : Nat} {s : CSt} {A : Option Addr} {cA : Nat} {f t : Value} {wx : World} (h : OthR w0 gp B s A cA f t wx) (k : Nat) : OthR w0 gp B s A cA f t (wx.drewN k) := by
  obtain ⟨g, gr, Qc, s', i, j, h1, h2, h3, h4, h5, h6, h7⟩ := h
  exact ⟨g, gr, Qc, s', i, j, h1, h2, h3.drewN k, h4.new ((Kept.refl _ _).drewN k), h5.drewN k, h6.drewN k, h7⟩

theorem not_there {s : CSt} {b p : Int} (h : ¬ there s b p) : b < 0 ∨ (0 ≤ b ∧ (s.nb : Int) ≤ b) ∨ ((0 ≤ b ∧ b < (s.nb : Int)) ∧ p < 0) ∨ ((0 ≤ b ∧ b < (s.nb : Int)) ∧ 0 ≤ p ∧ (s.np : Int) ≤ p) := by
  unfold there at h
  omega

set_option maxRecDepth 100000 in
set_option maxHeartbeats 3200000 in
theorem walk (a b c d : Int) (A : Option Addr) (n ca : Nat) (al : List ActV) (z : ActV) (AA : Option Addr) (na cc : Nat) (BB : Option Addr) (ma ea : Nat) (w : World) (hl : ActsA w A n al) (hz : ActM w z AA na cc BB ma ea) :
    Calls Try.prog 4 #[.agg #[.int .i64 a, .int .i64 b, .int .i64 c, .int .i64 d], .slice A n ca, .agg #[.int .i64 z.do_, .int .i64 z.block, .int .i64 z.page, .int .u8 (z.fill : Int), .slice AA na cc, .slice BB ma ea]] w (True1 w) := by
  have HL := Lib.hid hl
  have HZ := Lib.hid hz
  clear hl hz
  by_cases hg : geoOk (wiB a) (wiP b) c d
  · obtain ⟨x, y, u, v, hx, hy, hu, hv⟩ := geo_nat hg
    rw [hx, hy, hu, hv] at hg
    have HG := Lib.hid hg
    have HX := Lib.hid hx
    have HY := Lib.hid hy
    have HU := Lib.hid hu
    have HV := Lib.hid hv
    clear hg hx hy hu hv
    go_enter Try.func4, Try.ntmps4
    go_wp2_with fail
    have A0 : Hid (New w ((w.alloc (.cells #[.int .i64 a, .int .i64 b, .int .i64 c, .int .i64 d] 23)).alloc (.cells #[.int .i64 z.do_, .int .i64 z.block, .int .i64 z.page, .int .u8 (z.fill : Int), .slice AA na cc, .slice BB ma ea] 33))) := ((Kept.refl _ _).alloc _).alloc _
    have Z0 : Hid (Blk ((w.alloc (.cells #[.int .i64 a, .int .i64 b, .int .i64 c, .int .i64 d] 23)).alloc (.cells #[.int .i64 z.do_, .int .i64 z.block, .int .i64 z.page, .int .u8 (z.fill : Int), .slice AA na cc, .slice BB ma ea] 33)) (w.heap.size + 1) 33 [.int .i64 z.do_, .int .i64 z.block, .int .i64 z.page, .int .u8 (z.fill : Int), .slice AA na cc, .slice BB ma ea]) := by
      have := Blk.made (w.alloc (.cells #[.int .i64 a, .int .i64 b, .int .i64 c, .int .i64 d] 23)) 33 #[.int .i64 z.do_, .int .i64 z.block, .int .i64 z.page, .int .u8 (z.fill : Int), .slice AA na cc, .slice BB ma ea]
      simpa [Hid] using this
    generalize w.alloc (.cells #[.int .i64 a, .int .i64 b, .int .i64 c, .int .i64 d] 23) = wg at *
    generalize wg.alloc (.cells #[.int .i64 z.do_, .int .i64 z.block, .int .i64 z.page, .int .u8 (z.fill : Int), .slice AA na cc, .slice BB ma ea] 33) = wz at *
    refine played_ok a b c d x y u v A n ca al _ (HL.out.new A0.out) HG.out HX.out HY.out HU.out HV.out _ fun gp w1 h1 h2 => ?_
    have HDS : Hid ((playS (newS x y u v) (al.take 40)).deeds < 4611686018427387904) := by
      show _ < _
      have h1 := playS_deeds (al.take 40) (newS x y u v)
      have h2 : (newS x y u v).deeds = 0 := rfl
      have h3 : (al.take 40).length ≤ 40 := List.length_take_le _ _
      omega
    generalize playS (newS x y u v) (al.take 40) = s at *
    obtain ⟨Qc, Qr, g, gr, hP⟩ := h1
    have HP := Lib.hid hP
    have N1 : Hid (New w w1) := A0.out.new h2
    have Z1 : Hid (Blk w1 (w.heap.size + 1) 33 [.int .i64 z.do_, .int .i64 z.block, .int .i64 z.page, .int .u8 (z.fill : Int), .slice AA na cc, .slice BB ma ea]) := Z0.out.new h2
    have NZ : Hid (New wz w1) := Lib.hid h2
    have p0 : w1.cell? ⟨gp, 0, none⟩ = some (.pointer (some ⟨g, 0, none⟩)) := HP.out.pair.cell 0
    clear h2 hP HL
    go_wp2_with fail
    refine (nBytes_any _ _ _ _ HP.out.chip).mono ?_
    rintro e w2 ⟨A1, c1, rfl, h1, h2⟩
    have O2 := Lib.hid h1
    have N2 := Lib.hid h2
    have HP2 := Lib.hid (HP.out.new h2)
    have Z2 := Lib.hid (Z1.out.new h2)
    have p1 : w2.cell? ⟨gp, 1, none⟩ = some (.pointer (some ⟨gr, 0, none⟩)) := HP2.out.pair.cell 1
    obtain ⟨gc, gb, cc', cb, Ah, ch, hr⟩ := HP2.out.ref
    have q1 := hr.c1
    have q2 := hr.c2
    clear h1 h2 p0 hr
    go_wp2_with fail
    go_quiet (fail)
    have P3 : Hid (Pair wz (w2.drewN nq) gp Qc Qr g gr s) := HP2.out.new ((Kept.refl _ _).drewN nq)
    have O3 : Hid (OwnB (w2.drewN nq) 5 w1.heap.size A1 c1 s.by_) := O2.out.drewN nq
    have Z3 : Hid (Blk (w2.drewN nq) (w.heap.size + 1) 33 [.int .i64 z.do_, .int .i64 z.block, .int .i64 z.page, .int .u8 (z.fill : Int), .slice AA na cc, .slice BB ma ea]) := Z2.out.drewN nq
    have N3 : Hid (New w (w2.drewN nq)) := (N1.out.new N2.out).drewN nq
    have QL : Hid (∀ b, Qc b → b < w1.heap.size) := HP.out.lowc
    have HZL : Hid (w.heap.size + 1 < wz.heap.size) := Z0.out.lt
    have HS13 : Hid (w1.heap.size ≤ (w2.drewN nq).heap.size) := N2.out.size
    clear HP HP2 O2 Z1 Z2 Z0 N1 N2 NZ p1 q1 q2 A0
    generalize w2.drewN nq = w3 at *
    have z0 : w3.cell? ⟨w.heap.size + 1, 0, none⟩ = some (.int .i64 z.do_) := Z3.out.cell 0
    have hlz := Z3.out.lt
    go_upto_if 47 with (fail)
    go_cut [12, 13] (fun f t wx => OthR w gp w1.heap.size s A1 c1 f t wx)
    case first =>
      have nz1 : ¬ Qc (w.heap.size + 1) := fun q => by have := P3.out.newc _ q; have := HZL.out; omega
      have SA : Hid (∀ wx, Kept Qc w3 wx → wx.cell? ⟨gp, 0, none⟩ = some (.pointer (some ⟨g, 0, none⟩)) ∧ wx.cell? ⟨w.heap.size + 1, 0, none⟩ = some (.int .i64 z.do_) ∧ wx.cell? ⟨w.heap.size + 1, 1, none⟩ = some (.int .i64 z.block) ∧ wx.cell? ⟨w.heap.size + 1, 2, none⟩ = some (.int .i64 z.page) ∧ wx.cell? ⟨w.heap.size + 1, 3, none⟩ = some (.int .u8 (z.fill : Int)) ∧ wx.cell? ⟨w.heap.size + 1, 4, none⟩ = some (.slice AA na cc) ∧ wx.cell? ⟨w.heap.size + 1, 5, none⟩ = some (.slice BB ma ea)) := fun wx h1 => by
        have k1 := P3.out.pair.kept h1 P3.out.pc
        have k2 := Z3.out.kept h1 nz1
        exact ⟨k1.cell 0, k2.cell 0, k2.cell 1, k2.cell 2, k2.cell 3, k2.cell 4, k2.cell 5⟩
      have D1 : Hid (Kept Qc w3 w3.drew) := (Kept.refl _ _).drew
      have RX : Hid (∀ wx, Kept Qc w3 wx → RChip Qr wx gr s) := fun wx h1 => P3.out.ref.kept h1 fun x h2 h3 => P3.out.apart x h3 h2
      have OX : Hid (∀ wx, Kept Qc w3 wx → OwnB wx 5 w1.heap.size A1 c1 s.by_) := fun wx h1 => O3.out.kept h1 fun a ha hq => by have := (O3.out.at_ a ha).2; have := QL.out _ hq; omega
      have NX : Hid (∀ wx, Kept Qc w3 wx → New w wx) := fun wx h1 => new_of_kept N3.out h1 fun b hb => by have := P3.out.newc b hb; have := HZL.out; omega
      have PX : Hid (∀ wx, Kept Qc w3 wx → Blk wx gp 37 [.pointer (some ⟨g, 0, none⟩), .pointer (some ⟨gr, 0, none⟩)]) := fun wx h1 => P3.out.pair.kept h1 P3.out.pc
      have NC : Hid (NChip Qc w3.drew g s) := P3.out.chip.new ((Kept.refl _ _).drew)
      have OKS : Hid s.Ok := P3.out.chip.ok
      obtain ⟨s1, s2, s3, s4, s5, s6, s7⟩ := SA.out w3 (Kept.refl _ _)
      clear z0
      by_cases hd1 : z.do_ = 1
      · have hb1 : (z.do_ == 1) = true := by simp [hd1]
        have ND : Hid (New w w3.drew) := N3.out.drew
        have NB3 : Hid (s.nz ≤ 8192) := by have := OKS.out.nz2; show _ ≤ _; omega
        clear hd1
        go_wp2_with fail
        go_region_held3 (fun wx => wx.cell? ⟨gp, 0, none⟩ = some (.pointer (some ⟨g, 0, none⟩)) ∧ wx.cell? ⟨w.heap.size + 1, 0, none⟩ = some (.int .i64 z.do_) ∧ wx.cell? ⟨w.heap.size + 1, 1, none⟩ = some (.int .i64 z.block) ∧ wx.cell? ⟨w.heap.size + 1, 2, none⟩ = some (.int .i64 z.page) ∧ wx.cell? ⟨w.heap.size + 1, 3, none⟩ = some (.int .u8 (z.fill : Int)) ∧ wx.cell? ⟨w.heap.size + 1, 4, none⟩ = some (.slice AA na cc) ∧ wx.cell? ⟨w.heap.size + 1, 5, none⟩ = some (.slice BB ma ea))
          (first
            | assumption
            | exact SA.out _ (Kept.refl _ _)
            | exact SA.out _ D1.out
            | exact SA.out _ (D1.out.new KB.out)
            | exact SA.out _ ((D1.out.new KB.out).trans KC.out fun _ _ x => x)
            | fail)
          (first
            | (go_at_call 17; refine (aBytes_any _ _ _ z.fill z.bytes AA na cc _ s.nz w _ NB3.out HZ.out.bts HZ.out.alen HZ.out.fill ND.out).mono ?_; rintro e wB ⟨A2, n2, c2, rfl, h1, h2, h3⟩; have BB2 := Lib.hid h1; have BO := Lib.hid h2; have KB := Lib.hid h3; clear h1 h2 h3)
            | (go_at_call 16; refine (nProg_w Qc g s z.block z.page n2 A2 c2 (actBy z.fill z.bytes s.nz) _ (NC.out.new KB.out) HDS.out BB2.out (fun h0 a ha hq => by
                have h1 := P3.out.newc _ hq
                have h2 := P3.out.lowc _ hq
                have h3 := HZL.out
                have h4 : w3.drew.heap.size = w3.heap.size := rfl
                rcases BO.out h0 a ha with h | h <;> omega)).mono ?_; rintro e wC ⟨rfl, h1, h2⟩; have CC := Lib.hid h1; have KC := Lib.hid h2; clear h1 h2))
        all_goals
          have KK : Hid (Kept Qc w3 wC) := (D1.out.new KB.out).trans KC.out fun _ _ x => x
          have RC := Lib.hid (RX.out _ KK.out)
          have OC := Lib.hid (OX.out _ KK.out)
          have NN := Lib.hid (NX.out _ KK.out)
          have PC := Lib.hid (PX.out _ KK.out)
          have g1 : wC.cell? ⟨gp, 1, none⟩ = some (.pointer (some ⟨gr, 0, none⟩)) := PC.out.cell 1
          obtain ⟨t1, t2, t3, t4, t5, t6, t7⟩ := SA.out wC KK.out
          clear s1 s2 s3 s4 s5 s6 s7 t1 t2 t5 t6 t7 SA RX OX NX PX
          obtain ⟨gc, gb, cc', cb, Ah, ch, hr⟩ := RC.out
          have r0 := hr.c0
          have hnb := hr.ok.nb2
          have hnp := hr.ok.np2
          have hnz := hr.ok.nz2
          clear hr
          by_cases hth : there s z.block z.page
          · obtain ⟨b', e1, hb⟩ := nat_of hth.1
            obtain ⟨p', e2, hp⟩ := nat_of hth.2
            rw [e1, e2] at hth CC
            have HCUT := Lib.hid (progS_cut s OKS.out b' p' (actBy z.fill z.bytes s.nz) hth)
            have hm1 : b' * s.np ≤ 64 * 32 := Nat.mul_le_mul (by omega) hnp
            have hm2 : (b' * s.np + p') * s.nz ≤ 4096 * 256 := Nat.mul_le_mul (by omega) hnz
            have m1 : IntKind.i64.wrap (z.block * (s.np : Int)) = ((b' * s.np : Nat) : Int) := by rw [e1, prod_int]; exact wrap_nat (by omega)
            have m2 : IntKind.i64.wrap (((b' * s.np : Nat) : Int) + z.page) = ((b' * s.np + p' : Nat) : Int) := by rw [e2, IntKind.wrap_i64]; omega
            have m3 : IntKind.i64.wrap (((b' * s.np + p' : Nat) : Int) * (s.nz : Int)) = (((b' * s.np + p') * s.nz : Nat) : Int) := by rw [prod_int]; exact wrap_nat (by omega)
            have m4 : IntKind.i64.wrap ((((b' * s.np + p') * s.nz : Nat) : Int) + (s.nz : Int)) = (((b' * s.np + p') * s.nz + s.nz : Nat) : Int) := by rw [IntKind.wrap_i64]; omega
            have j1 : decide (0 ≤ z.block) = true := decide_eq_true (by omega)
            have j2 : decide (z.block < (s.nb : Int)) = true := decide_eq_true (by omega)
            have j3 : decide (0 ≤ z.page) = true := decide_eq_true (by omega)
            have j4 : decide (z.page < (s.np : Int)) = true := decide_eq_true (by omega)
            clear e1 e2 hth hnb hnp hnz hm1 hm2
            have HE : Hid (OthR w gp w1.heap.size s A1 c1 (.int .i64 (((b' * s.np + p') * s.nz : Nat) : Int)) (.int .i64 (((b' * s.np + p') * s.nz + s.nz : Nat) : Int)) wC) :=
              ⟨g, gr, Qc, _, _, _, rfl, rfl, PC.out, CC.out, NN.out, OC.out, by have := HCUT.out.2.2.2; omega, HCUT.out.2.2.2, HCUT.out.1, HCUT.out.2.1, HCUT.out.2.2.1⟩
            generalize (b' * s.np + p') * s.nz + s.nz = zt at *
            generalize (b' * s.np + p') * s.nz = zf at *
            generalize b' * s.np + p' = zy at *
            generalize b' * s.np = zx at *
            have M1 := Lib.hid m1
            have M2 := Lib.hid m2
            have M3 := Lib.hid m3
            have M4 := Lib.hid m4
            clear m1 m2 m3 m4
            go_wp2_with fail
            go_quiet (fail)
            have m1 := M1.out
            have m2 := M2.out
            have m3 := M3.out
            have m4 := M4.out
            go_wp2_with fail
            go_meet
            exact HE.out.drewN nq
          · have HE : Hid (OthR w gp w1.heap.size s A1 c1 (.int .i64 0) (.int .i64 0) wC) := by
              have CC1 := CC.out
              rw [progS_out s _ _ _ hth] at CC1
              exact ⟨g, gr, Qc, s, 0, 0, rfl, rfl, PC.out, CC1, NN.out, OC.out, Nat.zero_le _, Nat.zero_le _, rfl, rfl, rfl⟩
            rcases not_there hth with h | h | h | h
            · have j1 : decide (0 ≤ z.block) = false := decide_eq_false (by omega)
              clear hth
              go_wp2_with fail
              go_quiet (fail)
              go_wp2_with fail
              go_meet
              exact HE.out.drewN nq
            · have j1 : decide (0 ≤ z.block) = true := decide_eq_true h.1
              have j2 : decide (z.block < (s.nb : Int)) = false := decide_eq_false (by omega)
              clear hth
              go_wp2_with fail
              go_quiet (fail)
              go_wp2_with fail
              go_meet
              exact HE.out.drewN nq
            · have j1 : decide (0 ≤ z.block) = true := decide_eq_true h.1.1
              have j2 : decide (z.block < (s.nb : Int)) = true := decide_eq_true h.1.2
              have j3 : decide (0 ≤ z.page) = false := decide_eq_false (by omega)
              clear hth
              go_wp2_with fail
              go_quiet (fail)
              go_wp2_with fail
              go_meet
              exact HE.out.drewN nq
            · have j1 : decide (0 ≤ z.block) = true := decide_eq_true h.1.1
              have j2 : decide (z.block < (s.nb : Int)) = true := decide_eq_true h.1.2
              have j3 : decide (0 ≤ z.page) = true := decide_eq_true h.2.1
              have j4 : decide (z.page < (s.np : Int)) = false := decide_eq_false (by omega)
              clear hth
              go_wp2_with fail
              go_quiet (fail)
              go_wp2_with fail
              go_meet
              exact HE.out.drewN nq
      · have hb1 : (z.do_ == 1) = false := by simp [hd1]
        clear hd1
        go_wp2_with fail
        go_region_held3 (fun wx => wx.cell? ⟨gp, 0, none⟩ = some (.pointer (some ⟨g, 0, none⟩)) ∧ wx.cell? ⟨w.heap.size + 1, 0, none⟩ = some (.int .i64 z.do_) ∧ wx.cell? ⟨w.heap.size + 1, 1, none⟩ = some (.int .i64 z.block) ∧ wx.cell? ⟨w.heap.size + 1, 2, none⟩ = some (.int .i64 z.page) ∧ wx.cell? ⟨w.heap.size + 1, 3, none⟩ = some (.int .u8 (z.fill : Int)) ∧ wx.cell? ⟨w.heap.size + 1, 4, none⟩ = some (.slice AA na cc) ∧ wx.cell? ⟨w.heap.size + 1, 5, none⟩ = some (.slice BB ma ea))
          (first
            | assumption
            | exact SA.out _ (Kept.refl _ _)
            | exact SA.out _ D1.out
            | exact SA.out _ (D1.out.trans KC.out fun _ _ x => x)
            | fail)
          (first
            | (go_at_call 18; refine (nErase_any Qc g s z.block _ NC.out HDS.out).mono ?_; rintro e wC ⟨rfl, h1, h2⟩; have CC := Lib.hid h1; have KC := Lib.hid h2; clear h1 h2))
        all_goals
          have KK : Hid (Kept Qc w3 wC) := D1.out.trans KC.out fun _ _ x => x
          have RC := Lib.hid (RX.out _ KK.out)
          have OC := Lib.hid (OX.out _ KK.out)
          have NN := Lib.hid (NX.out _ KK.out)
          have PC := Lib.hid (PX.out _ KK.out)
          have g1 : wC.cell? ⟨gp, 1, none⟩ = some (.pointer (some ⟨gr, 0, none⟩)) := PC.out.cell 1
          obtain ⟨t1, t2, t3, t4, t5, t6, t7⟩ := SA.out wC KK.out
          clear s1 s2 s3 s4 s5 s6 s7 t1 t2 t4 t5 t6 t7 SA RX OX NX PX
          obtain ⟨gc, gb, cc', cb, Ah, ch, hr⟩ := RC.out
          have r0 := hr.c0
          have hnb := hr.ok.nb2
          have hnp := hr.ok.np2
          have hnz := hr.ok.nz2
          have hnp1 := hr.ok.np1
          clear hr
          by_cases hth : 0 ≤ z.block ∧ z.block < (s.nb : Int)
          · obtain ⟨b', e1, hb⟩ := nat_of hth
            have hth2 : there s (b' : Int) 0 := by unfold there; omega
            rw [e1] at CC
            have HCUT := Lib.hid (erasS_cut s OKS.out b' hth2)
            have hm1 : b' * s.np ≤ 64 * 32 := Nat.mul_le_mul (by omega) hnp
            have hm2 : b' * s.np * s.nz ≤ 2048 * 256 := Nat.mul_le_mul (by omega) hnz
            have hm3 : s.np * s.nz ≤ 32 * 256 := Nat.mul_le_mul hnp hnz
            have M1 : Hid (IntKind.i64.wrap (z.block * (s.np : Int)) = ((b' * s.np : Nat) : Int)) := by show _ = _; rw [e1, prod_int]; exact wrap_nat (by omega)
            have M2 : Hid (IntKind.i64.wrap (((b' * s.np : Nat) : Int) * (s.nz : Int)) = ((b' * s.np * s.nz : Nat) : Int)) := by show _ = _; rw [prod_int]; exact wrap_nat (by omega)
            have M3 : Hid (IntKind.i64.wrap ((s.np : Int) * (s.nz : Int)) = ((s.np * s.nz : Nat) : Int)) := by show _ = _; rw [prod_int]; exact wrap_nat (by omega)
            have M4 : Hid (IntKind.i64.wrap (((b' * s.np * s.nz : Nat) : Int) + ((s.np * s.nz : Nat) : Int)) = ((b' * s.np * s.nz + s.np * s.nz : Nat) : Int)) := by show _ = _; rw [IntKind.wrap_i64]; omega
            have j1 : decide (0 ≤ z.block) = true := decide_eq_true (by omega)
            have j2 : decide (z.block < (s.nb : Int)) = true := decide_eq_true (by omega)
            clear e1 hth hth2 hnb hnp hnz hnp1 hm1 hm2 hm3
            have HE : Hid (OthR w gp w1.heap.size s A1 c1 (.int .i64 ((b' * s.np * s.nz : Nat) : Int)) (.int .i64 ((b' * s.np * s.nz + s.np * s.nz : Nat) : Int)) wC) :=
              ⟨g, gr, Qc, _, _, _, rfl, rfl, PC.out, CC.out, NN.out, OC.out, by have := HCUT.out.2.2.2; omega, HCUT.out.2.2.2, HCUT.out.1, HCUT.out.2.1, HCUT.out.2.2.1⟩
            generalize b' * s.np * s.nz + s.np * s.nz = zt at *
            generalize b' * s.np * s.nz = zf at *
            generalize s.np * s.nz = zy at *
            generalize b' * s.np = zx at *
            go_wp2_with fail
            go_quiet (fail)
            have m1 := M1.out
            have m2 := M2.out
            have m3 := M3.out
            have m4 := M4.out
            go_wp2_with fail
            go_meet
            exact HE.out.drewN nq
          · have HE : Hid (OthR w gp w1.heap.size s A1 c1 (.int .i64 0) (.int .i64 0) wC) := by
              have CC1 := CC.out
              rw [erasS_out s _ (fun h => hth h.1)] at CC1
              exact ⟨g, gr, Qc, s, 0, 0, rfl, rfl, PC.out, CC1, NN.out, OC.out, Nat.zero_le _, Nat.zero_le _, rfl, rfl, rfl⟩
            rcases Int.lt_or_le z.block 0 with h | h
            · have j1 : decide (0 ≤ z.block) = false := decide_eq_false (by omega)
              clear hth
              go_wp2_with fail
              go_quiet (fail)
              go_wp2_with fail
              go_meet
              exact HE.out.drewN nq
            · have j1 : decide (0 ≤ z.block) = true := decide_eq_true h
              have j2 : decide (z.block < (s.nb : Int)) = false := decide_eq_false (by omega)
              clear hth
              go_wp2_with fail
              go_quiet (fail)
              go_wp2_with fail
              go_meet
              exact HE.out.drewN nq
    case rest =>
      obtain ⟨g2, gr2, Q2, s2, i, j, rfl, rfl, hP, hC, hN, hO, hi, hj, hlen, htk, hdr⟩ := hcut
      have P4 := Lib.hid hP
      have C4 := Lib.hid hC
      have N4 := Lib.hid hN
      have O4 := Lib.hid hO
      have HLEN := Lib.hid hlen
      have HTK := Lib.hid htk
      have HDR := Lib.hid hdr
      have HSZ : Hid (s.by_.length ≤ 524288) := P3.out.chip.ok.size
      have HPOS : Hid (0 < s.by_.length) := by
        show 0 < _
        have hk := P3.out.chip.ok
        have h1 := hk.nb1
        have h2 := hk.np1
        have h3 := hk.nz1
        rw [hk.len]
        exact Nat.mul_pos (Nat.mul_pos (by omega) (by omega)) (by omega)
      have p0 : wc.cell? ⟨gp, 0, none⟩ = some (.pointer (some ⟨g2, 0, none⟩)) := P4.out.cell 0
      clear hP hC hN hO hlen htk hdr P3 O3 Z3 N3 QL z0 hlz
      go_wp2_with fail
      refine (nBytes_any _ _ _ _ C4.out).mono ?_
      rintro e w5 ⟨A5, c5, rfl, h1, h2⟩
      have O5 := Lib.hid h1
      have O6 : Hid (OwnB w5 5 w1.heap.size A1 c1 s.by_) := O4.out.new h2
      have N5 : Hid (New w w5) := N4.out.new h2
      clear h1 h2 p0
      rw [HLEN.out]
      have X1 : Hid (∀ wx, New w5 wx → Bts wx A1 i (s.by_.take i)) := fun wx h => (O6.out.bts.take hi).new h
      have X5 : Hid (∀ wx, New w5 wx → Bts wx A5 i (s.by_.take i)) := fun wx h => by
        have := (O5.out.bts.take (k := i) (by rw [HLEN.out]; exact hi)).new h
        rw [HTK.out] at this
        exact this
      have Y1 : Hid (∀ wx, New w5 wx → Bts wx (if c1 = j then A1 else A1.map (·.add j)) (s.by_.length - j) (s.by_.drop j)) := fun wx h => (O6.out.bts.cut hj O6.out.le.1).new h
      have Y5 : Hid (∀ wx, New w5 wx → Bts wx (if c5 = j then A5 else A5.map (·.add j)) (s.by_.length - j) (s.by_.drop j)) := fun wx h => by
        have := (O5.out.bts.cut (k := j) (by rw [HLEN.out]; exact hj) O5.out.le.1).new h
        rw [HLEN.out, HDR.out] at this
        exact this
      obtain ⟨g5, k5, e5, _, _, l5, m5⟩ := O5.out.blk (by rw [HLEN.out]; exact HPOS.out)
      obtain ⟨g1, k1, e1, _, _, l1, m1⟩ := O6.out.blk HPOS.out
      subst e5 e1
      rw [HLEN.out] at l5
      unfold maxLen at m5 m1
      have hsz := HSZ.out
      generalize s.by_.length = N at *
      have IL : Hid (i ≤ maxLen ∧ N - j ≤ maxLen) := by unfold maxLen; show _ ∧ _; omega
      clear O5 O6 P4 C4 N4 O4
      have v1 : (0 : Int) ≤ (i : Int) := by omega
      have v2 : (i : Int) ≤ (c1 : Int) := by omega
      have v3 : (i : Int) ≤ (c5 : Int) := by omega
      have v4 : (0 : Int) ≤ (j : Int) := by omega
      have v5 : (j : Int) ≤ (N : Int) := by omega
      have v6 : (N : Int) ≤ (c1 : Int) := by omega
      have v7 : (N : Int) ≤ (c5 : Int) := by omega
      rcases Nat.lt_or_ge j N with hjN | hjN
      · have h1 : ¬ c1 = j := by omega
        have h5 : ¬ c5 = j := by omega
        have Z1 := Y1
        have Z5 := Y5
        simp only [h1, h5, if_false, Option.map_some, Addr.add_lit, Nat.zero_add] at Z1 Z5
        clear Y1 Y5
        go_wp2_with fail
        go_region_held3 (fun wx => New w5 wx)
          (first
            | assumption
            | exact Kept.refl _ _
            | exact (Kept.refl _ _).drew
            | exact ((((Kept.refl _ _).drew).new KS1.out).new KS2.out).new KW.out
            | exact (((Kept.refl _ _).drew).new KS1.out).new KS2.out
            | exact ((Kept.refl _ _).drew).new KS1.out
            | fail)
          (first
            | (go_at_call 14; refine (nWorks_any _).mono ?_; rintro e w9 ⟨rfl, k9⟩; have KW := Lib.hid k9; clear k9)
            | (go_at_call 19; have _q := KS1.out; refine (same_eq _ _ _ _ _ (s.by_.drop j) _ (Z5.out _ ((Kept.refl _ _).drew.new KS1.out)) (Z1.out _ ((Kept.refl _ _).drew.new KS1.out)) IL.out.2).mono ?_; clear _q; rintro e w7 ⟨q7, rfl, hS⟩; have KS2 : Hid (New w6 w7) := (by rw [hS]; exact (Kept.refl _ _).drewN q7); clear hS)
            | (go_at_call 19; refine (same_eq _ _ _ _ _ (s.by_.take i) _ (X5.out _ ((Kept.refl _ _).drew)) (X1.out _ ((Kept.refl _ _).drew)) IL.out.1).mono ?_; rintro e w6 ⟨q6, rfl, hS⟩; have KS1 : Hid (New w5.drew w6) := (by rw [hS]; exact (Kept.refl _ _).drewN q6); clear hS))
        all_goals
          have K9 : Hid (New w w9) := (((N5.out.drew).new KS1.out).new KS2.out).new KW.out
          go_wp2
          go_ret
          exact ⟨rfl, K9.out⟩
      · obtain rfl : j = N := by omega
        clear Y1 Y5 hjN
        by_cases h1 : c1 = j <;> by_cases h5 : c5 = j
        all_goals
          try subst h1
          try subst h5
          go_wp2_with fail
          go_region_held3 (fun wx => New w5 wx)
            (first
              | assumption
              | exact Kept.refl _ _
              | exact (Kept.refl _ _).drew
              | exact ((((Kept.refl _ _).drew).new KS1.out).new KS2.out).new KW.out
              | exact (((Kept.refl _ _).drew).new KS1.out).new KS2.out
              | exact ((Kept.refl _ _).drew).new KS1.out
              | fail)
            (first
              | (go_at_call 14; refine (nWorks_any _).mono ?_; rintro e w9 ⟨rfl, k9⟩; have KW := Lib.hid k9; clear k9)
              | (go_at_call 19; have _q := KS1.out; refine (same_eq _ _ 0 _ _ [] _ (Bts.nil _ _) (Bts.nil _ _) (Nat.zero_le _)).mono ?_; clear _q; rintro e w7 ⟨q7, rfl, hS⟩; have KS2 : Hid (New w6 w7) := (by rw [hS]; exact (Kept.refl _ _).drewN q7); clear hS)
              | (go_at_call 19; refine (same_eq _ _ _ _ _ (s.by_.take i) _ (X5.out _ ((Kept.refl _ _).drew)) (X1.out _ ((Kept.refl _ _).drew)) IL.out.1).mono ?_; rintro e w6 ⟨q6, rfl, hS⟩; have KS1 : Hid (New w5.drew w6) := (by rw [hS]; exact (Kept.refl _ _).drewN q6); clear hS))
          all_goals
            have K9 : Hid (New w w9) := (((N5.out.drew).new KS1.out).new KS2.out).new KW.out
            go_wp2
            go_ret
            exact ⟨rfl, K9.out⟩
  · have HG := Lib.hid hg
    clear hg
    go_enter Try.func4, Try.ntmps4
    go_wp2_with fail
    have A0 : Hid (New w ((w.alloc (.cells #[.int .i64 a, .int .i64 b, .int .i64 c, .int .i64 d] 23)).alloc (.cells #[.int .i64 z.do_, .int .i64 z.block, .int .i64 z.page, .int .u8 (z.fill : Int), .slice AA na cc, .slice BB ma ea] 33))) := ((Kept.refl _ _).alloc _).alloc _
    refine played_no a b c d A n ca _ HG.out _ fun w1 h2 => ?_
    have N1 : Hid (New w w1) := A0.out.new h2
    clear h2
    go_wp2_with fail
    refine (worksN_k N1).mono ?_
    rintro e w9 ⟨rfl, k9⟩
    have K9 := Lib.hid k9
    clear k9
    go_wp2
    go_ret
    exact ⟨rfl, K9.out⟩

set_option maxRecDepth 100000 in
theorem lifted (os : Os) (started : os.Started) (H : Type) (enc : TypeId × Value → H) :
    ReturnsInHanded {} Try.checked os 4 .any (Rows.nandOthersSpec.pre6 enc Try.prog Try.f4 Rows.nandOthersRow.domain false) (Rows.nandOthersSpec.post enc Try.prog Try.f4 false true false false) := by
  refine lift_new (C := Try.checked) (s := Rows.nandOthersSpec) (tb := 4) own started (by kernel_rfl) Try.func4
    (ChangeSpec.witness6 (enc := enc) (C := Try.checked) false ⟨#[], #[.agg #[.int .i64 0, .int .i64 0, .int .i64 0, .int .i64 0], .slice none 0 0, .agg #[.int .i64 0, .int .i64 0, .int .i64 0, .int .u8 0, .slice none 0 0, .slice none 0 0]], []⟩ 8 (by kernel_rfl) (by kernel_rfl) (by kernel_rfl) (by kernel_rfl))
    rfl (by kernel_rfl) Try.underlying4 ?_ laidOut (of_decide_eq_true (by kernel_rfl)) ?_
  · intro ds hd
    match ds, hd with
    | [d0, d1, d2], _ => exact ⟨rfl, rfl, rfl⟩
  · intro W base args ds hA
    have hA : Args enc Try.prog W base Try.f4.params.toList args.toList ds := hA
    rw [Try.params4] at hA
    obtain ⟨v0, vs0, d0, ds0, p0, hargs, rfl, a0, hA⟩ := hA.cons_
    obtain ⟨v1, vs1, d1, ds1, p1, rfl, rfl, a1, hA⟩ := hA.cons_
    obtain ⟨v2, vs2, d2, ds2, p2, rfl, rfl, a2, hA⟩ := hA.cons_
    obtain ⟨rfl, rfl⟩ := hA.nil_
    obtain rfl : args = #[v0, v1, v2] := by cases args; simp_all
    obtain ⟨x0, y0, z0, u0, rfl⟩ := a0.geo_
    obtain ⟨A1, n1, c1, l1, rfl, b1, _, _⟩ := a1.acts_
    obtain ⟨x2, A2, n2, c2, B2, m2, e2, rfl, b2⟩ := a2.act_
    exact walk x0 y0 z0 u0 A1 n1 c1 l1 x2 A2 n2 c2 B2 m2 e2 W b1 b2

theorem over : Rows.nandOthersRow.holds Try.pinned (OpenSpec.ofChange Rows.nandOthersSpec) :=
  OpenClaim.holds_of_wide 4 Try.f4 rfl rfl rfl rfl rfl rfl rfl ⟨rfl, rfl, rfl, rfl, rfl⟩ rfl rfl rfl rfl rfl (by kernel_rfl) Try.func4 (by kernel_rfl)
    (of_decide_eq_true (by kernel_rfl)) (by unfold Func.isWrapper; first | (rw [if_pos (by decide +kernel)]; kernel_rfl) | (rw [if_neg (by decide +kernel)]; exact ⟨rfl, rfl⟩))
    (fun os started H enc _ => lifted os started H enc)

theorem proved : Rows.NandOthersSaid := over
end Go.Proofs.Ytfhngcnphcjmgaa.nandOthers
