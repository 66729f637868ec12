/-
  NandDead: behind a cut all is refused, nothing changes, and behind Power the chip is as it was cut; for every geometry, every list of acts (the first 40 are played) and every act.
-/
import Derived.Test.YtfhngcnphcjmgaaTd
namespace Go.Proofs.Ytfhngcnphcjmgaa.nandDead
open Go.ChangeShapes Go.WideShapes Go.ChangeAt Go.RowKit

theorem own : ownKnob Try.prog.godebug = none := by kernel_rfl
theorem laidOut : laidOutB Try.prog = true := by kernel_rfl

theorem dead_ref {s : CSt} (h : s.dead = true) (b p : Int) : refE s b p = 10 := by unfold refE; rw [if_pos h]
theorem dead_prog {s : CSt} (h : s.dead = true) (b p : Int) (l : List Nat) : progE s b p l = 10 ∧ progS s b p l = s := by
  have h1 := dead_ref h b p
  have h2 : progR s b p l.length = 10 := by unfold progR; rw [h1, if_pos (by decide)]
  unfold progE progS
  rw [h2]
  exact ⟨rfl, rfl⟩
theorem dead_eras {s : CSt} (h : s.dead = true) (b : Int) : erasE s b = 10 ∧ erasS s b = s := by
  have h1 := dead_ref h b 0
  have h2 : erasR s b = 10 := by unfold erasR; rw [h1, if_pos (by decide)]
  unfold erasE erasS
  rw [h2]
  exact ⟨rfl, rfl⟩
theorem dead_read {s : CSt} (h : s.dead = true) (b p : Int) : readE s b p = 10 ∧ readL s b p = [] := by
  have h1 := dead_ref h b p
  unfold readE readL
  rw [h1]
  exact ⟨rfl, rfl⟩
theorem nProg_dead (Q : Nat → Prop) (g : Nat) (s : CSt) (b p : Int) (n : Nat) (G : Option Addr) (c2 : Nat) (gl : List Nat) (w : World) (h : NChip Q w g s) (hd : s.deeds < 4611686018427387904) (hdd : s.dead = true)
    (hg : Bts w G n gl) (hg1 : 0 < n → ∀ a, G = some a → ¬ Q a.block) :
    Calls Try.prog 16 #[.pointer (some ⟨g, 0, none⟩), .int .i64 b, .int .i64 p, .slice G n c2] w fun e w' => e = .returned (.int .i64 10) ∧ NChip Q w' g s ∧ Kept Q w w' := by
  refine (nProg_w Q g s b p n G c2 gl w h hd hg hg1).mono ?_
  rintro e w' ⟨rfl, h1, h2⟩
  rw [(dead_prog hdd b p gl).2] at h1
  rw [(dead_prog hdd b p gl).1]
  exact ⟨rfl, h1, h2⟩
theorem nErase_dead (Q : Nat → Prop) (g : Nat) (s : CSt) (b : Int) (w : World) (h : NChip Q w g s) (hd : s.deeds < 4611686018427387904) (hdd : s.dead = true) :
    Calls Try.prog 18 #[.pointer (some ⟨g, 0, none⟩), .int .i64 b] w fun e w' => e = .returned (.int .i64 10) ∧ NChip Q w' g s ∧ Kept Q w w' := by
  refine (nErase_any Q g s b w h hd).mono ?_
  rintro e w' ⟨rfl, h1, h2⟩
  rw [(dead_eras hdd b).2] at h1
  rw [(dead_eras hdd b).1]
  exact ⟨rfl, h1, h2⟩
theorem cut_step (s : CSt) (m : List Nat) (ok : s.Ok) (hd : s.dead = false) (hh : s.hits = [⟨0, false, m⟩]) (k : Nat) (hk : k < s.nb) :
    (erasE s k = 9 ∧ erasS s k = s) ∨ (erasE s k = 10 ∧ (erasS s k).dead = true ∧ (erasS s k).nb = s.nb ∧ (erasS s k).deeds = s.deeds + 1) := by
  have h1 : refE s k 0 = 0 := by
    unfold refE
    rw [if_neg (by rw [hd]; decide), if_pos ⟨⟨by omega, by omega⟩, by omega, by have := ok.np1; omega⟩]
  by_cases hb : badAt s k = true
  · left
    have h2 : erasR s k = 9 := by unfold erasR; rw [h1, if_neg (by decide), Int.toNat_natCast, if_pos hb]
    unfold erasE erasS
    rw [h2]
    exact ⟨rfl, rfl⟩
  · right
    have h2 : erasR s k = 0 := by unfold erasR; rw [h1, if_neg (by decide), Int.toNat_natCast, if_neg hb]
    unfold erasE erasS
    rw [h2, if_pos rfl, if_pos rfl]
    have h3 : deedE s = 10 := by unfold deedE; rw [hh]; simp
    have h4 : ∀ b off g, (deedS s b off g).dead = true := fun b off g => by unfold deedS; rw [hh]; simp
    exact ⟨h3, h4 _ _ _, (deedS_geo _ _ _ _).1, deedS_deeds _ _ _ _⟩

/-- While blocks are erased till the cut: not yet, or dead. -/
def CutR (s1 : CSt) (c : Bool) (s' : CSt) : Prop := (c = false → s' = s1) ∧ (c = true → s'.dead = true ∧ s'.deeds = s1.deeds + 1)

set_option maxRecDepth 100000 in
set_option maxHeartbeats 3200000 in
theorem walk (a b c d : Int) (A : Option Addr) (n ca : Nat) (al : List ActV) (z : ActV) (AA : Option Addr) (na cc : Nat) (BB : Option Addr) (ma ea : Nat) (w : World) (hl : ActsA w A n al) (hz : ActM w z AA na cc BB ma ea) :
    Calls Try.prog 5 #[.agg #[.int .i64 a, .int .i64 b, .int .i64 c, .int .i64 d], .slice A n ca, .agg #[.int .i64 z.do_, .int .i64 z.block, .int .i64 z.page, .int .u8 (z.fill : Int), .slice AA na cc, .slice BB ma ea]] w (True1 w) := by
  have HL := Lib.hid hl
  have HZ := Lib.hid hz
  clear hl hz
  by_cases hg : geoOk (wiB a) (wiP b) c d
  · obtain ⟨x, y, u, v, hx, hy, hu, hv⟩ := geo_nat hg
    rw [hx, hy, hu, hv] at hg
    have HG := Lib.hid hg
    have HX := Lib.hid hx
    have HY := Lib.hid hy
    have HU := Lib.hid hu
    have HV := Lib.hid hv
    clear hg hx hy hu hv
    go_enter Try.func5, Try.ntmps5
    go_wp2_with fail
    have A0 : Hid (New w ((w.alloc (.cells #[.int .i64 a, .int .i64 b, .int .i64 c, .int .i64 d] 23)).alloc (.cells #[.int .i64 z.do_, .int .i64 z.block, .int .i64 z.page, .int .u8 (z.fill : Int), .slice AA na cc, .slice BB ma ea] 33))) := ((Kept.refl _ _).alloc _).alloc _
    have Z0 : Hid (Blk ((w.alloc (.cells #[.int .i64 a, .int .i64 b, .int .i64 c, .int .i64 d] 23)).alloc (.cells #[.int .i64 z.do_, .int .i64 z.block, .int .i64 z.page, .int .u8 (z.fill : Int), .slice AA na cc, .slice BB ma ea] 33)) (w.heap.size + 1) 33 [.int .i64 z.do_, .int .i64 z.block, .int .i64 z.page, .int .u8 (z.fill : Int), .slice AA na cc, .slice BB ma ea]) := by
      have := Blk.made (w.alloc (.cells #[.int .i64 a, .int .i64 b, .int .i64 c, .int .i64 d] 23)) 33 #[.int .i64 z.do_, .int .i64 z.block, .int .i64 z.page, .int .u8 (z.fill : Int), .slice AA na cc, .slice BB ma ea]
      simpa [Hid] using this
    generalize w.alloc (.cells #[.int .i64 a, .int .i64 b, .int .i64 c, .int .i64 d] 23) = wg at *
    generalize wg.alloc (.cells #[.int .i64 z.do_, .int .i64 z.block, .int .i64 z.page, .int .u8 (z.fill : Int), .slice AA na cc, .slice BB ma ea] 33) = wz at *
    refine played_ok a b c d x y u v A n ca al _ (HL.out.new A0.out) HG.out HX.out HY.out HU.out HV.out _ fun gp w1 h1 h2 => ?_
    generalize playS (newS x y u v) (al.take 40) = s at *
    obtain ⟨Qc, Qr, g, gr, hP⟩ := h1
    have HP := Lib.hid hP
    have N1 : Hid (New w w1) := A0.out.new h2
    have Z1 : Hid (Blk w1 (w.heap.size + 1) 33 [.int .i64 z.do_, .int .i64 z.block, .int .i64 z.page, .int .u8 (z.fill : Int), .slice AA na cc, .slice BB ma ea]) := Z0.out.new h2
    have p0 : w1.cell? ⟨gp, 0, none⟩ = some (.pointer (some ⟨g, 0, none⟩)) := HP.out.pair.cell 0
    have R1 : Hid (New w1 w1) := Kept.refl _ _
    -- what stands below w1's end stays while blocks beyond it turn
    have PC : Hid (∀ (S : Nat → Prop) wx wy, New w1 wx → Kept S wx wy → (∀ b, S b → w1.heap.size ≤ b) → wy.cell? ⟨gp, 1, none⟩ = some (.pointer (some ⟨gr, 0, none⟩)) ∧ wy.cell? ⟨gr, 0, none⟩ = some (.int .i64 (s.nb : Nat)) ∧ wy.cell? ⟨gr, 2, none⟩ = some (.int .i64 (s.nz : Nat)) ∧
        wy.cell? ⟨w.heap.size + 1, 0, none⟩ = some (.int .i64 z.do_) ∧ wy.cell? ⟨w.heap.size + 1, 1, none⟩ = some (.int .i64 z.block) ∧ wy.cell? ⟨w.heap.size + 1, 2, none⟩ = some (.int .i64 z.page) ∧ wy.cell? ⟨w.heap.size + 1, 3, none⟩ = some (.int .u8 (z.fill : Int)) ∧ wy.cell? ⟨w.heap.size + 1, 4, none⟩ = some (.slice AA na cc) ∧ wy.cell? ⟨w.heap.size + 1, 5, none⟩ = some (.slice BB ma ea)) := fun S wx wy h1 h2 h3 => by
      have k := new_of_kept h1 h2 h3
      obtain ⟨gc, gb, cc', cb, Ah, ch, hr⟩ := HP.out.ref.new k
      have k1 := HP.out.pair.new k
      have k2 := Z1.out.new k
      exact ⟨k1.cell 1, hr.c0, hr.c2, k2.cell 0, k2.cell 1, k2.cell 2, k2.cell 3, k2.cell 4, k2.cell 5⟩
    have OKS : Hid s.Ok := HP.out.chip.ok
    clear h2 hP HL
    go_wp2_with fail
    refine (nPower_k R1 (Lib.hid HP.out.chip) (powS s) rfl).mono ?_
    rintro e w2 ⟨g2, Q2, rfl, C2, -, L2, -, N2⟩
    clear p0
    have A1 : New w2 (w2.alloc (.cells #[.int .u8 255] 5)) := (Kept.refl _ _).alloc _
    have A2 : Hid (New w2 ((w2.alloc (.cells #[.int .u8 255] 5)).alloc (.cells #[.int .i64 0, .bool false, .slice (some ⟨w2.heap.size, 0, none⟩) 1 1] 52))) := A1.alloc _
    have HT : Hid (HitsA ((w2.alloc (.cells #[.int .u8 255] 5)).alloc (.cells #[.int .i64 0, .bool false, .slice (some ⟨w2.heap.size, 0, none⟩) 1 1] 52)) (some ⟨w2.heap.size + 1, 0, none⟩) 1 [⟨0, false, [255]⟩]) :=
      hits_one (w2.alloc (.cells #[.int .u8 255] 5)) (w2.heap.size + 1) false _ 1 1 [255] 0 (Bts.one w2 5 255 _ (by omega) rfl) (by intro h; cases h) (by omega) (by omega) (by omega) (by simp)
    have C3 := NChip.new_k C2 A2
    have N3 : Hid (New w1 ((w2.alloc (.cells #[.int .u8 255] 5)).alloc (.cells #[.int .i64 0, .bool false, .slice (some ⟨w2.heap.size, 0, none⟩) 1 1] 52))) := N2.out.new A2.out
    clear A1
    obtain ⟨s1, hs1⟩ : ∃ s1, hitsS (powS s) [⟨0, false, [255]⟩] = s1 := ⟨_, rfl⟩
    have hE : Hid (hitsE [⟨0, false, [255]⟩] = 0) := by show _ = _; decide +kernel
    have S1 : Hid (s1.dead = false ∧ s1.hits = [⟨0, false, [255]⟩] ∧ s1.nb = s.nb ∧ s1.deeds = 0) := by
      rw [← hs1]
      unfold hitsS
      rw [if_pos (by simp)]
      exact ⟨rfl, rfl, rfl, rfl⟩
    have HS1 := Lib.hid hs1
    clear hs1
    go_wp2_with fail
    refine (nHits_k [⟨0, false, [255]⟩] N3 C3 L2 HT (by intro h; cases h) (by omega) 0 s1 hE.out HS1.out).mono ?_
    rintro e w4 ⟨rfl, ⟨Q4, C4, -, L4⟩, -, N4⟩
    clear A2 HT C3 N3 C2 N2 L2
    go_upto_block 0 with fail
    go_cut [11] (fun c wx => ∃ (cb : Bool) (s' : CSt), c = .bool cb ∧ Hid (CutR s1 cb s') ∧ Hid (NChip Q4 wx g2 s') ∧ Hid (New w1 wx))
    case first =>
      have hnb2 := OKS.out.nb2
      go_wp2_with fail
      go_loopw [11, 12] (fun c i wr => ∃ (cb : Bool) (k : Nat) (s' : CSt), k ≤ s.nb ∧ c = .bool cb ∧ i = .int .i64 k ∧ Hid (CutR s1 cb s') ∧ Hid (NChip Q4 wr g2 s') ∧ Hid (New w1 wr)) (fun _ i _ => s.nb - (intOf i).toNat)
      case atStart => exact ⟨false, 0, s1, Nat.zero_le _, rfl, rfl, ⟨fun _ => rfl, fun h => by cases h⟩, C4, N4⟩
      case round =>
        obtain ⟨cb, k, s', hk, rfl, rfl, HC, VC, VN⟩ := hrel
        clear C4 N4
        obtain ⟨t1, t2, t3, t4, t5, t6, t7, t8, t9⟩ := PC.out (fun _ => False) wr wr VN.out (Kept.refl _ _) (fun _ f => f.elim)
        clear t3 t4 t5 t6 t7 t8 t9
        cases cb
        · obtain rfl : s' = s1 := HC.out.1 rfl
          by_cases hlt : k < s.nb
          · have hd0 : Hid (s'.deeds < 4611686018427387904) := by show _ < _; rw [S1.out.2.2.2]; omega
            have CS := Lib.hid (cut_step s' [255] VC.out.ok S1.out.1 S1.out.2.1 k (by rw [S1.out.2.2.1]; exact hlt))
            go_wp2_with fail
            refine (nErase_any Q4 g2 s' k _ VC.out hd0.out).mono ?_
            rintro e wy ⟨rfl, h1, h2⟩
            have VN2 : Hid (New w1 wy) := new_of_kept VN.out h2 L4.out
            clear h2 t1 t2
            rcases CS.out with ⟨c1, c2⟩ | ⟨c1, c2, c3, c4⟩
            · rw [c2] at h1
              rw [c1]
              have VC2 := Lib.hid h1
              clear h1 c1 c2 CS
              go_wp2
              go_roundw
              case rel => exact ⟨false, k + 1, s', by omega, rfl, by go_num, HC, VC2, VN2⟩
              case measure => simp [intOf]; omega
            · have HC2 : Hid (CutR s' true (erasS s' k)) := ⟨fun h => (by cases h), fun _ => ⟨c2, c4⟩⟩
              rw [c1]
              have VC2 := Lib.hid h1
              clear h1 c1 c2 c3 c4 CS
              go_wp2
              go_roundw
              case rel => exact ⟨true, k + 1, _, by omega, rfl, by go_num, HC2, VC2, VN2⟩
              case measure => simp [intOf]; omega
          · go_wp2_with fail
            go_meet
            exact ⟨false, s', rfl, HC, VC, VN⟩
        · by_cases hlt : k < s.nb
          · go_wp2_with fail
            go_meet
            exact ⟨true, s', rfl, HC, VC, VN⟩
          · go_wp2_with fail
            go_meet
            exact ⟨true, s', rfl, HC, VC, VN⟩
    case rest =>
      obtain ⟨cb, s', rfl, HC, VC, VN⟩ := hcut
      clear C4 N4
      cases cb
      · have N5 : Hid (New w wc) := N1.out.new VN.out
        go_wp2_with fail
        refine (worksN_k N5).mono ?_
        rintro e w9 ⟨rfl, k9⟩
        have K9 := Lib.hid k9
        clear k9
        go_wp2
        go_ret
        exact ⟨rfl, K9.out⟩
      · have DD := Lib.hid (HC.out.2 rfl).1
        have HDS : Hid (s'.deeds < 4611686018427387904) := by show _ < _; rw [(HC.out.2 rfl).2, S1.out.2.2.2]; omega
        have HSZ : Hid (s'.by_.length ≤ 140737488351232) := by have := VC.out.ok.size; show _ ≤ _; omega
        have HNZ : Hid (s.nz ≤ 8192) := by have := OKS.out.nz2; show _ ≤ _; omega
        have NQ : Hid (¬ Q4 (w.heap.size + 1)) := fun q => by have := L4.out _ q; have := Z1.out.lt; omega
        have ZL : Hid (w.heap.size + 1 < w1.heap.size) := Z1.out.lt
        clear HC OKS S1 HS1 hE
        go_wp2_with fail
        refine (nBytes_any _ _ _ _ VC.out).mono ?_
        rintro e w5 ⟨A5, c5, rfl, h1, h2⟩
        have O5 := Lib.hid h1
        have C5 := Lib.hid (VC.out.new h2)
        have N5 : Hid (New w1 w5) := VN.out.new h2
        have HQ5 : Hid (∀ b, Q4 b → b < wc.heap.size) := VC.out.low
        have hz5 : Hid (wc.heap.size ≤ w5.heap.size) := h2.size
        clear h1 h2
        obtain ⟨t1, t2, t3, t4, t5, t6, t7, t8, t9⟩ := PC.out (fun _ => False) w5 w5 N5.out (Kept.refl _ _) (fun _ f => f.elim)
        go_wp2_with fail
        refine (nRead_k N5 C5 10 [] 0 (dead_read DD.out _ _).1 (dead_read DD.out _ _).2 rfl).mono ?_
        rintro e w6 ⟨A6, c6, rfl, -, hN6, N6⟩
        have C6 := NChip.new_k C5 hN6
        have O6 := Lib.hid (O5.out.new hN6.out)
        have hz6 : Hid (wc.heap.size ≤ w6.heap.size) := Nat.le_trans hz5.out hN6.out.size
        have SA : Hid (∀ wx, Kept Q4 w6 wx → wx.cell? ⟨gp, 1, none⟩ = some (.pointer (some ⟨gr, 0, none⟩)) ∧ wx.cell? ⟨gr, 0, none⟩ = some (.int .i64 (s.nb : Nat)) ∧ wx.cell? ⟨gr, 2, none⟩ = some (.int .i64 (s.nz : Nat)) ∧ wx.cell? ⟨w.heap.size + 1, 0, none⟩ = some (.int .i64 z.do_) ∧ wx.cell? ⟨w.heap.size + 1, 1, none⟩ = some (.int .i64 z.block) ∧ wx.cell? ⟨w.heap.size + 1, 2, none⟩ = some (.int .i64 z.page) ∧ wx.cell? ⟨w.heap.size + 1, 3, none⟩ = some (.int .u8 (z.fill : Int)) ∧ wx.cell? ⟨w.heap.size + 1, 4, none⟩ = some (.slice AA na cc) ∧ wx.cell? ⟨w.heap.size + 1, 5, none⟩ = some (.slice BB ma ea)) := fun wx h => PC.out Q4 w6 wx N6.out h L4.out
        have OX : Hid (∀ wx, Kept Q4 w6 wx → OwnB wx 5 wc.heap.size A5 c5 s'.by_) := fun wx h => O6.out.kept h fun a ha hq => by have := (O6.out.at_ a ha).2; have := HQ5.out _ hq; omega
        have D1 : Hid (Kept Q4 w6 w6.drew) := (Kept.refl _ _).drew
        have ND : Hid (New w w6.drew) := (N1.out.new N6.out).drew
        have CD : Hid (NChip Q4 w6.drew g2 s') := C6.out.new ((Kept.refl _ _).drew)
        clear t1 t2 t3 t4 t5 t6 t7 t8 t9 O5 C5 N5 hN6 VC VN C6 O6
        obtain ⟨t1, t2, t3, t4, t5, t6, t7, t8, t9⟩ := SA.out w6 (Kept.refl _ _)
        go_wp2_with fail
        go_region_held3 (fun wx => wx.cell? ⟨gp, 1, none⟩ = some (.pointer (some ⟨gr, 0, none⟩)) ∧ wx.cell? ⟨gr, 0, none⟩ = some (.int .i64 (s.nb : Nat)) ∧ wx.cell? ⟨gr, 2, none⟩ = some (.int .i64 (s.nz : Nat)) ∧ wx.cell? ⟨w.heap.size + 1, 0, none⟩ = some (.int .i64 z.do_) ∧ wx.cell? ⟨w.heap.size + 1, 1, none⟩ = some (.int .i64 z.block) ∧ wx.cell? ⟨w.heap.size + 1, 2, none⟩ = some (.int .i64 z.page) ∧ wx.cell? ⟨w.heap.size + 1, 3, none⟩ = some (.int .u8 (z.fill : Int)) ∧ wx.cell? ⟨w.heap.size + 1, 4, none⟩ = some (.slice AA na cc) ∧ wx.cell? ⟨w.heap.size + 1, 5, none⟩ = some (.slice BB ma ea))
          (first
            | assumption
            | exact SA.out _ (Kept.refl _ _)
            | exact SA.out _ D1.out
            | exact SA.out _ (((D1.out.new KB.out).trans KC.out fun _ _ x => x).trans KE.out fun _ _ x => x)
            | exact SA.out _ ((D1.out.new KB.out).trans KC.out fun _ _ x => x)
            | exact SA.out _ (D1.out.new KB.out)
            | fail)
          (first
            | (go_at_call 17; refine (aBytes_any _ _ _ z.fill z.bytes AA na cc _ s.nz w _ HNZ.out HZ.out.bts HZ.out.alen HZ.out.fill ND.out).mono ?_; rintro e wB ⟨A2, n2, c2, rfl, h1, h2, h3⟩; have BB2 := Lib.hid h1; have BO := Lib.hid h2; have KB := Lib.hid h3; clear h1 h2 h3)
            | (go_at_call 16; refine (nProg_dead Q4 g2 s' z.block z.page n2 A2 c2 (actBy z.fill z.bytes s.nz) _ (CD.out.new KB.out) HDS.out DD.out BB2.out (fun h0 a ha hq => by
                have h1 := L4.out _ hq
                have h2 := HQ5.out _ hq
                have h3 := ZL.out
                have h5 := hz6.out
                have h4 : w6.drew.heap.size = w6.heap.size := rfl
                rcases BO.out h0 a ha with h | h <;> omega)).mono ?_; rintro e wC ⟨rfl, h1, h2⟩; have CC := Lib.hid h1; have KC := Lib.hid h2; clear h1 h2)
            | (go_at_call 18; refine (nErase_dead Q4 g2 s' z.block _ CC.out HDS.out DD.out).mono ?_; rintro e wE ⟨rfl, h1, h2⟩; have CE := Lib.hid h1; have KE := Lib.hid h2; clear h1 h2))
        all_goals
          have KK : Hid (Kept Q4 w6 wE) := ((D1.out.new KB.out).trans KC.out fun _ _ x => x).trans KE.out fun _ _ x => x
          have OE := Lib.hid (OX.out _ KK.out)
          have NE : Hid (New w1 wE) := new_of_kept N6.out KK.out L4.out
          clear t1 t2 t3 t4 t5 t6 t7 t8 t9 SA OX D1 ND CD CC
          go_wp2_with fail
          refine (nPower_k NE CE (powS s') rfl).mono ?_
          rintro e w7 ⟨g7, Q7, rfl, C7, -, -, hN7, N7⟩
          have D7 := NChip.new_k CE hN7
          have O7 := Lib.hid (OE.out.new hN7.out)
          clear hN7 CE OE NE
          go_wp2_with fail
          refine (nBytes_any _ _ _ _ D7.out).mono ?_
          rintro e w8 ⟨A8, c8, rfl, h1, h2⟩
          have O8 := Lib.hid h1
          have O8' := Lib.hid (O7.out.new h2)
          have C8 := Lib.hid (C7.out.new h2)
          have N8 : Hid (New w1 w8) := N7.out.new h2
          clear h1 h2 D7 O7 C7 N7
          go_wp2_with fail
          refine (same_kN A8 A5 _ _ c8 c5 s'.by_ s'.by_ N8 (Lib.hid O8.out.bts) (Lib.hid O8'.out.bts) HSZ.out true (by simp)).mono ?_
          rintro e w9 ⟨rfl, hN9, N9⟩
          have C9 := NChip.new_k C8 hN9
          have O9 := Lib.hid (O8'.out.new hN9.out)
          clear hN9 O8 O8' C8 N8
          go_wp2_with fail
          refine (nBytes_any _ _ _ _ C9.out).mono ?_
          rintro e w10 ⟨A10, c10, rfl, h1, h2⟩
          have O10 : Hid (OwnB w10 5 w9.heap.size A10 c10 s'.by_) := h1
          have O10' := Lib.hid (O9.out.new h2)
          have C10 := Lib.hid (C9.out.new h2)
          have N10 : Hid (New w1 w10) := N9.out.new h2
          have hlen : (powS s').by_.length = s'.by_.length := rfl
          rw [hlen]
          clear h1 h2 hlen C9 O9 N9
          go_wp2_with fail
          refine (same_kN A10 A5 _ _ c10 c5 s'.by_ s'.by_ N10 (Lib.hid O10.out.bts) (Lib.hid O10'.out.bts) HSZ.out true (by simp)).mono ?_
          rintro e w11 ⟨rfl, hN11, N11⟩
          have C11 := NChip.new_k C10 hN11
          clear hN11 O10 O10' C10 N10
          go_wp2_with fail
          refine (nDeeds_any _ _ _ _ C11.out).mono ?_
          rintro e w12 ⟨rfl, rfl⟩
          have hdz : (((powS s').deeds : Nat) : Int) = 0 := rfl
          rw [hdz]
          clear hdz C11
          have N12 : Hid (New w w11) := N1.out.new N11.out
          go_wp2_with fail
          refine (worksN_k N12).mono ?_
          rintro e w13 ⟨rfl, k13⟩
          have K13 := Lib.hid k13
          clear k13
          go_wp2
          go_ret
          exact ⟨rfl, K13.out⟩
  · have HG := Lib.hid hg
    clear hg
    go_enter Try.func5, Try.ntmps5
    go_wp2_with fail
    have A0 : Hid (New w ((w.alloc (.cells #[.int .i64 a, .int .i64 b, .int .i64 c, .int .i64 d] 23)).alloc (.cells #[.int .i64 z.do_, .int .i64 z.block, .int .i64 z.page, .int .u8 (z.fill : Int), .slice AA na cc, .slice BB ma ea] 33))) := ((Kept.refl _ _).alloc _).alloc _
    refine played_no a b c d A n ca _ HG.out _ fun w1 h2 => ?_
    have N1 : Hid (New w w1) := A0.out.new h2
    clear h2
    go_wp2_with fail
    refine (worksN_k N1).mono ?_
    rintro e w9 ⟨rfl, k9⟩
    have K9 := Lib.hid k9
    clear k9
    go_wp2
    go_ret
    exact ⟨rfl, K9.out⟩

set_option maxRecDepth 100000 in
theorem lifted (os : Os) (started : os.Started) (H : Type) (enc : TypeId × Value → H) :
    ReturnsInHanded {} Try.checked os 5 .any (Rows.nandDeadSpec.pre6 enc Try.prog Try.f5 Rows.nandDeadRow.domain false) (Rows.nandDeadSpec.post enc Try.prog Try.f5 false true false false) := by
  refine lift_new (C := Try.checked) (s := Rows.nandDeadSpec) (tb := 4) own started (by kernel_rfl) Try.func5
    (ChangeSpec.witness6 (enc := enc) (C := Try.checked) false ⟨#[], #[.agg #[.int .i64 0, .int .i64 0, .int .i64 0, .int .i64 0], .slice none 0 0, .agg #[.int .i64 0, .int .i64 0, .int .i64 0, .int .u8 0, .slice none 0 0, .slice none 0 0]], []⟩ 8 (by kernel_rfl) (by kernel_rfl) (by kernel_rfl) (by kernel_rfl))
    rfl (by kernel_rfl) Try.underlying4 ?_ laidOut (of_decide_eq_true (by kernel_rfl)) ?_
  · intro ds hd
    match ds, hd with
    | [d0, d1, d2], _ => exact ⟨rfl, rfl, rfl⟩
  · intro W base args ds hA
    have hA : Args enc Try.prog W base Try.f5.params.toList args.toList ds := hA
    rw [Try.params5] at hA
    obtain ⟨v0, vs0, d0, ds0, p0, hargs, rfl, a0, hA⟩ := hA.cons_
    obtain ⟨v1, vs1, d1, ds1, p1, rfl, rfl, a1, hA⟩ := hA.cons_
    obtain ⟨v2, vs2, d2, ds2, p2, rfl, rfl, a2, hA⟩ := hA.cons_
    obtain ⟨rfl, rfl⟩ := hA.nil_
    obtain rfl : args = #[v0, v1, v2] := by cases args; simp_all
    obtain ⟨x0, y0, z0, u0, rfl⟩ := a0.geo_
    obtain ⟨A1, n1, c1, l1, rfl, b1, _, _⟩ := a1.acts_
    obtain ⟨x2, A2, n2, c2, B2, m2, e2, rfl, b2⟩ := a2.act_
    exact walk x0 y0 z0 u0 A1 n1 c1 l1 x2 A2 n2 c2 B2 m2 e2 W b1 b2

theorem over : Rows.nandDeadRow.holds Try.pinned (OpenSpec.ofChange Rows.nandDeadSpec) :=
  OpenClaim.holds_of_wide 5 Try.f5 rfl rfl rfl rfl rfl rfl rfl ⟨rfl, rfl, rfl, rfl, rfl⟩ rfl rfl rfl rfl rfl (by kernel_rfl) Try.func5 (by kernel_rfl)
    (of_decide_eq_true (by kernel_rfl)) (by unfold Func.isWrapper; first | (rw [if_pos (by decide +kernel)]; kernel_rfl) | (rw [if_neg (by decide +kernel)]; exact ⟨rfl, rfl⟩))
    (fun os started H enc _ => lifted os started H enc)

theorem proved : Rows.NandDeadSaid := over
end Go.Proofs.Ytfhngcnphcjmgaa.nandDead
