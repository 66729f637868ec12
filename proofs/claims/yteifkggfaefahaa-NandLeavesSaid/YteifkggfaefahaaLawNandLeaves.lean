/-
  NandLeaves: what a struck program leaves is less than the bytes, or they, what an erase leaves is less than what was, or that; for every bytes, mask, hit and deed.
-/
import Derived.Test.YteifkggfaefahaaNs
namespace Go.Proofs.Yteifkggfaefahaa.nandLeaves
open Go.ChangeShapes Go.WideShapes Go.ChangeAt Go.RowKit

theorem own : ownKnob Try.prog.godebug = none := by kernel_rfl
theorem laidOut : laidOutB Try.prog = true := by kernel_rfl

theorem cyc_zero (k : Nat) (hk : k < 128) : (List.replicate 128 0)[k]? = some 0 := by rw [List.getElem?_replicate, if_pos hk]

/-- The first k bytes of the page that goes round, noughts behind. -/
def cycT (l : List Nat) (k : Nat) : List Nat := (cycP l).take k ++ List.replicate (128 - k) 0
theorem cycT_step (l : List Nat) (k : Nat) (hk : k < 128) (x : Nat) (hx : maskF l k = x) : (cycT l k).set k x = cycT l (k + 1) := by
  have hl : ((cycP l).take k).length = k := by rw [List.length_take, cycP_len]; omega
  have hg : (cycP l)[k]? = some x := by simp [cycP, hk, hx]
  have hkl : k < (cycP l).length := by rw [cycP_len]; exact hk
  unfold cycT
  rw [List.set_append_right _ _ (by omega), hl, Nat.sub_self, show 128 - k = (128 - (k + 1)) + 1 from by omega, List.replicate_succ, List.set_cons_zero, List.take_succ_eq_append_getElem hkl, (List.getElem?_eq_some_iff.1 hg).2]
  simp
theorem cycT_get (l : List Nat) (k : Nat) (hk : k < 128) : (cycT l k)[k]? = some 0 := by
  have hl : ((cycP l).take k).length = k := by rw [List.length_take, cycP_len]; omega
  unfold cycT
  rw [List.getElem?_append_right (by omega), hl, Nat.sub_self, List.getElem?_replicate, if_pos (by omega)]
theorem cycT_end (l : List Nat) : cycT l 128 = cycP l := by
  unfold cycT
  rw [List.take_of_length_le (by rw [cycP_len]; omega)]
  simp
theorem cycT_nil : cycT [] 0 = cycP [] := by decide +kernel

set_option maxRecDepth 100000 in
set_option maxHeartbeats 6400000 in
theorem walk (A : Option Addr) (n c : Nat) (l : List Nat) (B : Option Addr) (m d : Nat) (ml : List Nat) (fails er : Bool) (w : World) (ha : IsB w (.slice A n c) A n c l) (hb : IsB w (.slice B m d) B m d ml) :
    Calls Try.prog 6 #[.slice A n c, .slice B m d, .bool fails, .bool er] w (True1 w) := by
  have hn : n ≤ 140737488351232 := by have := ha.le; have := ha.cap; omega
  have e0 : Hid (geoOk 8 4 128 0) := by show geoOk 8 4 128 0; decide
  have H0 := Lib.hid ha.bts
  have H1 := Lib.hid hb.bts
  have HB := Lib.hid hb
  clear ha hb
  obtain ⟨i0, hi, hz0, hz1, hz2⟩ := info_parts info_u8
  have hmk := fun u => run_make_bytes (P := Try.prog) 30 5 i0 Try.underlying30 hi hz0 hz1 hz2 .i64 .i64 128 128 128 128 rfl rfl (Nat.le_refl _) (by omega) u
  clear hi hz0 hz1 hz2
  go_enter Try.func6, Try.ntmps6
  go_wp2_with fail
  refine (small_any _).mono ?_
  rintro e w1 ⟨rfl, k1⟩
  have K1 := Lib.hid k1
  clear k1
  go_wp2_with fail
  refine (nNew_ok 8 4 128 0 _ e0.out).mono ?_
  rintro e w2 ⟨g, Q, rfl, hc, hq, k2⟩
  have C2 : Hid (NChip Q w2 g ex0) := hc
  have K2 := Lib.hid (K1.out.new k2)
  have HQ : Hid (∀ b, Q b → w.heap.size ≤ b) := fun b hb => Nat.le_trans K1.out.size (hq b hb)
  clear hc hq k2 K1
  obtain ⟨Z, hZ⟩ : ∃ Z, Z = List.replicate 128 0 := ⟨_, rfl⟩
  have HZ := Lib.hid hZ
  rw [← hZ] at hmk
  clear hZ
  have BZ : Hid (Blk (w2.alloc (.cells (rawB Z) 5)) w2.heap.size 5 (Z.map byt)) := Blk.madeB w2 5 Z
  have KZ : Hid (New w2 (w2.alloc (.cells (rawB Z) 5))) := (Kept.refl _ _).alloc _
  go_upto_block 0 with fail
  go_cut [12] (fun _ wx => Hid (Blk wx w2.heap.size 5 ((cycP l).map byt)) ∧ Hid (New w2 wx))
  case first =>
    clear C2 HQ hmk e0
    rcases Nat.eq_zero_or_pos n with h0 | h0
    · subst h0
      obtain rfl : l = [] := List.eq_nil_of_length_eq_zero H0.out.1
      have BE : Hid (Blk (w2.alloc (.cells (rawB Z) 5)) w2.heap.size 5 ((cycP []).map byt)) := by
        have := BZ.out
        rw [HZ.out] at this ⊢
        have e : List.replicate 128 0 = cycP [] := by decide +kernel
        rw [← e]
        exact this
      clear BZ
      go_wp2_with fail
      refine wp_loop_rounds 1 ?_
      rw [rounds_succ]
      go_wp2
      go_meet
      exact ⟨BE, KZ⟩
    · have hnp : (0 : Int) < (n : Int) := by omega
      have BZ2 : Hid (Blk (w2.alloc (.cells (rawB Z) 5)) w2.heap.size 5 ((cycT l 0).map byt)) := by
        have := BZ.out
        rw [HZ.out] at this ⊢
        unfold cycT
        simpa [Hid] using this
      clear BZ
      go_wp2_with fail
      go_loopw [12] (fun i wr => ∃ k : Nat, k ≤ 128 ∧ i = .int .i64 k ∧ Hid (Blk wr w2.heap.size 5 ((cycT l k).map byt)) ∧ Hid (New w2 wr)) (fun i _ => 128 - (intOf i).toNat)
      case atStart => exact ⟨0, by omega, rfl, BZ2, KZ⟩
      case round =>
        obtain ⟨k, hk, rfl, VB, VK⟩ := hrel
        clear BZ2 KZ
        by_cases hlt : k < 128
        · obtain ⟨r, hr⟩ : ∃ r, r = k % n := ⟨_, rfl⟩
          have hrn : r < n := by rw [hr]; exact Nat.mod_lt _ h0
          obtain ⟨ga, o, x, eA, hx, hxb, hc⟩ := (H0.out.new (K2.out.new VK.out)).at_ hrn
          have EA := Lib.hid eA
          have hmod : ((k : Int) % (n : Int)) = (r : Int) := by rw [hr]; omega
          have HMk : Hid (maskF l k = x) := by
            show _ = _
            unfold maskF
            rw [H0.out.1, ← hr, List.getD_eq_getElem?_getD, hx]
            rfl
          have hcell : wr.cell? ⟨w2.heap.size, k, none⟩ = some (.int .u8 0) := by rw [VB.out.cell, List.getElem?_map, cycT_get l k hlt]; rfl
          have hfree := VB.out.free k
          have hri : (r : Int) < (n : Int) := by omega
          clear hr hx
          subst eA
          go_wp2
          go_roundw
          case rel =>
            refine ⟨k + 1, by omega, by go_num, ?_, VK.out.setCell (p := ⟨w2.heap.size, k, none⟩) (fun hh => by simp at hh) _⟩
            have hb1 := VB.out.put k (.int .u8 (x : Int))
            rw [set_any _ k x (.int .u8 (x : Int)) rfl, cycT_step l k hlt x HMk.out] at hb1
            exact hb1
          case measure => simp [intOf]; omega
        · obtain rfl : k = 128 := by omega
          rw [cycT_end] at VB
          go_wp2
          go_meet
          exact ⟨VB, VK⟩
  case rest =>
    obtain ⟨BW, NW⟩ := hcut
    have HWl := Lib.hid (cycP_len l)
    have HWb := Lib.hid (cycP_bytes l H0.out.2.1)
    generalize cycP l = W at *
    have C3 := NChip.new_k C2 NW
    have K3 : Hid (New w wc) := K2.out.new NW.out
    have HAW : Hid (∀ a, (some ⟨w2.heap.size, 0, none⟩ : Option Addr) = some a → ¬ Q a.block) := C2.out.away (Nat.le_refl _)
    have BW3 : Hid (Bts wc (some ⟨w2.heap.size, 0, none⟩) 128 W) := by simpa [Hid] using Bts.of_blkN (off := 0) (junk := []) (by simpa using BW.out) HWb.out HWl.out
    have hgw := BW.out.lt
    clear BW NW C2 K2 BZ KZ HZ hmk
    generalize w2.heap.size = gw at *
    go_wp2_with fail
    refine (nProg_k W K3 C3 HQ BW3 HAW (by show (0 : Nat) < _; omega) 0 (lv1 W) (lv1_eq HWl.out).1 (lv1_eq HWl.out).2).mono ?_
    rintro e w4 ⟨rfl, C4, KQ4, K4⟩
    have BW4 : Hid (Bts w4 (some ⟨gw, 0, none⟩) 128 W) := BW3.out.kept KQ4.out HAW.out
    have hgw4 : gw < w4.heap.size := Nat.lt_of_lt_of_le hgw KQ4.out.size
    clear BW3 C3 K3 KQ4 hgw
    go_wp2_with fail
    refine (nRead_k K4 C4 0 W 128 (lv1_read HWl.out).1 (lv1_read HWl.out).2 HWl.out).mono ?_
    rintro e w5 ⟨A5, c5, rfl, O5, N5, K5⟩
    have BW5 : Hid (Bts w5 (some ⟨gw, 0, none⟩) 128 W) := BW4.out.new N5.out
    have B5 : Hid (Bts w5 A5 128 W) := by have := O5.out.bts; rw [HWl.out] at this; exact this
    have C5 := NChip.new_k C4 N5
    have hgw5 : gw < w5.heap.size := Nat.lt_of_lt_of_le hgw4 N5.out.size
    clear BW4 C4 K4 N5 O5 hgw4
    go_wp2_with fail
    refine (same_kN A5 (some ⟨gw, 0, none⟩) 128 128 c5 128 W W K5 B5 BW5 (by omega) true (decide_eq_true rfl)).mono ?_
    rintro e w6 ⟨rfl, N6, K6⟩
    have BW6 : Hid (Bts w6 (some ⟨gw, 0, none⟩) 128 W) := BW5.out.new N6.out
    have C6 := NChip.new_k C5 N6
    have hgw6 : gw < w6.heap.size := Nat.lt_of_lt_of_le hgw5 N6.out.size
    clear BW5 B5 C5 K5 N6 hgw5
    have A6 : Hid (New w6 (w6.alloc (.cells #[.int .i64 0, .bool fails, .slice B m d] 60))) := (Kept.refl _ _).alloc _
    have HT : Hid (HitsA (w6.alloc (.cells #[.int .i64 0, .bool fails, .slice B m d] 60)) (some ⟨w6.heap.size, 0, none⟩) 1 [⟨0, fails, ml⟩]) :=
      hits_one w6 w6.heap.size fails B m d ml 0 (H1.out.new K6.out) HB.out.nil HB.out.le (by have := HB.out.cap; omega) (by omega) rfl
    have C6' := NChip.new_k C6 A6
    have K6' : Hid (New w (w6.alloc (.cells #[.int .i64 0, .bool fails, .slice B m d] 60))) := K6.out.new A6.out
    have BW6' : Hid (Bts (w6.alloc (.cells #[.int .i64 0, .bool fails, .slice B m d] 60)) (some ⟨gw, 0, none⟩) 128 W) := BW6.out.new A6.out
    have hgw6' : gw < (w6.alloc (.cells #[.int .i64 0, .bool fails, .slice B m d] 60)).heap.size := Nat.lt_of_lt_of_le hgw6 A6.out.size
    have HGW := Lib.hid hgw6'
    clear hgw6'
    go_wp2_with fail
    refine (nHits_k [⟨0, fails, ml⟩] K6' C6' HQ HT (by intro h; cases h) (by omega) 0 (lv2 W fails ml) (lv2_eq (W := W)).1 (lv2_eq (W := W)).2).mono ?_
    rintro e w7 ⟨rfl, ⟨Q2, C7, HS2, HQ2⟩, KQ7, K7⟩
    have BW7 : Hid (Bts w7 (some ⟨gw, 0, none⟩) 128 W) := BW6'.out.kept KQ7.out HAW.out
    have HAW2 : Hid (∀ a, (some ⟨gw, 0, none⟩ : Option Addr) = some a → ¬ Q2 a.block) := fun a ha hq => by
      rcases HS2.out _ hq with h | h
      · exact HAW.out a ha h
      · injection ha with ha
        subst ha
        have h2 := HGW.out
        simp only at h
        omega
    clear BW6 BW6' C6 C6' K6 K6' A6 HT HGW KQ7 HS2 hgw6 HAW HQ
    cases fails <;> cases er
    · have HBad := Lib.hid (lv3_bad (W := W) (mask := ml) (fails := false) (er := false))
      have HRd := Lib.hid (lv4_read (W := W) (mask := ml) (fails := false) (er := false) HWl.out HWb.out H1.out.2.1)
      go_wp2_with fail
      refine (nProg_k W K7 C7 HQ2 BW7 HAW2 (by show (1 : Nat) < _; omega) 10 (lv3 W false ml false) (lv3_prog HWl.out).1 (lv3_prog HWl.out).2).mono ?_
      rintro e w8 ⟨rfl, C8, KQ8, K8⟩
      have BW8 : Hid (Bts w8 (some ⟨gw, 0, none⟩) 128 W) := BW7.out.kept KQ8.out HAW2.out
      clear BW7 C7 K7 KQ8
      go_wp2_with fail
      refine (nPower_k K8 C8 (lv4 W false ml false) rfl).mono ?_
      rintro e w9 ⟨g9, Q9, rfl, C9, -, HQ9, N9, K9⟩
      have BW9 : Hid (Bts w9 (some ⟨gw, 0, none⟩) 128 W) := BW8.out.new N9.out
      clear C8 K8 BW8 N9
      go_wp2_with fail
      refine (nRead_k K9 C9 0 _ 128 HRd.out.1 rfl HRd.out.2.1).mono ?_
      rintro e w10 ⟨A10, c10, rfl, O10, N10, K10⟩
      have BW10 : Hid (Bts w10 (some ⟨gw, 0, none⟩) 128 W) := BW9.out.new N10.out
      have C10 := NChip.new_k C9 N10
      clear C9 K9 BW9 N10
      have HU := Lib.hid HRd.out.2.2
      have HL10 := Lib.hid HRd.out.2.1
      generalize readL (lv4 W false ml false) 3 (lvP false) = L at *
      have B10 : Hid (Bts w10 A10 128 L) := by have := O10.out.bts; rw [HL10.out] at this; exact this
      clear O10
      go_wp2_with fail
      refine (nBad_any _ _ _ 3 _ C10.out).mono ?_
      rintro e w' ⟨rfl, rfl⟩
      rw [HBad.out.2]
      clear C10
      by_cases hLW : L = W
      · have HLW := Lib.hid (decide_eq_true hLW)
        clear hLW
        go_wp2_with fail
        refine (same_kN A10 (some ⟨gw, 0, none⟩) 128 128 c10 128 L W K10 B10 BW10 (by omega) true HLW.out).mono ?_
        rintro e w11 ⟨rfl, -, K11⟩
        go_wp2_with fail
        refine (worksN_k K11).mono ?_
        rintro e w12 ⟨rfl, k12⟩
        have K12 := Lib.hid k12
        clear k12
        go_wp2
        go_ret
        exact ⟨rfl, K12.out⟩
      · have HLW := Lib.hid (decide_eq_false hLW)
        have HLS := Lib.hid ((less_iff L W).2 ⟨HU.out, hLW⟩)
        clear hLW
        go_wp2_with fail
        refine (same_kN A10 (some ⟨gw, 0, none⟩) 128 128 c10 128 L W K10 B10 BW10 (by omega) false HLW.out).mono ?_
        rintro e w11 ⟨rfl, N11, K11⟩
        have B11 : Hid (Bts w11 A10 128 L) := B10.out.new N11.out
        have BW11 : Hid (Bts w11 (some ⟨gw, 0, none⟩) 128 W) := BW10.out.new N11.out
        go_wp2_with fail
        refine (sLess_any A10 (some ⟨gw, 0, none⟩) 128 128 c10 128 L W _ B11.out BW11.out (by unfold maxLen; omega)).mono ?_
        rw [HLS.out]
        rintro e w12 ⟨q, rfl, rfl⟩
        have K12 : Hid (New w (w11.drewN q)) := K11.out.drewN q
        go_wp2_with fail
        refine (worksN_k K12).mono ?_
        rintro e w13 ⟨rfl, k13⟩
        have K13 := Lib.hid k13
        clear k13
        go_wp2
        go_ret
        exact ⟨rfl, K13.out⟩
    · have HBad := Lib.hid (lv3_bad (W := W) (mask := ml) (fails := false) (er := true))
      have HRd := Lib.hid (lv4_read (W := W) (mask := ml) (fails := false) (er := true) HWl.out HWb.out H1.out.2.1)
      go_wp2_with fail
      refine (nErase_k K7 C7 HQ2 (by show (1 : Nat) < _; omega) 10 (lv3 W false ml true) lv3_eras.1 lv3_eras.2).mono ?_
      rintro e w8 ⟨rfl, C8, KQ8, K8⟩
      have BW8 : Hid (Bts w8 (some ⟨gw, 0, none⟩) 128 W) := BW7.out.kept KQ8.out HAW2.out
      clear BW7 C7 K7 KQ8
      go_wp2_with fail
      refine (nPower_k K8 C8 (lv4 W false ml true) rfl).mono ?_
      rintro e w9 ⟨g9, Q9, rfl, C9, -, HQ9, N9, K9⟩
      have BW9 : Hid (Bts w9 (some ⟨gw, 0, none⟩) 128 W) := BW8.out.new N9.out
      clear C8 K8 BW8 N9
      go_wp2_with fail
      refine (nRead_k K9 C9 0 _ 128 HRd.out.1 rfl HRd.out.2.1).mono ?_
      rintro e w10 ⟨A10, c10, rfl, O10, N10, K10⟩
      have BW10 : Hid (Bts w10 (some ⟨gw, 0, none⟩) 128 W) := BW9.out.new N10.out
      have C10 := NChip.new_k C9 N10
      clear C9 K9 BW9 N10
      have HU := Lib.hid HRd.out.2.2
      have HL10 := Lib.hid HRd.out.2.1
      generalize readL (lv4 W false ml true) 3 (lvP true) = L at *
      have B10 : Hid (Bts w10 A10 128 L) := by have := O10.out.bts; rw [HL10.out] at this; exact this
      clear O10
      go_wp2_with fail
      refine (nBad_any _ _ _ 3 _ C10.out).mono ?_
      rintro e w' ⟨rfl, rfl⟩
      rw [HBad.out.2]
      clear C10
      by_cases hLW : L = W
      · have HLW := Lib.hid (decide_eq_true hLW)
        clear hLW
        go_wp2_with fail
        refine (same_kN A10 (some ⟨gw, 0, none⟩) 128 128 c10 128 L W K10 B10 BW10 (by omega) true HLW.out).mono ?_
        rintro e w11 ⟨rfl, -, K11⟩
        go_wp2_with fail
        refine (worksN_k K11).mono ?_
        rintro e w12 ⟨rfl, k12⟩
        have K12 := Lib.hid k12
        clear k12
        go_wp2
        go_ret
        exact ⟨rfl, K12.out⟩
      · have HLW := Lib.hid (decide_eq_false hLW)
        have HLS := Lib.hid ((less_iff L W).2 ⟨HU.out, hLW⟩)
        clear hLW
        go_wp2_with fail
        refine (same_kN A10 (some ⟨gw, 0, none⟩) 128 128 c10 128 L W K10 B10 BW10 (by omega) false HLW.out).mono ?_
        rintro e w11 ⟨rfl, N11, K11⟩
        have B11 : Hid (Bts w11 A10 128 L) := B10.out.new N11.out
        have BW11 : Hid (Bts w11 (some ⟨gw, 0, none⟩) 128 W) := BW10.out.new N11.out
        go_wp2_with fail
        refine (sLess_any A10 (some ⟨gw, 0, none⟩) 128 128 c10 128 L W _ B11.out BW11.out (by unfold maxLen; omega)).mono ?_
        rw [HLS.out]
        rintro e w12 ⟨q, rfl, rfl⟩
        have K12 : Hid (New w (w11.drewN q)) := K11.out.drewN q
        go_wp2_with fail
        refine (worksN_k K12).mono ?_
        rintro e w13 ⟨rfl, k13⟩
        have K13 := Lib.hid k13
        clear k13
        go_wp2
        go_ret
        exact ⟨rfl, K13.out⟩
    · have HBad := Lib.hid (lv3_bad (W := W) (mask := ml) (fails := true) (er := false))
      have HRd := Lib.hid (lv4_read (W := W) (mask := ml) (fails := true) (er := false) HWl.out HWb.out H1.out.2.1)
      go_wp2_with fail
      refine (nProg_k W K7 C7 HQ2 BW7 HAW2 (by show (1 : Nat) < _; omega) 9 (lv3 W true ml false) (lv3_prog HWl.out).1 (lv3_prog HWl.out).2).mono ?_
      rintro e w8 ⟨rfl, C8, KQ8, K8⟩
      have BW8 : Hid (Bts w8 (some ⟨gw, 0, none⟩) 128 W) := BW7.out.kept KQ8.out HAW2.out
      go_wp2_with fail
      refine (nBad_any _ _ _ 3 _ C8.out).mono ?_
      rintro e w' ⟨rfl, rfl⟩
      rw [HBad.out.1]
      clear BW7 C7 K7 KQ8
      go_wp2_with fail
      refine (nPower_k K8 C8 (lv4 W true ml false) rfl).mono ?_
      rintro e w9 ⟨g9, Q9, rfl, C9, -, HQ9, N9, K9⟩
      have BW9 : Hid (Bts w9 (some ⟨gw, 0, none⟩) 128 W) := BW8.out.new N9.out
      clear C8 K8 BW8 N9
      go_wp2_with fail
      refine (nRead_k K9 C9 0 _ 128 HRd.out.1 rfl HRd.out.2.1).mono ?_
      rintro e w10 ⟨A10, c10, rfl, O10, N10, K10⟩
      have BW10 : Hid (Bts w10 (some ⟨gw, 0, none⟩) 128 W) := BW9.out.new N10.out
      have C10 := NChip.new_k C9 N10
      clear C9 K9 BW9 N10
      have HU := Lib.hid HRd.out.2.2
      have HL10 := Lib.hid HRd.out.2.1
      generalize readL (lv4 W true ml false) 3 (lvP false) = L at *
      have B10 : Hid (Bts w10 A10 128 L) := by have := O10.out.bts; rw [HL10.out] at this; exact this
      clear O10
      go_wp2_with fail
      refine (nBad_any _ _ _ 3 _ C10.out).mono ?_
      rintro e w' ⟨rfl, rfl⟩
      rw [HBad.out.2]
      clear C10
      by_cases hLW : L = W
      · have HLW := Lib.hid (decide_eq_true hLW)
        clear hLW
        go_wp2_with fail
        refine (same_kN A10 (some ⟨gw, 0, none⟩) 128 128 c10 128 L W K10 B10 BW10 (by omega) true HLW.out).mono ?_
        rintro e w11 ⟨rfl, -, K11⟩
        go_wp2_with fail
        refine (worksN_k K11).mono ?_
        rintro e w12 ⟨rfl, k12⟩
        have K12 := Lib.hid k12
        clear k12
        go_wp2
        go_ret
        exact ⟨rfl, K12.out⟩
      · have HLW := Lib.hid (decide_eq_false hLW)
        have HLS := Lib.hid ((less_iff L W).2 ⟨HU.out, hLW⟩)
        clear hLW
        go_wp2_with fail
        refine (same_kN A10 (some ⟨gw, 0, none⟩) 128 128 c10 128 L W K10 B10 BW10 (by omega) false HLW.out).mono ?_
        rintro e w11 ⟨rfl, N11, K11⟩
        have B11 : Hid (Bts w11 A10 128 L) := B10.out.new N11.out
        have BW11 : Hid (Bts w11 (some ⟨gw, 0, none⟩) 128 W) := BW10.out.new N11.out
        go_wp2_with fail
        refine (sLess_any A10 (some ⟨gw, 0, none⟩) 128 128 c10 128 L W _ B11.out BW11.out (by unfold maxLen; omega)).mono ?_
        rw [HLS.out]
        rintro e w12 ⟨q, rfl, rfl⟩
        have K12 : Hid (New w (w11.drewN q)) := K11.out.drewN q
        go_wp2_with fail
        refine (worksN_k K12).mono ?_
        rintro e w13 ⟨rfl, k13⟩
        have K13 := Lib.hid k13
        clear k13
        go_wp2
        go_ret
        exact ⟨rfl, K13.out⟩
    · have HBad := Lib.hid (lv3_bad (W := W) (mask := ml) (fails := true) (er := true))
      have HRd := Lib.hid (lv4_read (W := W) (mask := ml) (fails := true) (er := true) HWl.out HWb.out H1.out.2.1)
      go_wp2_with fail
      refine (nErase_k K7 C7 HQ2 (by show (1 : Nat) < _; omega) 9 (lv3 W true ml true) lv3_eras.1 lv3_eras.2).mono ?_
      rintro e w8 ⟨rfl, C8, KQ8, K8⟩
      have BW8 : Hid (Bts w8 (some ⟨gw, 0, none⟩) 128 W) := BW7.out.kept KQ8.out HAW2.out
      go_wp2_with fail
      refine (nBad_any _ _ _ 3 _ C8.out).mono ?_
      rintro e w' ⟨rfl, rfl⟩
      rw [HBad.out.1]
      clear BW7 C7 K7 KQ8
      go_wp2_with fail
      refine (nPower_k K8 C8 (lv4 W true ml true) rfl).mono ?_
      rintro e w9 ⟨g9, Q9, rfl, C9, -, HQ9, N9, K9⟩
      have BW9 : Hid (Bts w9 (some ⟨gw, 0, none⟩) 128 W) := BW8.out.new N9.out
      clear C8 K8 BW8 N9
      go_wp2_with fail
      refine (nRead_k K9 C9 0 _ 128 HRd.out.1 rfl HRd.out.2.1).mono ?_
      rintro e w10 ⟨A10, c10, rfl, O10, N10, K10⟩
      have BW10 : Hid (Bts w10 (some ⟨gw, 0, none⟩) 128 W) := BW9.out.new N10.out
      have C10 := NChip.new_k C9 N10
      clear C9 K9 BW9 N10
      have HU := Lib.hid HRd.out.2.2
      have HL10 := Lib.hid HRd.out.2.1
      generalize readL (lv4 W true ml true) 3 (lvP true) = L at *
      have B10 : Hid (Bts w10 A10 128 L) := by have := O10.out.bts; rw [HL10.out] at this; exact this
      clear O10
      go_wp2_with fail
      refine (nBad_any _ _ _ 3 _ C10.out).mono ?_
      rintro e w' ⟨rfl, rfl⟩
      rw [HBad.out.2]
      clear C10
      by_cases hLW : L = W
      · have HLW := Lib.hid (decide_eq_true hLW)
        clear hLW
        go_wp2_with fail
        refine (same_kN A10 (some ⟨gw, 0, none⟩) 128 128 c10 128 L W K10 B10 BW10 (by omega) true HLW.out).mono ?_
        rintro e w11 ⟨rfl, -, K11⟩
        go_wp2_with fail
        refine (worksN_k K11).mono ?_
        rintro e w12 ⟨rfl, k12⟩
        have K12 := Lib.hid k12
        clear k12
        go_wp2
        go_ret
        exact ⟨rfl, K12.out⟩
      · have HLW := Lib.hid (decide_eq_false hLW)
        have HLS := Lib.hid ((less_iff L W).2 ⟨HU.out, hLW⟩)
        clear hLW
        go_wp2_with fail
        refine (same_kN A10 (some ⟨gw, 0, none⟩) 128 128 c10 128 L W K10 B10 BW10 (by omega) false HLW.out).mono ?_
        rintro e w11 ⟨rfl, N11, K11⟩
        have B11 : Hid (Bts w11 A10 128 L) := B10.out.new N11.out
        have BW11 : Hid (Bts w11 (some ⟨gw, 0, none⟩) 128 W) := BW10.out.new N11.out
        go_wp2_with fail
        refine (sLess_any A10 (some ⟨gw, 0, none⟩) 128 128 c10 128 L W _ B11.out BW11.out (by unfold maxLen; omega)).mono ?_
        rw [HLS.out]
        rintro e w12 ⟨q, rfl, rfl⟩
        have K12 : Hid (New w (w11.drewN q)) := K11.out.drewN q
        go_wp2_with fail
        refine (worksN_k K12).mono ?_
        rintro e w13 ⟨rfl, k13⟩
        have K13 := Lib.hid k13
        clear k13
        go_wp2
        go_ret
        exact ⟨rfl, K13.out⟩

set_option maxRecDepth 100000 in
theorem lifted (os : Os) (started : os.Started) (H : Type) (enc : TypeId × Value → H) :
    ReturnsInHanded {} Try.checked os 6 .any (Rows.nandLeavesSpec.pre6 enc Try.prog Try.f6 Rows.nandLeavesRow.domain false) (Rows.nandLeavesSpec.post enc Try.prog Try.f6 false true false false) := by
  refine lift_new (C := Try.checked) (s := Rows.nandLeavesSpec) (tb := 4) own started (by kernel_rfl) Try.func6
    (ChangeSpec.witness6 (enc := enc) (C := Try.checked) false ⟨#[], #[.slice none 0 0, .slice none 0 0, .bool false, .bool false], []⟩ 8 (by kernel_rfl) (by kernel_rfl) (by kernel_rfl) (by kernel_rfl))
    rfl (by kernel_rfl) Try.underlying4 ?_ laidOut (of_decide_eq_true (by kernel_rfl)) ?_
  · intro ds hd
    match ds, hd with
    | [d0, d1, d2, d3], _ => exact ⟨rfl, rfl, rfl⟩
  · intro W base args ds hA
    have hA : Args enc Try.prog W base Try.f6.params.toList args.toList ds := hA
    rw [Try.params6] at hA
    obtain ⟨v0, vs0, d0, ds0, p0, hargs, rfl, a0, hA⟩ := hA.cons_
    obtain ⟨v1, vs1, d1, ds1, p1, rfl, rfl, a1, hA⟩ := hA.cons_
    obtain ⟨v2, vs2, d2, ds2, p2, rfl, rfl, a2, hA⟩ := hA.cons_
    obtain ⟨v3, vs3, d3, ds3, p3, rfl, rfl, a3, hA⟩ := hA.cons_
    obtain ⟨rfl, rfl⟩ := hA.nil_
    obtain rfl : args = #[v0, v1, v2, v3] := by cases args; simp_all
    obtain ⟨A0, n0, c0, l0, b0⟩ := a0.bytes_ Try.underlying30 Try.underlying5 (by kernel_rfl) (by kernel_rfl)
    obtain rfl := b0.val
    obtain ⟨A1, n1, c1, l1, b1⟩ := a1.bytes_ Try.underlying30 Try.underlying5 (by kernel_rfl) (by kernel_rfl)
    obtain rfl := b1.val
    obtain ⟨x2, rfl⟩ := a2.bool_ Try.underlying4
    obtain ⟨x3, rfl⟩ := a3.bool_ Try.underlying4
    exact walk A0 n0 c0 l0 A1 n1 c1 l1 x2 x3 W b0 b1

theorem over : Rows.nandLeavesRow.holds Try.pinned (OpenSpec.ofChange Rows.nandLeavesSpec) :=
  OpenClaim.holds_of_wide 6 Try.f6 rfl rfl rfl rfl rfl rfl rfl ⟨rfl, rfl, rfl, rfl, rfl⟩ rfl rfl rfl rfl rfl (by kernel_rfl) Try.func6 (by kernel_rfl)
    (of_decide_eq_true (by kernel_rfl)) (by unfold Func.isWrapper; first | (rw [if_pos (by decide +kernel)]; kernel_rfl) | (rw [if_neg (by decide +kernel)]; exact ⟨rfl, rfl⟩))
    (fun os started H enc _ => lifted os started H enc)

theorem proved : Rows.NandLeavesSaid := over
end Go.Proofs.Yteifkggfaefahaa.nandLeaves
