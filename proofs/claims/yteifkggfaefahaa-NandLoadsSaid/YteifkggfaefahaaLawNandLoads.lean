/-
  NandLoads: a chip of whatever bytes and bad blocks is the document's, or its error; for every bytes, list and flag.
-/
import Derived.Test.YteifkggfaefahaaRf
namespace Go.Proofs.Yteifkggfaefahaa.nandLoads
open Go.ChangeShapes Go.WideShapes Go.ChangeAt Go.RowKit

theorem own : ownKnob Try.prog.godebug = none := by kernel_rfl
theorem laidOut : laidOutB Try.prog = true := by kernel_rfl

/-- N bytes that go round. -/
def cyN (l : List Nat) (N : Nat) : List Nat := (List.range N).map (maskF l)
theorem cyN_len (l : List Nat) (N : Nat) : (cyN l N).length = N := by simp [cyN]
theorem cyN_bytes (l : List Nat) (N : Nat) (hb : IsBytes l) : IsBytes (cyN l N) := by
  intro x hx
  obtain ⟨i, _, rfl⟩ := List.mem_map.1 hx
  exact maskF_lt l hb i
theorem cyN_nil (N : Nat) : cyN [] N = List.replicate N 0 := by
  apply List.ext_getElem?
  intro i
  unfold cyN
  rcases Nat.lt_or_ge i N with h | h
  · simp [h, maskF]
  · rw [List.getElem?_eq_none (by simp; exact h), List.getElem?_eq_none (by simp; exact h)]
def cyT (l : List Nat) (N k : Nat) : List Nat := (cyN l N).take k ++ List.replicate (N - k) 0
theorem cyT_step (l : List Nat) (N k : Nat) (hk : k < N) (x : Nat) (hx : maskF l k = x) : (cyT l N k).set k x = cyT l N (k + 1) := by
  have hl : ((cyN l N).take k).length = k := by rw [List.length_take, cyN_len]; omega
  have hg : (cyN l N)[k]? = some x := by simp [cyN, hk, hx]
  have hkl : k < (cyN l N).length := by rw [cyN_len]; exact hk
  unfold cyT
  rw [List.set_append_right _ _ (by omega), hl, Nat.sub_self, show N - k = (N - (k + 1)) + 1 from by omega, List.replicate_succ, List.set_cons_zero, List.take_succ_eq_append_getElem hkl, (List.getElem?_eq_some_iff.1 hg).2]
  simp
theorem cyT_get (l : List Nat) (N k : Nat) (hk : k < N) : (cyT l N k)[k]? = some 0 := by
  have hl : ((cyN l N).take k).length = k := by rw [List.length_take, cyN_len]; omega
  unfold cyT
  rw [List.getElem?_append_right (by omega), hl, Nat.sub_self, List.getElem?_replicate, if_pos (by omega)]
theorem cyT_end (l : List Nat) (N : Nat) : cyT l N N = cyN l N := by
  unfold cyT
  rw [List.take_of_length_le (by rw [cyN_len]; exact Nat.le_refl _)]
  simp
theorem cyT_zero (l : List Nat) (N : Nat) : cyT l N 0 = List.replicate N 0 := by simp [cyT]

set_option maxRecDepth 100000 in
set_option maxHeartbeats 6400000 in
theorem walk (A : Option Addr) (n c : Nat) (l : List Nat) (B : Option Addr) (m d : Nat) (bl : List Int) (more : Bool) (w : World) (ha : IsB w (.slice A n c) A n c l) (hb : IsIN w .i64 (.slice B m d) B m d bl) :
    Calls Try.prog 4 #[.slice A n c, .slice B m d, .bool more] w (True1 w) := by
  have hn : n ≤ 140737488351232 := by have := ha.le; have := ha.cap; omega
  have hm : m ≤ 9223372036854775807 := by have := hb.le; have := hb.cap; unfold maxLen at this; omega
  have e0 : Hid (geoOk ((8 : Nat) : Int) ((4 : Nat) : Int) ((128 : Nat) : Int) ((0 : Nat) : Int)) := by show geoOk 8 4 128 0; decide
  have H0 := Lib.hid ha.bts
  have HB := Lib.hid hb.ins
  clear ha hb
  obtain ⟨i0, hi, hz0, hz1, hz2⟩ := info_parts info_u8
  have hmk := fun u => run_make_bytes (P := Try.prog) 30 5 i0 Try.underlying30 hi hz0 hz1 hz2 .i64 .i64 4096 4096 4096 4096 rfl rfl (Nat.le_refl _) (by omega) u
  obtain ⟨N, hN⟩ : ∃ N : Nat, N = 4096 := ⟨_, rfl⟩
  have HN := Lib.hid hN
  obtain ⟨Z, hZ⟩ : ∃ Z, Z = List.replicate 4096 0 := ⟨_, rfl⟩
  have HZ : Hid (Z = List.replicate N 0) := by show _ = _; rw [hZ, hN]
  rw [← hZ] at hmk
  clear hZ hN
  go_enter Try.func4, Try.ntmps4
  go_wp2_with fail
  refine (small_any _).mono ?_
  rintro e w1 ⟨rfl, k1⟩
  have K1 : Hid (New w (w1.alloc (.cells #[.int .i64 8, .int .i64 4, .int .i64 128, .int .i64 0] 23))) := k1.alloc _
  have BG : Hid (Blk (w1.alloc (.cells #[.int .i64 8, .int .i64 4, .int .i64 128, .int .i64 0] 23)) w1.heap.size 23 [.int .i64 8, .int .i64 4, .int .i64 128, .int .i64 0]) := Blk.made w1 _ _
  clear k1
  obtain ⟨w2, hw2⟩ : ∃ w2, w2 = w1.alloc (.cells #[.int .i64 8, .int .i64 4, .int .i64 128, .int .i64 0] 23) := ⟨_, rfl⟩
  have hs2 : w1.heap.size + 1 = w2.heap.size := by rw [hw2]; simp
  have HS2 := Lib.hid hs2
  rw [← hw2] at K1 BG
  have HW2 := Lib.hid hw2
  have BZ : Hid (Blk (w2.alloc (.cells (rawB Z) 5)) w2.heap.size 5 (Z.map byt)) := Blk.madeB w2 5 Z
  have KZ : Hid (New w2 (w2.alloc (.cells (rawB Z) 5))) := (Kept.refl _ _).alloc _
  clear hw2 hs2
  go_upto_block 0 with fail
  rw [← HW2.out]
  have hgS := HS2.out
  clear HW2 HS2 hmk
  generalize w1.heap.size + 1 = gall at *
  subst hgS
  go_cut [10] (fun _ wx => Hid (Blk wx w2.heap.size 5 ((cyN l N).map byt)) ∧ Hid (New w2 wx))
  case first =>
    rcases Nat.eq_zero_or_pos n with h0 | h0
    · subst h0
      obtain rfl : l = [] := List.eq_nil_of_length_eq_zero H0.out.1
      have BE : Hid (Blk (w2.alloc (.cells (rawB Z) 5)) w2.heap.size 5 ((cyN [] N).map byt)) := by
        rw [cyN_nil, ← HZ.out]
        exact BZ
      clear BZ
      go_wp2_with fail
      refine wp_loop_rounds 1 ?_
      rw [rounds_succ]
      go_wp2
      go_meet
      exact ⟨BE, KZ⟩
    · have hnp : (0 : Int) < (n : Int) := by omega
      have BZ2 : Hid (Blk (w2.alloc (.cells (rawB Z) 5)) w2.heap.size 5 ((cyT l N 0).map byt)) := by
        rw [cyT_zero, ← HZ.out]
        exact BZ
      clear BZ
      go_wp2_with fail
      go_loopw [10] (fun i wr => ∃ k : Nat, k ≤ 4096 ∧ i = .int .i64 k ∧ Hid (Blk wr w2.heap.size 5 ((cyT l N k).map byt)) ∧ Hid (New w2 wr)) (fun i _ => 4096 - (intOf i).toNat)
      case atStart => exact ⟨0, by omega, rfl, BZ2, KZ⟩
      case round =>
        obtain ⟨k, hk, rfl, VB, VK⟩ := hrel
        clear BZ2 KZ
        by_cases hlt : k < 4096
        · obtain ⟨r, hr⟩ : ∃ r, r = k % n := ⟨_, rfl⟩
          have hrn : r < n := by rw [hr]; exact Nat.mod_lt _ h0
          obtain ⟨ga, o, x, eA, hx, hxb, hc⟩ := (H0.out.new (K1.out.new VK.out)).at_ hrn
          have EA := Lib.hid eA
          have hmod : ((k : Int) % (n : Int)) = (r : Int) := by rw [hr]; omega
          have HMk : Hid (maskF l k = x) := by
            show _ = _
            unfold maskF
            rw [H0.out.1, ← hr, List.getD_eq_getElem?_getD, hx]
            rfl
          have HKN : Hid (k < N) := by rw [HN.out]; exact hlt
          have hcell : wr.cell? ⟨w2.heap.size, k, none⟩ = some (.int .u8 0) := by rw [VB.out.cell, List.getElem?_map, cyT_get l N k HKN.out]; rfl
          have hfree := VB.out.free k
          have hri : (r : Int) < (n : Int) := by omega
          clear hr hx
          subst eA
          go_wp2
          go_roundw
          case rel =>
            refine ⟨k + 1, by omega, by go_num, ?_, VK.out.setCell (p := ⟨w2.heap.size, k, none⟩) (fun hh => by simp at hh) _⟩
            have hb1 := VB.out.put k (.int .u8 (x : Int))
            rw [set_any _ k x (.int .u8 (x : Int)) rfl, cyT_step l N k HKN.out x HMk.out] at hb1
            exact hb1
          case measure => simp [intOf]; omega
        · have hkN : k = N := by have := HN.out; omega
          rw [hkN, cyT_end] at VB
          clear hkN
          go_wp2
          go_meet
          exact ⟨VB, VK⟩
  case rest =>
    obtain ⟨BW, NW⟩ := hcut
    have HWl : Hid ((cyN l N).length = 4096) := (cyN_len l N).trans HN.out
    have HWb := Lib.hid (cyN_bytes l N H0.out.2.1)
    generalize cyN l N = W at *
    have K3 : Hid (New w wc) := K1.out.new NW.out
    have BG3 : Hid (Blk wc w1.heap.size 23 [.int .i64 8, .int .i64 4, .int .i64 128, .int .i64 0]) := BG.out.new NW.out
    have BW3 : Hid (Bts wc (some ⟨w2.heap.size, 0, none⟩) 4096 W) := by simpa [Hid] using Bts.of_blkN (off := 0) (junk := []) (by simpa using BW.out) HWb.out HWl.out
    have HB3 : Hid (InsN wc .i64 B m bl) := HB.out.new K3.out
    have hgg := BG3.out.lt
    generalize hgn : w2.heap.size = gall at *
    generalize w1.heap.size = gg at *
    have g0 : wc.cell? ⟨gg, 0, none⟩ = some (.int .i64 8) := BG3.out.cell 0
    have g1 : wc.cell? ⟨gg, 1, none⟩ = some (.int .i64 4) := BG3.out.cell 1
    have g2 : wc.cell? ⟨gg, 2, none⟩ = some (.int .i64 128) := BG3.out.cell 2
    have g3 : wc.cell? ⟨gg, 3, none⟩ = some (.int .i64 0) := BG3.out.cell 3
    clear BZ KZ NW BG HZ H0 HN
    cases more
    · clear K1 hgn
      go_wp2_with fail
      by_cases hall : allIn 8 bl
      · have HALL := Lib.hid hall
        clear hall
        refine (nLoad_any 8 4 128 0 _ 4096 4096 W B m d bl _ e0.out BW3.out (by intro h; cases h) (by omega) HB3.out hm (by omega)).mono ?_
        rintro e w4 ⟨h1, -⟩
        obtain ⟨g, Qc, rfl, hc, hq, hk⟩ := h1 HALL.out
        have C4 := Lib.hid hc
        have N4 := Lib.hid hk
        have HQc : Hid (∀ b, Qc b → w.heap.size ≤ b) := fun b hb => Nat.le_trans K3.out.size (hq b hb)
        have K4 : Hid (New w w4) := K3.out.new hk
        have BW4 : Hid (Bts w4 (some ⟨gall, 0, none⟩) 4096 W) := BW3.out.new hk
        have HB4 : Hid (InsN w4 .i64 B m bl) := HB3.out.new hk
        have g0' : w4.cell? ⟨gg, 0, none⟩ = some (.int .i64 8) := hk.cell g0 (fun f => f)
        have g1' : w4.cell? ⟨gg, 1, none⟩ = some (.int .i64 4) := hk.cell g1 (fun f => f)
        have g2' : w4.cell? ⟨gg, 2, none⟩ = some (.int .i64 128) := hk.cell g2 (fun f => f)
        have g3' : w4.cell? ⟨gg, 3, none⟩ = some (.int .i64 0) := hk.cell g3 (fun f => f)
        clear h1 hc hq hk g0 g1 g2 g3 BW3 HB3 K3 BG3
        go_wp2_with fail
        refine (rLoad_any 8 4 128 0 _ 4096 4096 W B m d bl _ e0.out BW4.out HB4.out hm (by omega)).mono ?_
        rintro e w5 ⟨h1, -⟩
        obtain ⟨gr, Qr, rfl, hc, hq, hk⟩ := h1 HALL.out
        have C5 : Hid (NChip Qc w5 g (loadS 8 4 128 0 W bl)) := C4.out.new hk
        have R5 := Lib.hid hc
        have HQr : Hid (∀ b, Qr b → w.heap.size ≤ b) := fun b hb => Nat.le_trans K4.out.size (hq b hb)
        have HAp : Hid (∀ b, Qc b → ¬ Qr b) := fun b h1 h2 => by
          have := C4.out.low b h1
          have := hq b h2
          omega
        have K5 : Hid (New w w5) := K4.out.new hk
        clear h1 hc hq hk g0' g1' g2' g3' BW4 HB4 K4 C4 N4
        have HPr : Hid (Pair w (w5.alloc (.cells #[.pointer (some ⟨g, 0, none⟩), .pointer (some ⟨gr, 0, none⟩)] 41)) w5.heap.size Qc Qr g gr (loadS 8 4 128 0 W bl)) :=
          { pair := Blk.made w5 _ _, newp := K5.out.size, chip := C5.out.new ((Kept.refl _ _).alloc _), ref := R5.out.new ((Kept.refl _ _).alloc _), apart := HAp.out, newc := HQc.out, newr := HQr.out,
            pc := fun hh => by have := C5.out.low _ hh; omega, pr := fun hh => by have := R5.out.low _ hh; omega }
        have K6 : Hid (New w (w5.alloc (.cells #[.pointer (some ⟨g, 0, none⟩), .pointer (some ⟨gr, 0, none⟩)] 41))) := K5.out.alloc _
        clear C5 R5 HAp K5 HQc HQr
        go_wp2_with fail
        refine (pSame_any w _ Qc Qr g gr _ _ HPr.out).mono ?_
        rintro e w7 ⟨rfl, k7⟩
        have K7 : Hid (New w w7) := K6.out.new k7
        clear k7
        go_wp2_with fail
        refine (worksN_k K7).mono ?_
        rintro e w9 ⟨rfl, k9⟩
        have K9 := Lib.hid k9
        clear k9
        go_wp2
        go_ret
        exact ⟨rfl, K9.out⟩
      · have HALL := Lib.hid hall
        clear hall
        refine (nLoad_any 8 4 128 0 _ 4096 4096 W B m d bl _ e0.out BW3.out (by intro h; cases h) (by omega) HB3.out hm (by omega)).mono ?_
        rintro e w4 ⟨-, h1⟩
        obtain ⟨rfl, hk⟩ := h1 HALL.out
        have K4 : Hid (New w w4) := K3.out.new hk
        have BW4 : Hid (Bts w4 (some ⟨gall, 0, none⟩) 4096 W) := BW3.out.new hk
        have HB4 : Hid (InsN w4 .i64 B m bl) := HB3.out.new hk
        have g0' : w4.cell? ⟨gg, 0, none⟩ = some (.int .i64 8) := hk.cell g0 (fun f => f)
        have g1' : w4.cell? ⟨gg, 1, none⟩ = some (.int .i64 4) := hk.cell g1 (fun f => f)
        have g2' : w4.cell? ⟨gg, 2, none⟩ = some (.int .i64 128) := hk.cell g2 (fun f => f)
        have g3' : w4.cell? ⟨gg, 3, none⟩ = some (.int .i64 0) := hk.cell g3 (fun f => f)
        clear h1 hk g0 g1 g2 g3 BW3 HB3 K3 BG3
        go_wp2_with fail
        refine (rLoad_any 8 4 128 0 _ 4096 4096 W B m d bl _ e0.out BW4.out HB4.out hm (by omega)).mono ?_
        rintro e w5 ⟨-, h1⟩
        obtain ⟨rfl, hk⟩ := h1 HALL.out
        have K5 : Hid (New w w5) := K4.out.new hk
        clear h1 hk g0' g1' g2' g3' BW4 HB4 K4
        go_wp2_with fail
        refine (worksN_k K5).mono ?_
        rintro e w9 ⟨rfl, k9⟩
        have K9 := Lib.hid k9
        clear k9
        go_wp2
        go_ret
        exact ⟨rfl, K9.out⟩
    · have A3 : New wc (wc.alloc (.cells #[.int .u8 1] 5)) := (Kept.refl _ _).alloc _
      have BWa : Hid (OwnB (wc.alloc (.cells #[.int .u8 1] 5)) 5 0 (some ⟨gall, 0, none⟩) 4096 W) := OwnB.of_blk (sp := []) (by rw [List.append_nil]; exact BW.out.new A3) (Nat.zero_le _) (by rw [List.append_nil]; exact HWb.out) (by rw [HWl.out]; rfl) (by unfold maxLen; omega)
      have B1 : Hid (Bts (wc.alloc (.cells #[.int .u8 1] 5)) (some ⟨wc.heap.size, 0, none⟩) 1 [1]) := Bts.one wc 5 1 _ (by omega) rfl
      have hwl : 4096 = W.length := HWl.out.symm
      have HW2 := Lib.hid hwl
      have hsm : Hid (W.length + 1 ≤ 140737488355328) := by show _ ≤ _; omega
      have hne : gg ≠ gall := BG3.out.ne_of BW.out (by decide)
      have HNe := Lib.hid hne
      have BGa : Hid (Blk (wc.alloc (.cells #[.int .u8 1] 5)) gg 23 [.int .i64 8, .int .i64 4, .int .i64 128, .int .i64 0]) := BG3.out.new A3
      have Ka : Hid (New w (wc.alloc (.cells #[.int .u8 1] 5))) := K3.out.new A3
      have HGa : Hid (w.heap.size ≤ gall) := by rw [← hgn]; exact K1.out.size
      clear hwl hne A3 BW3 HB3 BG3 hgn
      go_wp2_with (at_builtin; refine wpList_append_bytes _ rfl _ _ _ rfl 5 i0 Try.underlying30 hi hz0 hz1 hz2 0 (some ⟨gall, 0, none⟩) 4096 4096 W rfl BWa.out HW2.out (some ⟨wc.heap.size, 0, none⟩) 1 1 [1] rfl B1.out hsm.out (Nat.zero_le _) ?_)
      intro A5 c5 w5 ho hg _
      have kg : Kept (· = gall) (wc.alloc (.cells #[.int .u8 1] 5)) w5 := (Kept.refl _ _).grown hg (fun q _ e => by simp at e; exact e.symm)
      have BG5 : Hid (Blk w5 gg 23 [.int .i64 8, .int .i64 4, .int .i64 128, .int .i64 0]) := BGa.out.kept kg HNe.out
      have K5 : Hid (New w w5) := Ka.out.trans kg fun i hi e => by have := HGa.out; omega
      clear ho hg kg BWa B1 HW2 hsm BGa Ka g0 g1 g2 g3 K3 K1
      have g0 : w5.cell? ⟨gg, 0, none⟩ = some (.int .i64 8) := BG5.out.cell 0
      have g1 : w5.cell? ⟨gg, 1, none⟩ = some (.int .i64 4) := BG5.out.cell 1
      have g2 : w5.cell? ⟨gg, 2, none⟩ = some (.int .i64 128) := BG5.out.cell 2
      have g3 : w5.cell? ⟨gg, 3, none⟩ = some (.int .i64 0) := BG5.out.cell 3
      have hgg5 := BG5.out.lt
      clear hgg
      go_wp2_with fail
      refine (nLoad_len 8 4 128 0 _ 4097 _ B m d _ e0.out (by omega) (by omega)).mono ?_
      rintro e w6 ⟨rfl, hk⟩
      have K6 : Hid (New w w6) := K5.out.new hk
      have BG6 := Lib.hid (BG5.out.new hk)
      clear hk g0 g1 g2 g3 BG5 K5 hgg5
      have g0 : w6.cell? ⟨gg, 0, none⟩ = some (.int .i64 8) := BG6.out.cell 0
      have g1 : w6.cell? ⟨gg, 1, none⟩ = some (.int .i64 4) := BG6.out.cell 1
      have g2 : w6.cell? ⟨gg, 2, none⟩ = some (.int .i64 128) := BG6.out.cell 2
      have g3 : w6.cell? ⟨gg, 3, none⟩ = some (.int .i64 0) := BG6.out.cell 3
      have hgg6 := BG6.out.lt
      go_wp2_with fail
      refine (rLoad_len 8 4 128 0 _ 4097 _ B m d _ e0.out (by omega) (by omega)).mono ?_
      rintro e w7 ⟨rfl, hk⟩
      have K7 : Hid (New w w7) := K6.out.new hk
      clear hk g0 g1 g2 g3 BG6 K6 hgg6
      go_wp2_with fail
      refine (worksN_k K7).mono ?_
      rintro e w9 ⟨rfl, k9⟩
      have K9 := Lib.hid k9
      clear k9
      go_wp2
      go_ret
      exact ⟨rfl, K9.out⟩

set_option maxRecDepth 100000 in
theorem lifted (os : Os) (started : os.Started) (H : Type) (enc : TypeId × Value → H) :
    ReturnsInHanded {} Try.checked os 4 .any (Rows.nandLoadsSpec.pre6 enc Try.prog Try.f4 Rows.nandLoadsRow.domain false) (Rows.nandLoadsSpec.post enc Try.prog Try.f4 false true false false) := by
  refine lift_new (C := Try.checked) (s := Rows.nandLoadsSpec) (tb := 4) own started (by kernel_rfl) Try.func4
    (ChangeSpec.witness6 (enc := enc) (C := Try.checked) false ⟨#[], #[.slice none 0 0, .slice none 0 0, .bool false], []⟩ 8 (by kernel_rfl) (by kernel_rfl) (by kernel_rfl) (by kernel_rfl))
    rfl (by kernel_rfl) Try.underlying4 ?_ laidOut (of_decide_eq_true (by kernel_rfl)) ?_
  · intro ds hd
    match ds, hd with
    | [d0, d1, d2], _ => exact ⟨rfl, rfl, rfl⟩
  · intro W base args ds hA
    have hA : Args enc Try.prog W base Try.f4.params.toList args.toList ds := hA
    rw [Try.params4] at hA
    obtain ⟨v0, vs0, d0, ds0, p0, hargs, rfl, a0, hA⟩ := hA.cons_
    obtain ⟨v1, vs1, d1, ds1, p1, rfl, rfl, a1, hA⟩ := hA.cons_
    obtain ⟨v2, vs2, d2, ds2, p2, rfl, rfl, a2, hA⟩ := hA.cons_
    obtain ⟨rfl, rfl⟩ := hA.nil_
    obtain rfl : args = #[v0, v1, v2] := by cases args; simp_all
    obtain ⟨A0, n0, c0, l0, b0⟩ := a0.bytes_ Try.underlying30 Try.underlying5 (by kernel_rfl) (by kernel_rfl)
    obtain rfl := b0.val
    obtain ⟨A1, n1, c1, l1, b1⟩ := a1.intsN Try.underlying31 Try.underlying3 (by kernel_rfl)
    obtain rfl := b1.val
    obtain ⟨x2, rfl⟩ := a2.bool_ Try.underlying4
    exact walk A0 n0 c0 l0 A1 n1 c1 l1 x2 W b0 b1

theorem over : Rows.nandLoadsRow.holds Try.pinned (OpenSpec.ofChange Rows.nandLoadsSpec) :=
  OpenClaim.holds_of_wide 4 Try.f4 rfl rfl rfl rfl rfl rfl rfl ⟨rfl, rfl, rfl, rfl, rfl⟩ rfl rfl rfl rfl rfl (by kernel_rfl) Try.func4 (by kernel_rfl)
    (of_decide_eq_true (by kernel_rfl)) (by unfold Func.isWrapper; first | (rw [if_pos (by decide +kernel)]; kernel_rfl) | (rw [if_neg (by decide +kernel)]; exact ⟨rfl, rfl⟩))
    (fun os started H enc _ => lifted os started H enc)

theorem proved : Rows.NandLoadsSaid := over
end Go.Proofs.Yteifkggfaefahaa.nandLoads
