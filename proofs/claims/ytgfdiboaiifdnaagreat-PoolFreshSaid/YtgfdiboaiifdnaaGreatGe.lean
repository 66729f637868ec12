/-
  A head that is read: the reference's GetHead.
-/
import Derived.Test.YtgfdiboaiifdnaaGreatGd
namespace Go.Proofs.YtgfdiboaiifdnaaGreat
open Go.ChangeShapes Go.WideShapes Go.ChangeAt Go.RowKit

set_option maxRecDepth 100000 in
set_option maxHeartbeats 1600000 in
theorem rGetHead_any (A : Option Addr) (n c : Nat) (l : List Nat) (w : World) (hb : Bts w A n l) (hc : n ≤ c) (hc2 : c ≤ 9223372036854775807) :
    Calls Tryz.prog 63 #[.slice A n c] w (GetHP w l) := by
  have HB := Lib.hid hb
  clear hb
  go_enter Tryz.func63, Tryz.ntmps63
  go_wp2_with fail
  have K0 : Hid (New w (w.alloc (.cells #[.int .u8 0, .int .u32 0, .int .u64 0] 34))) := (Kept.refl _ _).alloc _
  have B0 : Hid (Blk (w.alloc (.cells #[.int .u8 0, .int .u32 0, .int .u64 0] 34)) w.heap.size 34 [.int .u8 0, .int .u32 0, .int .u64 0]) := Blk.made w _ _
  refine (rGet_k A n c l K0 (HB.out.new K0.out) hc hc2 _ _ _ ⟨rfl, rfl, rfl⟩ _ rfl).mono ?_
  rintro e w1 ⟨A1, c1, rfl, h1, h2, K1⟩
  have B1 := Lib.hid (B0.out.new h2.out)
  have O1 : Hid (OwnB w1 5 w.heap.size A1 c1 (sGetL l)) := h1
  clear h1 h2 K0 B0
  by_cases hE : sGetE l = 0
  · rw [hE]
    by_cases hK : sGetK l = 1
    · rw [hK]
      by_cases hL : (sGetL l).length = 13
      · rw [hL]
        have LB := Lib.hid (bd_lt (sGetL l) O1.out.1 hL)
        have hLL := Lib.hid hL
        have BB : Hid (Bts w1 A1 13 (sGetL l)) := by have := O1.out.bts; rw [hL] at this; exact this
        by_cases hH : isHd (bdK (sGetL l)) (bdE (sGetL l)) (bdS (sGetL l))
        · have R := Lib.hid (gh_ok hE ⟨⟨hK, hL⟩, hH⟩).symm
          have HH := Lib.hid (decide_eq_true hH)
          clear hE hK hL hH
          go_wp2_with fail
          have OA := O1.out.at_
          have OL := O1.out.le
          rw [hLL.out] at OL
          have R2 : Hid (Ref (fun _ => True) (w1.alloc (.cells #[.slice A1 13 c1, .bool false] 124)) w1.heap.size (sGetL l) false) := by
            have hn : New w1 (w1.alloc (.cells #[.slice A1 13 c1, .bool false] 124)) := (Kept.refl _ _).alloc _
            refine ⟨A1, c1, ?_, ?_, fun a ha => ⟨trivial, (OA a ha).1.kept hn fun f => f⟩, by rw [hLL.out]; exact OL.1, OL.2⟩
            · rw [hLL.out]; exact Blk.made w1 _ _
            · rw [hLL.out]; exact BB.out.new hn
          have KR : Hid (New w (w1.alloc (.cells #[.slice A1 13 c1, .bool false] 124))) := K1.out.alloc _
          have BR : Hid (Blk (w1.alloc (.cells #[.slice A1 13 c1, .bool false] 124)) w.heap.size 34 [.int .u8 0, .int .u32 0, .int .u64 0]) := B1.out.alloc _
          have hgz : w.heap.size < w1.heap.size := B1.out.lt
          generalize w1.alloc (.cells #[.slice A1 13 c1, .bool false] 124) = wr at *
          clear OA OL
          refine (rtake_ok w1.heap.size _ 1 _ R2.out (.inl rfl) (by rw [hLL.out]; omega)).mono ?_
          rintro e wt1 ⟨rfl, h1, h2⟩
          have R3 := Lib.hid h1
          have KR1 : Hid (New w wt1) := KR.out.trans h2 (fun i hi h => by omega)
          have BR1 := Lib.hid (BR.out.kept h2 (by omega))
          rw [show leV ((sGetL l).take 1) = bdK (sGetL l) from rfl]
          clear h1 h2 R2 KR BR
          go_wp2_with fail
          refine (rtake_ok w1.heap.size _ 4 _ R3.out (.inr (.inr (.inl rfl))) (by rw [List.length_drop, hLL.out]; omega)).mono ?_
          rintro e wt2 ⟨rfl, h1, h2⟩
          have R4 := Lib.hid h1
          have KR2 : Hid (New w wt2) := KR1.out.trans h2 (fun i hi h => by omega)
          have BR2 := Lib.hid (BR1.out.kept h2 (by omega))
          rw [show leV (((sGetL l).drop 1).take 4) = bdE (sGetL l) from rfl]
          clear h1 h2 R3 KR1 BR1
          go_wp2_with fail
          refine (rtake_ok w1.heap.size _ 8 _ R4.out (.inr (.inr (.inr rfl))) (by rw [List.length_drop, List.length_drop, hLL.out]; omega)).mono ?_
          rintro e w2 ⟨rfl, h1, h2⟩
          have K2 : Hid (New w w2) := KR2.out.trans h2 (fun i hi h => by omega)
          have B2 := Lib.hid (BR2.out.kept h2 (by omega))
          rw [show leV ((((sGetL l).drop 1).drop 4).take 8) = bdS (sGetL l) from rfl]
          clear h1 R4 KR2 BR2 h2 hgz
          obtain ⟨l0, l1, l2⟩ := LB.out
          clear O1 BB B1 K1
          generalize bdK (sGetL l) = v0 at *
          generalize bdE (sGetL l) = v1 at *
          generalize bdS (sGetL l) = v2 at *
          obtain ⟨w3, hw3⟩ : ∃ w3, w3 = w2.alloc (.cells #[.int .u8 (v0 : Nat), .int .u32 (v1 : Nat), .int .u64 (v2 : Nat)] 34) := ⟨_, rfl⟩
          have H3 : Hid (Blk w3 w2.heap.size 34 [.int .u8 (v0 : Nat), .int .u32 (v1 : Nat), .int .u64 (v2 : Nat)]) := by rw [hw3]; exact Blk.made w2 _ _
          have K3 : Hid (New w2 w3) := by rw [hw3]; exact (Kept.refl _ _).alloc _
          have HW3 := Lib.hid hw3
          clear hw3
          go_wp2_with fail
          rw [← HW3.out]
          clear HW3
          refine (mayHead_any v0 v1 v2 _).mono ?_
          rintro e w4 ⟨rfl, h4⟩
          rw [HH.out]
          have K4 : Hid (New w w4) := (K2.out.new K3.out).new h4
          have B4 := Lib.hid ((B2.out.new K3.out).new h4)
          have H4 := Lib.hid (H3.out.new h4)
          clear h4 K2 K3 B2 H3
          have h0 := H4.out.cell 0
          have h1 := H4.out.cell 1
          have h2 := H4.out.cell 2
          simp only [List.getElem?_cons_zero, List.getElem?_cons_succ] at h0 h1 h2
          have c0 := B4.out.cell 0
          have c1 := B4.out.cell 1
          have c2 := B4.out.cell 2
          have f0 := B4.out.free 0
          have f1 := B4.out.free 1
          have f2 := B4.out.free 2
          simp only [List.getElem?_cons_zero, List.getElem?_cons_succ] at c0 c1 c2
          obtain ⟨w5, hw5⟩ : ∃ w5, w5 = ((w4.setCell ⟨w.heap.size, 0, none⟩ (.int .u8 (v0 : Nat))).setCell ⟨w.heap.size, 1, none⟩ (.int .u32 (v1 : Nat))).setCell ⟨w.heap.size, 2, none⟩ (.int .u64 (v2 : Nat)) := ⟨_, rfl⟩
          obtain ⟨bs, ks⟩ := head_store B4.out hw5
          have HW5 := Lib.hid hw5
          have BS := Lib.hid bs
          have K5 : Hid (New w w5) := K4.out.trans ks (fun i hi h => by omega)
          clear hw5 bs ks
          go_wp2
          rw [← HW5.out]
          have d0 := BS.out.cell 0
          have d1 := BS.out.cell 1
          have d2 := BS.out.cell 2
          simp only [List.getElem?_cons_zero, List.getElem?_cons_succ] at d0 d1 d2
          clear HW5 c0 c1 c2 f0 f1 f2
          (try simp only [Exit.inBlock, Exit.then])
          refine bodyPost_ret (by simp [results, Tryz.results63, go_sem, d0, d1, d2]; try rfl) rfl ?_
          exact ⟨R.out, K5.out⟩
        · have R := Lib.hid (gh_form hE fun h => hH h.2).symm
          have HH := Lib.hid (decide_eq_false hH)
          clear hE hK hL hH
          go_wp2_with fail
          have OA := O1.out.at_
          have OL := O1.out.le
          rw [hLL.out] at OL
          have R2 : Hid (Ref (fun _ => True) (w1.alloc (.cells #[.slice A1 13 c1, .bool false] 124)) w1.heap.size (sGetL l) false) := by
            have hn : New w1 (w1.alloc (.cells #[.slice A1 13 c1, .bool false] 124)) := (Kept.refl _ _).alloc _
            refine ⟨A1, c1, ?_, ?_, fun a ha => ⟨trivial, (OA a ha).1.kept hn fun f => f⟩, by rw [hLL.out]; exact OL.1, OL.2⟩
            · rw [hLL.out]; exact Blk.made w1 _ _
            · rw [hLL.out]; exact BB.out.new hn
          have KR : Hid (New w (w1.alloc (.cells #[.slice A1 13 c1, .bool false] 124))) := K1.out.alloc _
          have BR : Hid (Blk (w1.alloc (.cells #[.slice A1 13 c1, .bool false] 124)) w.heap.size 34 [.int .u8 0, .int .u32 0, .int .u64 0]) := B1.out.alloc _
          have hgz : w.heap.size < w1.heap.size := B1.out.lt
          generalize w1.alloc (.cells #[.slice A1 13 c1, .bool false] 124) = wr at *
          clear OA OL
          refine (rtake_ok w1.heap.size _ 1 _ R2.out (.inl rfl) (by rw [hLL.out]; omega)).mono ?_
          rintro e wt1 ⟨rfl, h1, h2⟩
          have R3 := Lib.hid h1
          have KR1 : Hid (New w wt1) := KR.out.trans h2 (fun i hi h => by omega)
          have BR1 := Lib.hid (BR.out.kept h2 (by omega))
          rw [show leV ((sGetL l).take 1) = bdK (sGetL l) from rfl]
          clear h1 h2 R2 KR BR
          go_wp2_with fail
          refine (rtake_ok w1.heap.size _ 4 _ R3.out (.inr (.inr (.inl rfl))) (by rw [List.length_drop, hLL.out]; omega)).mono ?_
          rintro e wt2 ⟨rfl, h1, h2⟩
          have R4 := Lib.hid h1
          have KR2 : Hid (New w wt2) := KR1.out.trans h2 (fun i hi h => by omega)
          have BR2 := Lib.hid (BR1.out.kept h2 (by omega))
          rw [show leV (((sGetL l).drop 1).take 4) = bdE (sGetL l) from rfl]
          clear h1 h2 R3 KR1 BR1
          go_wp2_with fail
          refine (rtake_ok w1.heap.size _ 8 _ R4.out (.inr (.inr (.inr rfl))) (by rw [List.length_drop, List.length_drop, hLL.out]; omega)).mono ?_
          rintro e w2 ⟨rfl, h1, h2⟩
          have K2 : Hid (New w w2) := KR2.out.trans h2 (fun i hi h => by omega)
          have B2 := Lib.hid (BR2.out.kept h2 (by omega))
          rw [show leV ((((sGetL l).drop 1).drop 4).take 8) = bdS (sGetL l) from rfl]
          clear h1 R4 KR2 BR2 h2 hgz
          obtain ⟨l0, l1, l2⟩ := LB.out
          clear O1 BB B1 K1
          generalize bdK (sGetL l) = v0 at *
          generalize bdE (sGetL l) = v1 at *
          generalize bdS (sGetL l) = v2 at *
          obtain ⟨w3, hw3⟩ : ∃ w3, w3 = w2.alloc (.cells #[.int .u8 (v0 : Nat), .int .u32 (v1 : Nat), .int .u64 (v2 : Nat)] 34) := ⟨_, rfl⟩
          have H3 : Hid (Blk w3 w2.heap.size 34 [.int .u8 (v0 : Nat), .int .u32 (v1 : Nat), .int .u64 (v2 : Nat)]) := by rw [hw3]; exact Blk.made w2 _ _
          have K3 : Hid (New w2 w3) := by rw [hw3]; exact (Kept.refl _ _).alloc _
          have HW3 := Lib.hid hw3
          clear hw3
          go_wp2_with fail
          rw [← HW3.out]
          clear HW3
          refine (mayHead_any v0 v1 v2 _).mono ?_
          rintro e w4 ⟨rfl, h4⟩
          rw [HH.out]
          have K4 : Hid (New w w4) := (K2.out.new K3.out).new h4
          have B4 := Lib.hid ((B2.out.new K3.out).new h4)
          have H4 := Lib.hid (H3.out.new h4)
          clear h4 K2 K3 B2 H3
          have c0 := B4.out.cell 0
          have c1 := B4.out.cell 1
          have c2 := B4.out.cell 2
          have f0 := B4.out.free 0
          have f1 := B4.out.free 1
          have f2 := B4.out.free 2
          simp only [List.getElem?_cons_zero, List.getElem?_cons_succ] at c0 c1 c2
          obtain ⟨w5, hw5⟩ : ∃ w5, w5 = ((w4.setCell ⟨w.heap.size, 0, none⟩ (.int .u8 0)).setCell ⟨w.heap.size, 1, none⟩ (.int .u32 0)).setCell ⟨w.heap.size, 2, none⟩ (.int .u64 0) := ⟨_, rfl⟩
          obtain ⟨bs, ks⟩ := head_store B4.out hw5
          have HW5 := Lib.hid hw5
          have BS := Lib.hid bs
          have K5 : Hid (New w w5) := K4.out.trans ks (fun i hi h => by omega)
          clear hw5 bs ks
          go_wp2
          rw [← HW5.out]
          have d0 := BS.out.cell 0
          have d1 := BS.out.cell 1
          have d2 := BS.out.cell 2
          simp only [List.getElem?_cons_zero, List.getElem?_cons_succ] at d0 d1 d2
          clear HW5 c0 c1 c2 f0 f1 f2
          (try simp only [Exit.inBlock, Exit.then])
          refine bodyPost_ret (by simp [results, Tryz.results63, go_sem, d0, d1, d2]; try rfl) rfl ?_
          exact ⟨R.out, K5.out⟩
      · have R := Lib.hid (gh_form hE fun h => hL h.1.2).symm
        have hL2 : (((sGetL l).length : Int) == 13) = false := beq_eq_false_iff_ne.2 (by omega)
        have hL3 : ((sGetL l).length == 13) = false := beq_eq_false_iff_ne.2 hL
        clear hE hK O1
        generalize (sGetL l).length = m at *
        have c0 := B1.out.cell 0
        have c1 := B1.out.cell 1
        have c2 := B1.out.cell 2
        have f0 := B1.out.free 0
        have f1 := B1.out.free 1
        have f2 := B1.out.free 2
        simp only [List.getElem?_cons_zero, List.getElem?_cons_succ] at c0 c1 c2
        obtain ⟨w5, hw5⟩ : ∃ w5, w5 = ((w1.setCell ⟨w.heap.size, 0, none⟩ (.int .u8 0)).setCell ⟨w.heap.size, 1, none⟩ (.int .u32 0)).setCell ⟨w.heap.size, 2, none⟩ (.int .u64 0) := ⟨_, rfl⟩
        obtain ⟨bs, ks⟩ := head_store B1.out hw5
        have HW5 := Lib.hid hw5
        have BS := Lib.hid bs
        have K5 : Hid (New w w5) := K1.out.trans ks (fun i hi h => by omega)
        clear hw5 bs ks
        go_wp2
        rw [← HW5.out]
        have d0 := BS.out.cell 0
        have d1 := BS.out.cell 1
        have d2 := BS.out.cell 2
        simp only [List.getElem?_cons_zero, List.getElem?_cons_succ] at d0 d1 d2
        clear HW5 c0 c1 c2 f0 f1 f2
        (try simp only [Exit.inBlock, Exit.then])
        refine bodyPost_ret (by simp [results, Tryz.results63, go_sem, d0, d1, d2]; try rfl) rfl ?_
        exact ⟨R.out, K5.out⟩
    · have R := Lib.hid (gh_form hE fun h => hK h.1.1).symm
      have hK2 : ((sGetK l : Int) == 1) = false := beq_eq_false_iff_ne.2 (by omega)
      have hK3 : (sGetK l == 1) = false := beq_eq_false_iff_ne.2 hK
      clear hE O1
      generalize sGetK l = kk at *
      generalize (sGetL l).length = m at *
      have c0 := B1.out.cell 0
      have c1 := B1.out.cell 1
      have c2 := B1.out.cell 2
      have f0 := B1.out.free 0
      have f1 := B1.out.free 1
      have f2 := B1.out.free 2
      simp only [List.getElem?_cons_zero, List.getElem?_cons_succ] at c0 c1 c2
      obtain ⟨w5, hw5⟩ : ∃ w5, w5 = ((w1.setCell ⟨w.heap.size, 0, none⟩ (.int .u8 0)).setCell ⟨w.heap.size, 1, none⟩ (.int .u32 0)).setCell ⟨w.heap.size, 2, none⟩ (.int .u64 0) := ⟨_, rfl⟩
      obtain ⟨bs, ks⟩ := head_store B1.out hw5
      have HW5 := Lib.hid hw5
      have BS := Lib.hid bs
      have K5 : Hid (New w w5) := K1.out.trans ks (fun i hi h => by omega)
      clear hw5 bs ks
      go_wp2
      rw [← HW5.out]
      have d0 := BS.out.cell 0
      have d1 := BS.out.cell 1
      have d2 := BS.out.cell 2
      simp only [List.getElem?_cons_zero, List.getElem?_cons_succ] at d0 d1 d2
      clear HW5 c0 c1 c2 f0 f1 f2
      (try simp only [Exit.inBlock, Exit.then])
      refine bodyPost_ret (by simp [results, Tryz.results63, go_sem, d0, d1, d2]; try rfl) rfl ?_
      exact ⟨R.out, K5.out⟩
  · have R := Lib.hid (gh_no hE).symm
    have hE2 : (sGetE l == 0) = false := beq_eq_false_iff_ne.2 hE
    clear O1
    generalize sGetE l = EE at *
    generalize sGetK l = kk at *
    generalize (sGetL l).length = m at *
    have c0 := B1.out.cell 0
    have c1 := B1.out.cell 1
    have c2 := B1.out.cell 2
    have f0 := B1.out.free 0
    have f1 := B1.out.free 1
    have f2 := B1.out.free 2
    simp only [List.getElem?_cons_zero, List.getElem?_cons_succ] at c0 c1 c2
    obtain ⟨w5, hw5⟩ : ∃ w5, w5 = ((w1.setCell ⟨w.heap.size, 0, none⟩ (.int .u8 0)).setCell ⟨w.heap.size, 1, none⟩ (.int .u32 0)).setCell ⟨w.heap.size, 2, none⟩ (.int .u64 0) := ⟨_, rfl⟩
    obtain ⟨bs, ks⟩ := head_store B1.out hw5
    have HW5 := Lib.hid hw5
    have BS := Lib.hid bs
    have K5 : Hid (New w w5) := K1.out.trans ks (fun i hi h => by omega)
    clear hw5 bs ks
    go_wp2
    rw [← HW5.out]
    have d0 := BS.out.cell 0
    have d1 := BS.out.cell 1
    have d2 := BS.out.cell 2
    simp only [List.getElem?_cons_zero, List.getElem?_cons_succ] at d0 d1 d2
    clear HW5 c0 c1 c2 f0 f1 f2
    (try simp only [Exit.inBlock, Exit.then])
    refine bodyPost_ret (by simp [results, Tryz.results63, go_sem, d0, d1, d2]; try rfl) rfl ?_
    exact ⟨R.out, K5.out⟩
end Go.Proofs.YtgfdiboaiifdnaaGreat
