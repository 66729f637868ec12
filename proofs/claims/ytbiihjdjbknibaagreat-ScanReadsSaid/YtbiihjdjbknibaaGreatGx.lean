/-
  Of the pool what the small texts lack.
-/
import Derived.Test.YtbiihjdjbknibaaGreatC48
import Derived.Test.YtbiihjdjbknibaaGreatC43
namespace Go.Proofs.YtbiihjdjbknibaaGreat
set_option maxRecDepth 100000
section

set_option maxRecDepth 100000
open Go.ChangeShapes Go.WideShapes Go.ChangeAt Go.RowKit

theorem take_same (l k : List Nat) (j x y : Nat) (hx : l[j]? = some x) (hy : k[j]? = some y) : (decide (l.take j = k.take j) && (((x : Int) == (y : Int)) : Bool)) = decide (l.take (j + 1) = k.take (j + 1)) := by
  have hl : j < l.length := (List.getElem?_eq_some_iff.1 hx).1
  have hk : j < k.length := (List.getElem?_eq_some_iff.1 hy).1
  rw [List.take_succ_eq_append_getElem hl, List.take_succ_eq_append_getElem hk, (List.getElem?_eq_some_iff.1 hx).2, (List.getElem?_eq_some_iff.1 hy).2, Bool.eq_iff_iff]
  simp only [Bool.and_eq_true, decide_eq_true_eq, beq_iff_eq]
  constructor
  · rintro ⟨h1, h2⟩
    rw [h1, show x = y from by omega]
  · intro h
    have := List.append_inj h (by rw [List.length_take, List.length_take]; omega)
    refine ⟨this.1, ?_⟩
    have h2 := this.2
    simp at h2
    omega

theorem pow_small (t kk : Nat) (h : kk = 2 ^ t) (ht : t < 8) : 1 ≤ kk ∧ kk ≤ 128 := by
  have h8 : t = 0 ∨ t = 1 ∨ t = 2 ∨ t = 3 ∨ t = 4 ∨ t = 5 ∨ t = 6 ∨ t = 7 := by omega
  rcases h8 with rfl | rfl | rfl | rfl | rfl | rfl | rfl | rfl <;> simp at h <;> omega

def clean (y x t : Nat) : Prop := ∀ s, s < t → ¬ (y / 2 ^ s % 2 = 1 ∧ x / 2 ^ s % 2 = 0)

theorem bits_next {y x t : Nat} (h : clean y x t) (hf : ¬ (y / 2 ^ t % 2 = 1 ∧ x / 2 ^ t % 2 = 0)) : clean y x (t + 1) := by
  intro s hs
  rcases Nat.lt_or_ge s t with h' | h'
  · exact h s h'
  · obtain rfl : s = t := by omega
    exact hf

end


section

set_option maxRecDepth 100000
open Go.ChangeShapes Go.WideShapes Go.ChangeAt Go.RowKit

theorem rGet_k {w0 wc : World} (A : Option Addr) (n c : Nat) (l : List Nat) (K : Hid (New w0 wc)) (hb : Hid (Bts wc A n l)) (hc : n ≤ c) (hc2 : c ≤ 9223372036854775807) (k : Nat) (x : List Nat) (E : Int) (h : sGetK l = k ∧ sGetL l = x ∧ sGetE l = E) (m : Nat) (hm : x.length = m) :
    Calls Tryz.prog 35 #[.slice A n c] wc fun e w' => ∃ A' c', e = .returned (.tuple #[.int .u8 k, .slice A' m c', .int .i64 E]) ∧ Hid (OwnB w' 5 w0.heap.size A' c' x) ∧ Hid (New wc w') ∧ Hid (New w0 w') := by
  obtain ⟨rfl, rfl, rfl⟩ := h
  subst hm
  refine (rGet_any A n c l wc hb.out hc hc2).mono ?_
  rintro e w' ⟨A', c', rfl, ho, hk⟩
  exact ⟨A', c', rfl, ho.mono K.out.size, hk, K.out.new hk⟩

end


section

set_option maxRecDepth 100000
open Go.ChangeShapes Go.WideShapes Go.ChangeAt Go.RowKit

set_option maxRecDepth 100000 in
set_option maxHeartbeats 1600000 in
theorem rGetHead_any (A : Option Addr) (n c : Nat) (l : List Nat) (w : World) (hb : Bts w A n l) (hc : n ≤ c) (hc2 : c ≤ 9223372036854775807) :
    Calls Tryz.prog 118 #[.slice A n c] w (GetHP w l) := by
  have HB := Lib.hid hb
  clear hb
  go_enter Tryz.func118, Tryz.ntmps118
  go_wp2_with fail
  have K0 : Hid (New w (w.alloc (.cells #[.int .u8 0, .int .u32 0, .int .u64 0] 69))) := (Kept.refl _ _).alloc _
  have B0 : Hid (Blk (w.alloc (.cells #[.int .u8 0, .int .u32 0, .int .u64 0] 69)) w.heap.size 69 [.int .u8 0, .int .u32 0, .int .u64 0]) := Blk.made w _ _
  refine (rGet_k A n c l K0 (HB.out.new K0.out) hc hc2 _ _ _ ⟨rfl, rfl, rfl⟩ _ rfl).mono ?_
  rintro e w1 ⟨A1, c1, rfl, h1, h2, K1⟩
  have B1 := Lib.hid (B0.out.new h2.out)
  have O1 : Hid (OwnB w1 5 w.heap.size A1 c1 (sGetL l)) := h1
  clear h1 h2 K0 B0
  by_cases hE : sGetE l = 0
  · rw [hE]
    by_cases hK : sGetK l = 1
    · rw [hK]
      by_cases hL : (sGetL l).length = 13
      · rw [hL]
        have LB := Lib.hid (bd_lt (sGetL l) O1.out.1 hL)
        have hLL := Lib.hid hL
        have BB : Hid (Bts w1 A1 13 (sGetL l)) := by have := O1.out.bts; rw [hL] at this; exact this
        by_cases hH : isHd (bdK (sGetL l)) (bdE (sGetL l)) (bdS (sGetL l))
        · have R := Lib.hid (gh_ok hE ⟨⟨hK, hL⟩, hH⟩).symm
          have HH := Lib.hid (decide_eq_true hH)
          clear hE hK hL hH
          go_wp2_with fail
          have OA := O1.out.at_
          have OL := O1.out.le
          rw [hLL.out] at OL
          have R2 : Hid (Ref (fun _ => True) (w1.alloc (.cells #[.slice A1 13 c1, .bool false] 145)) w1.heap.size (sGetL l) false) := by
            have hn : New w1 (w1.alloc (.cells #[.slice A1 13 c1, .bool false] 145)) := (Kept.refl _ _).alloc _
            refine ⟨A1, c1, ?_, ?_, fun a ha => ⟨trivial, (OA a ha).1.kept hn fun f => f⟩, by rw [hLL.out]; exact OL.1, OL.2⟩
            · rw [hLL.out]; exact Blk.made w1 _ _
            · rw [hLL.out]; exact BB.out.new hn
          have KR : Hid (New w (w1.alloc (.cells #[.slice A1 13 c1, .bool false] 145))) := K1.out.alloc _
          have BR : Hid (Blk (w1.alloc (.cells #[.slice A1 13 c1, .bool false] 145)) w.heap.size 69 [.int .u8 0, .int .u32 0, .int .u64 0]) := B1.out.alloc _
          have hgz : w.heap.size < w1.heap.size := B1.out.lt
          generalize w1.alloc (.cells #[.slice A1 13 c1, .bool false] 145) = wr at *
          clear OA OL
          refine (rtake_ok w1.heap.size _ 1 _ R2.out (.inl rfl) (by rw [hLL.out]; omega)).mono ?_
          rintro e wt1 ⟨rfl, h1, h2⟩
          have R3 := Lib.hid h1
          have KR1 : Hid (New w wt1) := KR.out.trans h2 (fun i hi h => by omega)
          have BR1 := Lib.hid (BR.out.kept h2 (by omega))
          rw [show leV ((sGetL l).take 1) = bdK (sGetL l) from rfl]
          clear h1 h2 R2 KR BR
          go_wp2_with fail
          refine (rtake_ok w1.heap.size _ 4 _ R3.out (.inr (.inr (.inl rfl))) (by rw [List.length_drop, hLL.out]; omega)).mono ?_
          rintro e wt2 ⟨rfl, h1, h2⟩
          have R4 := Lib.hid h1
          have KR2 : Hid (New w wt2) := KR1.out.trans h2 (fun i hi h => by omega)
          have BR2 := Lib.hid (BR1.out.kept h2 (by omega))
          rw [show leV (((sGetL l).drop 1).take 4) = bdE (sGetL l) from rfl]
          clear h1 h2 R3 KR1 BR1
          go_wp2_with fail
          refine (rtake_ok w1.heap.size _ 8 _ R4.out (.inr (.inr (.inr rfl))) (by rw [List.length_drop, List.length_drop, hLL.out]; omega)).mono ?_
          rintro e w2 ⟨rfl, h1, h2⟩
          have K2 : Hid (New w w2) := KR2.out.trans h2 (fun i hi h => by omega)
          have B2 := Lib.hid (BR2.out.kept h2 (by omega))
          rw [show leV ((((sGetL l).drop 1).drop 4).take 8) = bdS (sGetL l) from rfl]
          clear h1 R4 KR2 BR2 h2 hgz
          obtain ⟨l0, l1, l2⟩ := LB.out
          clear O1 BB B1 K1
          generalize bdK (sGetL l) = v0 at *
          generalize bdE (sGetL l) = v1 at *
          generalize bdS (sGetL l) = v2 at *
          obtain ⟨w3, hw3⟩ : ∃ w3, w3 = w2.alloc (.cells #[.int .u8 (v0 : Nat), .int .u32 (v1 : Nat), .int .u64 (v2 : Nat)] 69) := ⟨_, rfl⟩
          have H3 : Hid (Blk w3 w2.heap.size 69 [.int .u8 (v0 : Nat), .int .u32 (v1 : Nat), .int .u64 (v2 : Nat)]) := by rw [hw3]; exact Blk.made w2 _ _
          have K3 : Hid (New w2 w3) := by rw [hw3]; exact (Kept.refl _ _).alloc _
          have HW3 := Lib.hid hw3
          clear hw3
          go_wp2_with fail
          rw [← HW3.out]
          clear HW3
          refine (mayHead_any v0 v1 v2 _).mono ?_
          rintro e w4 ⟨rfl, h4⟩
          rw [HH.out]
          have K4 : Hid (New w w4) := (K2.out.new K3.out).new h4
          have B4 := Lib.hid ((B2.out.new K3.out).new h4)
          have H4 := Lib.hid (H3.out.new h4)
          clear h4 K2 K3 B2 H3
          have h0 := H4.out.cell 0
          have h1 := H4.out.cell 1
          have h2 := H4.out.cell 2
          simp only [List.getElem?_cons_zero, List.getElem?_cons_succ] at h0 h1 h2
          have c0 := B4.out.cell 0
          have c1 := B4.out.cell 1
          have c2 := B4.out.cell 2
          have f0 := B4.out.free 0
          have f1 := B4.out.free 1
          have f2 := B4.out.free 2
          simp only [List.getElem?_cons_zero, List.getElem?_cons_succ] at c0 c1 c2
          obtain ⟨w5, hw5⟩ : ∃ w5, w5 = ((w4.setCell ⟨w.heap.size, 0, none⟩ (.int .u8 (v0 : Nat))).setCell ⟨w.heap.size, 1, none⟩ (.int .u32 (v1 : Nat))).setCell ⟨w.heap.size, 2, none⟩ (.int .u64 (v2 : Nat)) := ⟨_, rfl⟩
          obtain ⟨bs, ks⟩ := head_store B4.out hw5
          have HW5 := Lib.hid hw5
          have BS := Lib.hid bs
          have K5 : Hid (New w w5) := K4.out.trans ks (fun i hi h => by omega)
          clear hw5 bs ks
          go_wp2
          rw [← HW5.out]
          have d0 := BS.out.cell 0
          have d1 := BS.out.cell 1
          have d2 := BS.out.cell 2
          simp only [List.getElem?_cons_zero, List.getElem?_cons_succ] at d0 d1 d2
          clear HW5 c0 c1 c2 f0 f1 f2
          (try simp only [Exit.inBlock, Exit.then])
          refine bodyPost_ret (by simp [results, Tryz.results118, go_sem, d0, d1, d2]; try rfl) rfl ?_
          exact ⟨R.out, K5.out⟩
        · have R := Lib.hid (gh_form hE fun h => hH h.2).symm
          have HH := Lib.hid (decide_eq_false hH)
          clear hE hK hL hH
          go_wp2_with fail
          have OA := O1.out.at_
          have OL := O1.out.le
          rw [hLL.out] at OL
          have R2 : Hid (Ref (fun _ => True) (w1.alloc (.cells #[.slice A1 13 c1, .bool false] 145)) w1.heap.size (sGetL l) false) := by
            have hn : New w1 (w1.alloc (.cells #[.slice A1 13 c1, .bool false] 145)) := (Kept.refl _ _).alloc _
            refine ⟨A1, c1, ?_, ?_, fun a ha => ⟨trivial, (OA a ha).1.kept hn fun f => f⟩, by rw [hLL.out]; exact OL.1, OL.2⟩
            · rw [hLL.out]; exact Blk.made w1 _ _
            · rw [hLL.out]; exact BB.out.new hn
          have KR : Hid (New w (w1.alloc (.cells #[.slice A1 13 c1, .bool false] 145))) := K1.out.alloc _
          have BR : Hid (Blk (w1.alloc (.cells #[.slice A1 13 c1, .bool false] 145)) w.heap.size 69 [.int .u8 0, .int .u32 0, .int .u64 0]) := B1.out.alloc _
          have hgz : w.heap.size < w1.heap.size := B1.out.lt
          generalize w1.alloc (.cells #[.slice A1 13 c1, .bool false] 145) = wr at *
          clear OA OL
          refine (rtake_ok w1.heap.size _ 1 _ R2.out (.inl rfl) (by rw [hLL.out]; omega)).mono ?_
          rintro e wt1 ⟨rfl, h1, h2⟩
          have R3 := Lib.hid h1
          have KR1 : Hid (New w wt1) := KR.out.trans h2 (fun i hi h => by omega)
          have BR1 := Lib.hid (BR.out.kept h2 (by omega))
          rw [show leV ((sGetL l).take 1) = bdK (sGetL l) from rfl]
          clear h1 h2 R2 KR BR
          go_wp2_with fail
          refine (rtake_ok w1.heap.size _ 4 _ R3.out (.inr (.inr (.inl rfl))) (by rw [List.length_drop, hLL.out]; omega)).mono ?_
          rintro e wt2 ⟨rfl, h1, h2⟩
          have R4 := Lib.hid h1
          have KR2 : Hid (New w wt2) := KR1.out.trans h2 (fun i hi h => by omega)
          have BR2 := Lib.hid (BR1.out.kept h2 (by omega))
          rw [show leV (((sGetL l).drop 1).take 4) = bdE (sGetL l) from rfl]
          clear h1 h2 R3 KR1 BR1
          go_wp2_with fail
          refine (rtake_ok w1.heap.size _ 8 _ R4.out (.inr (.inr (.inr rfl))) (by rw [List.length_drop, List.length_drop, hLL.out]; omega)).mono ?_
          rintro e w2 ⟨rfl, h1, h2⟩
          have K2 : Hid (New w w2) := KR2.out.trans h2 (fun i hi h => by omega)
          have B2 := Lib.hid (BR2.out.kept h2 (by omega))
          rw [show leV ((((sGetL l).drop 1).drop 4).take 8) = bdS (sGetL l) from rfl]
          clear h1 R4 KR2 BR2 h2 hgz
          obtain ⟨l0, l1, l2⟩ := LB.out
          clear O1 BB B1 K1
          generalize bdK (sGetL l) = v0 at *
          generalize bdE (sGetL l) = v1 at *
          generalize bdS (sGetL l) = v2 at *
          obtain ⟨w3, hw3⟩ : ∃ w3, w3 = w2.alloc (.cells #[.int .u8 (v0 : Nat), .int .u32 (v1 : Nat), .int .u64 (v2 : Nat)] 69) := ⟨_, rfl⟩
          have H3 : Hid (Blk w3 w2.heap.size 69 [.int .u8 (v0 : Nat), .int .u32 (v1 : Nat), .int .u64 (v2 : Nat)]) := by rw [hw3]; exact Blk.made w2 _ _
          have K3 : Hid (New w2 w3) := by rw [hw3]; exact (Kept.refl _ _).alloc _
          have HW3 := Lib.hid hw3
          clear hw3
          go_wp2_with fail
          rw [← HW3.out]
          clear HW3
          refine (mayHead_any v0 v1 v2 _).mono ?_
          rintro e w4 ⟨rfl, h4⟩
          rw [HH.out]
          have K4 : Hid (New w w4) := (K2.out.new K3.out).new h4
          have B4 := Lib.hid ((B2.out.new K3.out).new h4)
          have H4 := Lib.hid (H3.out.new h4)
          clear h4 K2 K3 B2 H3
          have c0 := B4.out.cell 0
          have c1 := B4.out.cell 1
          have c2 := B4.out.cell 2
          have f0 := B4.out.free 0
          have f1 := B4.out.free 1
          have f2 := B4.out.free 2
          simp only [List.getElem?_cons_zero, List.getElem?_cons_succ] at c0 c1 c2
          obtain ⟨w5, hw5⟩ : ∃ w5, w5 = ((w4.setCell ⟨w.heap.size, 0, none⟩ (.int .u8 0)).setCell ⟨w.heap.size, 1, none⟩ (.int .u32 0)).setCell ⟨w.heap.size, 2, none⟩ (.int .u64 0) := ⟨_, rfl⟩
          obtain ⟨bs, ks⟩ := head_store B4.out hw5
          have HW5 := Lib.hid hw5
          have BS := Lib.hid bs
          have K5 : Hid (New w w5) := K4.out.trans ks (fun i hi h => by omega)
          clear hw5 bs ks
          go_wp2
          rw [← HW5.out]
          have d0 := BS.out.cell 0
          have d1 := BS.out.cell 1
          have d2 := BS.out.cell 2
          simp only [List.getElem?_cons_zero, List.getElem?_cons_succ] at d0 d1 d2
          clear HW5 c0 c1 c2 f0 f1 f2
          (try simp only [Exit.inBlock, Exit.then])
          refine bodyPost_ret (by simp [results, Tryz.results118, go_sem, d0, d1, d2]; try rfl) rfl ?_
          exact ⟨R.out, K5.out⟩
      · have R := Lib.hid (gh_form hE fun h => hL h.1.2).symm
        have hL2 : (((sGetL l).length : Int) == 13) = false := beq_eq_false_iff_ne.2 (by omega)
        have hL3 : ((sGetL l).length == 13) = false := beq_eq_false_iff_ne.2 hL
        clear hE hK O1
        generalize (sGetL l).length = m at *
        have c0 := B1.out.cell 0
        have c1 := B1.out.cell 1
        have c2 := B1.out.cell 2
        have f0 := B1.out.free 0
        have f1 := B1.out.free 1
        have f2 := B1.out.free 2
        simp only [List.getElem?_cons_zero, List.getElem?_cons_succ] at c0 c1 c2
        obtain ⟨w5, hw5⟩ : ∃ w5, w5 = ((w1.setCell ⟨w.heap.size, 0, none⟩ (.int .u8 0)).setCell ⟨w.heap.size, 1, none⟩ (.int .u32 0)).setCell ⟨w.heap.size, 2, none⟩ (.int .u64 0) := ⟨_, rfl⟩
        obtain ⟨bs, ks⟩ := head_store B1.out hw5
        have HW5 := Lib.hid hw5
        have BS := Lib.hid bs
        have K5 : Hid (New w w5) := K1.out.trans ks (fun i hi h => by omega)
        clear hw5 bs ks
        go_wp2
        rw [← HW5.out]
        have d0 := BS.out.cell 0
        have d1 := BS.out.cell 1
        have d2 := BS.out.cell 2
        simp only [List.getElem?_cons_zero, List.getElem?_cons_succ] at d0 d1 d2
        clear HW5 c0 c1 c2 f0 f1 f2
        (try simp only [Exit.inBlock, Exit.then])
        refine bodyPost_ret (by simp [results, Tryz.results118, go_sem, d0, d1, d2]; try rfl) rfl ?_
        exact ⟨R.out, K5.out⟩
    · have R := Lib.hid (gh_form hE fun h => hK h.1.1).symm
      have hK2 : ((sGetK l : Int) == 1) = false := beq_eq_false_iff_ne.2 (by omega)
      have hK3 : (sGetK l == 1) = false := beq_eq_false_iff_ne.2 hK
      clear hE O1
      generalize sGetK l = kk at *
      generalize (sGetL l).length = m at *
      have c0 := B1.out.cell 0
      have c1 := B1.out.cell 1
      have c2 := B1.out.cell 2
      have f0 := B1.out.free 0
      have f1 := B1.out.free 1
      have f2 := B1.out.free 2
      simp only [List.getElem?_cons_zero, List.getElem?_cons_succ] at c0 c1 c2
      obtain ⟨w5, hw5⟩ : ∃ w5, w5 = ((w1.setCell ⟨w.heap.size, 0, none⟩ (.int .u8 0)).setCell ⟨w.heap.size, 1, none⟩ (.int .u32 0)).setCell ⟨w.heap.size, 2, none⟩ (.int .u64 0) := ⟨_, rfl⟩
      obtain ⟨bs, ks⟩ := head_store B1.out hw5
      have HW5 := Lib.hid hw5
      have BS := Lib.hid bs
      have K5 : Hid (New w w5) := K1.out.trans ks (fun i hi h => by omega)
      clear hw5 bs ks
      go_wp2
      rw [← HW5.out]
      have d0 := BS.out.cell 0
      have d1 := BS.out.cell 1
      have d2 := BS.out.cell 2
      simp only [List.getElem?_cons_zero, List.getElem?_cons_succ] at d0 d1 d2
      clear HW5 c0 c1 c2 f0 f1 f2
      (try simp only [Exit.inBlock, Exit.then])
      refine bodyPost_ret (by simp [results, Tryz.results118, go_sem, d0, d1, d2]; try rfl) rfl ?_
      exact ⟨R.out, K5.out⟩
  · have R := Lib.hid (gh_no hE).symm
    have hE2 : (sGetE l == 0) = false := beq_eq_false_iff_ne.2 hE
    clear O1
    generalize sGetE l = EE at *
    generalize sGetK l = kk at *
    generalize (sGetL l).length = m at *
    have c0 := B1.out.cell 0
    have c1 := B1.out.cell 1
    have c2 := B1.out.cell 2
    have f0 := B1.out.free 0
    have f1 := B1.out.free 1
    have f2 := B1.out.free 2
    simp only [List.getElem?_cons_zero, List.getElem?_cons_succ] at c0 c1 c2
    obtain ⟨w5, hw5⟩ : ∃ w5, w5 = ((w1.setCell ⟨w.heap.size, 0, none⟩ (.int .u8 0)).setCell ⟨w.heap.size, 1, none⟩ (.int .u32 0)).setCell ⟨w.heap.size, 2, none⟩ (.int .u64 0) := ⟨_, rfl⟩
    obtain ⟨bs, ks⟩ := head_store B1.out hw5
    have HW5 := Lib.hid hw5
    have BS := Lib.hid bs
    have K5 : Hid (New w w5) := K1.out.trans ks (fun i hi h => by omega)
    clear hw5 bs ks
    go_wp2
    rw [← HW5.out]
    have d0 := BS.out.cell 0
    have d1 := BS.out.cell 1
    have d2 := BS.out.cell 2
    simp only [List.getElem?_cons_zero, List.getElem?_cons_succ] at d0 d1 d2
    clear HW5 c0 c1 c2 f0 f1 f2
    (try simp only [Exit.inBlock, Exit.then])
    refine bodyPost_ret (by simp [results, Tryz.results118, go_sem, d0, d1, d2]; try rfl) rfl ?_
    exact ⟨R.out, K5.out⟩

end


section

set_option maxRecDepth 100000

theorem swp_perm (l : List TK) (j : Nat) : (swp l j).Perm l := by
  unfold swp
  split
  · rename_i x y hx hy
    obtain ⟨h1, e1⟩ := List.getElem?_eq_some_iff.1 hx
    obtain ⟨h2, e2⟩ := List.getElem?_eq_some_iff.1 hy
    rw [← e1, ← e2]
    exact List.set_set_perm h2 h1
  · exact List.Perm.refl _

theorem bub_perm : ∀ (j : Nat) (l : List TK), (bub j l).Perm l
  | 0, l => List.Perm.refl _
  | j + 1, l => by
    simp only [bub]
    split
    · exact (bub_perm j _).trans (swp_perm l j)
    · exact List.Perm.refl _

theorem insG_perm (l : List TK) : ∀ k, (insG l k).Perm l
  | 0 => List.Perm.refl _
  | k + 1 => (bub_perm _ _).trans (insG_perm l k)

/-- The reference's insertion: behind all that are not greater. -/
def insR (l : List TK) (t : TK) : List TK := l.takeWhile (fun x => decide (x.s ≤ t.s)) ++ t :: l.dropWhile (fun x => decide (x.s ≤ t.s))
def refL (s : CSt) : Nat → List TK
  | 0 => []
  | k + 1 => if (lookV s k).w = 1 then insR (refL s k) (tkOf s k) else refL s k

theorem insR_perm (l : List TK) (t : TK) : (insR l t).Perm (l ++ [t]) := by
  unfold insR
  have h1 : (l.takeWhile (fun x => decide (x.s ≤ t.s)) ++ t :: l.dropWhile (fun x => decide (x.s ≤ t.s))).Perm (t :: (l.takeWhile (fun x => decide (x.s ≤ t.s)) ++ l.dropWhile (fun x => decide (x.s ≤ t.s)))) := List.perm_middle
  rw [List.takeWhile_append_dropWhile] at h1
  exact h1.trans (List.perm_append_singleton t l).symm

theorem insR_pw {l : List TK} (h : l.Pairwise SeqLe) (t : TK) : (insR l t).Pairwise SeqLe := by
  unfold insR
  have hs : (l.takeWhile (fun x => decide (x.s ≤ t.s)) ++ l.dropWhile (fun x => decide (x.s ≤ t.s))).Pairwise SeqLe := by rw [List.takeWhile_append_dropWhile]; exact h
  rw [List.pairwise_append] at hs
  obtain ⟨q1, q2, q3⟩ := hs
  have hfront : ∀ a ∈ l.takeWhile (fun x => decide (x.s ≤ t.s)), a.s ≤ t.s := fun a ha => by
    have hall : ∀ (m : List TK), a ∈ m.takeWhile (fun x => decide (x.s ≤ t.s)) → a.s ≤ t.s := by
      intro m
      induction m with
      | nil => intro h; cases h
      | cons c m ih =>
        intro h
        rw [List.takeWhile_cons] at h
        split at h
        · rename_i hc
          rcases List.mem_cons.1 h with rfl | h
          · simpa using hc
          · exact ih h
        · cases h
    exact hall l ha
  have hback : ∀ b ∈ l.dropWhile (fun x => decide (x.s ≤ t.s)), t.s ≤ b.s := fun b hb => by
    cases hd : l.dropWhile (fun x => decide (x.s ≤ t.s)) with
    | nil => rw [hd] at hb; cases hb
    | cons c m =>
      have hc : ¬ c.s ≤ t.s := by
        have := List.head_dropWhile_not (p := fun x : TK => decide (x.s ≤ t.s)) (l := l) (by rw [hd]; simp)
        simp only [hd, List.head_cons, decide_eq_false_iff_not] at this
        exact this
      rw [hd] at hb q2
      rcases List.mem_cons.1 hb with rfl | hb
      · omega
      · have := (List.pairwise_cons.1 q2).1 b hb
        unfold SeqLe at this
        omega
  rw [List.pairwise_append]
  refine ⟨q1, List.pairwise_cons.2 ⟨hback, q2⟩, fun a ha b hb => ?_⟩
  rcases List.mem_cons.1 hb with rfl | hb
  · exact hfront a ha
  · exact q3 a ha b hb

theorem refL_perm (s : CSt) : ∀ k, (refL s k).Perm (tkC s k)
  | 0 => List.Perm.refl _
  | k + 1 => by
    simp only [refL, tkC]
    split
    · exact (insR_perm _ _).trans ((refL_perm s k).append_right _)
    · rw [List.append_nil]; exact refL_perm s k
theorem refL_pw (s : CSt) : ∀ k, (refL s k).Pairwise SeqLe
  | 0 => List.Pairwise.nil
  | k + 1 => by
    simp only [refL]
    split
    · exact insR_pw (refL_pw s k) _
    · exact refL_pw s k

end


section

set_option maxRecDepth 100000
open Go.ChangeShapes Go.WideShapes Go.ChangeAt Go.RowKit

/-- A block's head, and whether it has one. -/
def HeadR (w : World) (l : List Nat) (e : Ending) (w' : World) : Prop :=
  e = .returned (.tuple #[.agg #[.int .u8 (ghK l : Nat), .int .u32 (ghR l : Nat), .int .u64 (ghS l : Nat)], .bool (decide (ghE l = 0))]) ∧ New w w'

theorem gh_nil : ghE [] = 2 ∧ ghK [] = 0 ∧ ghR [] = 0 ∧ ghS [] = 0 := by decide

set_option maxRecDepth 100000 in
set_option maxHeartbeats 1600000 in
theorem rHead_any (Q : Nat → Prop) (g : Nat) (s : CSt) (b : Int) (w : World) (h : NChip Q w g s) :
    Calls Tryz.prog 97 #[.pointer (some ⟨g, 0, none⟩), .int .i64 b] w (HeadR w (readL s b 0)) := by
  have HC := Lib.hid h
  clear h
  go_enter Tryz.func97, Tryz.ntmps97
  go_wp2_with fail
  have K0 : Hid (New w (w.alloc (.cells #[.int .u8 0, .int .u32 0, .int .u64 0] 69))) := (Kept.refl _ _).alloc _
  have B0 : Hid (Blk (w.alloc (.cells #[.int .u8 0, .int .u32 0, .int .u64 0] 69)) w.heap.size 69 [.int .u8 0, .int .u32 0, .int .u64 0]) := Blk.made w _ _
  have HC0 := Lib.hid (HC.out.new K0.out)
  generalize hwz : w.alloc (.cells #[.int .u8 0, .int .u32 0, .int .u64 0] 69) = wz at *
  clear hwz
  refine (nRead_any _ _ _ b 0 _ HC0.out).mono ?_
  rintro e w1 ⟨A1, c1, rfl, h1, h2⟩
  have O1 := Lib.hid h1
  have K1 := Lib.hid (K0.out.new h2)
  have B1 := Lib.hid (B0.out.new h2)
  have hcl := h1.le
  unfold maxLen at hcl
  clear h1 h2 K0 B0 HC0
  by_cases hr : readE s b 0 = 0
  · rw [hr]
    clear hr
    go_wp2_with fail
    refine (rGetHead_any A1 _ c1 (readL s b 0) _ O1.out.bts hcl.1 (by omega)).mono ?_
    rintro e w2 ⟨rfl, h2⟩
    have K2 := Lib.hid (K1.out.new h2)
    have B2 := Lib.hid (B1.out.new h2)
    clear h2 K1 B1 O1 hcl
    generalize hl : readL s b 0 = l at *
    clear hl
    obtain ⟨w3, hw3⟩ : ∃ w3, w3 = w2.alloc (.cells #[.int .u8 (ghK l : Nat), .int .u32 (ghR l : Nat), .int .u64 (ghS l : Nat)] 69) := ⟨_, rfl⟩
    have H3 : Hid (Blk w3 w2.heap.size 69 [.int .u8 (ghK l : Nat), .int .u32 (ghR l : Nat), .int .u64 (ghS l : Nat)]) := by rw [hw3]; exact Blk.made w2 _ _
    have K3 : Hid (New w w3) := by rw [hw3]; exact K2.out.alloc _
    have B3 : Hid (Blk w3 w.heap.size 69 [.int .u8 0, .int .u32 0, .int .u64 0]) := by rw [hw3]; exact B2.out.alloc _
    have HW3 := Lib.hid hw3
    clear hw3
    go_upto_region 5 with fail
    rw [← HW3.out]
    clear HW3 K2 B2
    have HE : Hid ((ghE l == 0) = decide (ghE l = 0)) := by show _ = _; rw [← Bool.beq_eq_decide_eq]
    have h0 : w3.cell? ⟨w2.heap.size, 0, none⟩ = some (.int .u8 (ghK l : Nat)) := H3.out.cell 0
    have h1 : w3.cell? ⟨w2.heap.size, 1, none⟩ = some (.int .u32 (ghR l : Nat)) := H3.out.cell 1
    have h2 : w3.cell? ⟨w2.heap.size, 2, none⟩ = some (.int .u64 (ghS l : Nat)) := H3.out.cell 2
    have c0 : w3.cell? ⟨w.heap.size, 0, none⟩ = some (.int .u8 0) := B3.out.cell 0
    have c1 : w3.cell? ⟨w.heap.size, 1, none⟩ = some (.int .u32 0) := B3.out.cell 1
    have c2 : w3.cell? ⟨w.heap.size, 2, none⟩ = some (.int .u64 0) := B3.out.cell 2
    have f0 := B3.out.free 0
    have f1 := B3.out.free 1
    have f2 := B3.out.free 2
    obtain ⟨w5, hw5⟩ : ∃ w5, w5 = ((w3.setCell ⟨w.heap.size, 0, none⟩ (.int .u8 (ghK l : Nat))).setCell ⟨w.heap.size, 1, none⟩ (.int .u32 (ghR l : Nat))).setCell ⟨w.heap.size, 2, none⟩ (.int .u64 (ghS l : Nat)) := ⟨_, rfl⟩
    obtain ⟨bs, ks⟩ := head_store B3.out hw5
    have HW5 := Lib.hid hw5
    have BS := Lib.hid bs
    have K5 : Hid (New w w5) := K3.out.trans ks (fun i hi h => by omega)
    clear hw5 bs ks
    generalize hv0 : ghK l = v0 at *
    generalize hv1 : ghR l = v1 at *
    generalize hv2 : ghS l = v2 at *
    have HV := Lib.hid (And.intro hv0 (And.intro hv1 hv2))
    clear hv0 hv1 hv2
    go_wp2
    rw [← HW5.out]
    have d0 := BS.out.cell 0
    have d1 := BS.out.cell 1
    have d2 := BS.out.cell 2
    simp only [List.getElem?_cons_zero, List.getElem?_cons_succ] at d0 d1 d2
    clear HW5 c0 c1 c2 f0 f1 f2
    (try simp only [Exit.inBlock, Exit.then])
    refine bodyPost_ret (by simp [results, Tryz.results97, go_sem, d0, d1, d2]; try rfl) rfl ?_
    exact ⟨by rw [← HE.out, HV.out.1, HV.out.2.1, HV.out.2.2], K5.out⟩
  · have hl : readL s b 0 = [] := by unfold readL; unfold readE at hr; rw [if_neg hr]
    have hq : (readE s b 0 == 0) = false := beq_eq_false_iff_ne.2 hr
    have HLL := Lib.hid hl
    generalize readE s b 0 = x at *
    have c0 : w1.cell? ⟨w.heap.size, 0, none⟩ = some (.int .u8 0) := B1.out.cell 0
    have c1 : w1.cell? ⟨w.heap.size, 1, none⟩ = some (.int .u32 0) := B1.out.cell 1
    have c2 : w1.cell? ⟨w.heap.size, 2, none⟩ = some (.int .u64 0) := B1.out.cell 2
    have f0 := B1.out.free 0
    have f1 := B1.out.free 1
    have f2 := B1.out.free 2
    obtain ⟨w5, hw5⟩ : ∃ w5, w5 = ((w1.setCell ⟨w.heap.size, 0, none⟩ (.int .u8 0)).setCell ⟨w.heap.size, 1, none⟩ (.int .u32 0)).setCell ⟨w.heap.size, 2, none⟩ (.int .u64 0) := ⟨_, rfl⟩
    obtain ⟨bs, ks⟩ := head_store B1.out hw5
    have HW5 := Lib.hid hw5
    have BS := Lib.hid bs
    have K5 : Hid (New w w5) := K1.out.trans ks (fun i hi h => by omega)
    clear hw5 bs ks hl hcl O1
    go_wp2
    rw [← HW5.out]
    have d0 := BS.out.cell 0
    have d1 := BS.out.cell 1
    have d2 := BS.out.cell 2
    simp only [List.getElem?_cons_zero, List.getElem?_cons_succ] at d0 d1 d2
    clear HW5 c0 c1 c2 f0 f1 f2
    (try simp only [Exit.inBlock, Exit.then])
    refine bodyPost_ret (by simp [results, Tryz.results97, go_sem, d0, d1, d2]; try rfl) rfl ?_
    exact ⟨by rw [HLL.out, gh_nil.1, gh_nil.2.1, gh_nil.2.2.1, gh_nil.2.2.2]; rfl, K5.out⟩

theorem RowV.take {w : World} {A : Option Addr} {n sz : Nat} {vs : List Value} (h : RowV w A n sz vs) {k : Nat} (hk : k ≤ n) : RowV w A k sz (vs.take (k * sz)) := by
  obtain ⟨hl, hc⟩ := h
  have hm : k * sz ≤ n * sz := Nat.mul_le_mul_right _ hk
  refine ⟨by rw [List.length_take]; omega, fun h0 => ?_⟩
  obtain ⟨g, o, e, hc⟩ := hc (by omega)
  refine ⟨g, o, e, fun j v hj => hc j v ?_⟩
  rw [List.getElem?_take] at hj
  split at hj
  · exact hj
  · cases hj

theorem RowV.cut {w : World} {A : Option Addr} {n c sz : Nat} {vs : List Value} (h : RowV w A n sz vs) {k : Nat} (hk : k ≤ n) (hc : n ≤ c) : RowV w (if c = k then A else A.map (·.add (k * sz))) (n - k) sz (vs.drop (k * sz)) := by
  obtain ⟨hl, hcell⟩ := h
  refine ⟨by rw [List.length_drop, hl, Nat.sub_mul], fun h0 => ?_⟩
  obtain ⟨g, o, rfl, hat⟩ := hcell (by omega)
  rw [if_neg (by omega)]
  refine ⟨g, o + k * sz, by simp [Addr.add_lit], fun j v hv => ?_⟩
  rw [List.getElem?_drop] at hv
  have := hat _ _ hv
  rwa [← Nat.add_assoc] at this

theorem tRow_app (a b : List TK) : tRow (a ++ b) [] = tRow a [] ++ tRow b [] := by
  induction a with
  | nil => rfl
  | cons t a ih => simp only [List.cons_append, tRow, ih, List.append_assoc]

theorem tRow_take (l : List TK) (k : Nat) (hk : k ≤ l.length) : (tRow l []).take (k * 5) = tRow (l.take k) [] := by
  conv => lhs; rw [← List.take_append_drop k l, tRow_app]
  rw [List.take_left' (by rw [tRow_len, List.length_take]; omega)]

theorem tRow_drop (l : List TK) (k : Nat) (hk : k ≤ l.length) : (tRow l []).drop (k * 5) = tRow (l.drop k) [] := by
  conv => lhs; rw [← List.take_append_drop k l, tRow_app]
  rw [List.drop_left' (by rw [tRow_len, List.length_take]; omega)]

theorem tw_at (l : List TK) (S a : Nat) (ha : a ≤ l.length) (h1 : ∀ j, j < a → seqAt l j ≤ S) (h2 : a = l.length ∨ S < seqAt l a) :
    l.takeWhile (fun x => decide (x.s ≤ S)) = l.take a ∧ l.dropWhile (fun x => decide (x.s ≤ S)) = l.drop a := by
  induction l generalizing a with
  | nil => simp
  | cons t l ih =>
    rcases a with _ | a
    · rcases h2 with h2 | h2
      · simp at h2
      · have : ¬ t.s ≤ S := by
          have e : seqAt (t :: l) 0 = t.s := rfl
          omega
        simp [this]
    · have ht : t.s ≤ S := h1 0 (by omega)
      have := ih a (by simpa using ha) (fun j hj => h1 (j + 1) (by omega)) (by
        rcases h2 with h2 | h2
        · left; simpa using h2
        · right; exact h2)
      simp [ht, this.1, this.2]

end


section

set_option maxRecDepth 100000
open Go.ChangeShapes Go.WideShapes Go.ChangeAt Go.RowKit

/-- Where the reference inserts. -/
def atR (l : List TK) (S : Nat) : Nat := (l.takeWhile (fun x => decide (x.s ≤ S))).length

theorem atR_split (l : List TK) (S : Nat) : l.takeWhile (fun x => decide (x.s ≤ S)) = l.take (atR l S) ∧ l.dropWhile (fun x => decide (x.s ≤ S)) = l.drop (atR l S) := by
  have h := List.takeWhile_append_dropWhile (p := fun x : TK => decide (x.s ≤ S)) (l := l)
  unfold atR
  generalize l.takeWhile (fun x => decide (x.s ≤ S)) = a at *
  generalize l.dropWhile (fun x => decide (x.s ≤ S)) = b at *
  rw [← h]
  exact ⟨(List.take_left' rfl).symm, (List.drop_left' rfl).symm⟩

theorem wpList_append_tk {ops : Array Oper} {rest : List Oper} {o : Oper} {a : Act} {Q : Exit → Act → World → Prop} (w : World) (hgd : o.guard = none) (s x : Operand)
    (ho : o.op = .call { callee := .builtin .append, args := #[s, x], argTypes := #[87, 87] })
    (B : Nat) (A : Option Addr) (n c : Nat) (l : List TK) (hsv : a.eval s = .slice A n c) (hown : OwnV w 90 5 B A n c (tRow l []))
    (A' : Option Addr) (m c' : Nat) (k : List TK) (hx : a.eval x = .slice A' m c') (hr : RowV w A' m 5 (tRow k [])) (hn : n + m ≤ 65) (hbase : B ≤ w.heap.size)
    (h : ∀ A2 c2 w', Hid (OwnV w' 90 5 B A2 (n + m) c2 (tRow (l ++ k) [])) → Hid (w.grownBy w' (A.map (·.block))) → wpList Tryz.prog ops Q rest (a.put o.dst (.slice A2 (n + m) c2)) w') :
    wpList Tryz.prog ops Q (o :: rest) a w := by
  obtain ⟨i0, hi, hz0, hz1, hz2⟩ := info_parts info_taken
  refine wpList_append_rowV w hgd s x 87 ho 90 i0 (.agg #[.int .i64 0, .int .u8 0, .int .u32 0, .int .u64 0, .bool false]) Tryz.underlying87 hi hz0 (by rw [hz1]; rfl) (by omega) B A n c (tRow l []) hsv (by rw [hz1]; exact hown) A' m c' (tRow k []) hx (by rw [hz1]; exact hr) ?_ (by rw [hz2]; omega) (by omega) hbase ?_
  · have key : ∀ (k : List TK), ∀ u ∈ tRow k [], u.oneCell' = true := by
      intro k
      induction k with
      | nil => intro u hu; cases hu
      | cons t k ih =>
        intro u hu
        rcases List.mem_append.1 hu with h | h
        · simp only [TK.cells, List.mem_cons, List.not_mem_nil, or_false] at h
          rcases h with rfl | rfl | rfl | rfl | rfl <;> rfl
        · exact ih u h
    exact key k
  · intro A2 c2 w' h1 h2 _
    refine h A2 c2 w' ?_ h2
    have := h1.out
    rw [hz1] at this
    rw [Hid, tRow_app]
    exact this

set_option maxRecDepth 100000 in
set_option maxHeartbeats 6400000 in
theorem rTaken_any (Q : Nat → Prop) (g : Nat) (s : CSt) (w : World) (h : NChip Q w g s) (h19 : s.nb ≤ 19) :
    Calls Tryz.prog 66 #[.pointer (some ⟨g, 0, none⟩)] w (TknP w (refL s s.nb)) := by
  have HC := Lib.hid h
  have H19 := Lib.hid h19
  have hfd : ∀ w : World, (Instr.field 51 (.agg #[.int .i64 (s.nb : Nat), .int .i64 (s.np : Nat), .int .i64 (s.nz : Nat), .int .i64 (s.ns : Nat)]) 0).run Tryz.prog w = .ok (.int .i64 (s.nb : Nat)) w := fun _ => by kernel_rfl
  have hnb := h.ok.nb2
  clear h
  go_enter Tryz.func66, Tryz.ntmps66
  go_wp2_with fail
  go_loopw [3, 4] (fun ta tk wr => ∃ (k : Nat) (A : Option Addr) (m c : Nat), k ≤ s.nb ∧ m ≤ k ∧ tk = .int .i64 k ∧ ta = .slice A m c ∧ Hid (m = (refL s k).length) ∧ Hid (OwnV wr 90 5 w.heap.size A m c (tRow (refL s k) [])) ∧ Hid (New w wr)) (fun _ i _ => s.nb - (intOf i).toNat)
  case atStart => exact ⟨0, none, 0, 0, Nat.zero_le _, Nat.le_refl _, rfl, rfl, rfl, OwnV.nil _ _ _ _, Kept.refl _ _⟩
  case round =>
    obtain ⟨k, A, m, c, hk, hm, rfl, rfl, VM, VO, VN⟩ := hrel
    go_wp2_with fail
    refine (nGeo_any _ _ _ _ (HC.out.new VN.out)).mono ?_
    rintro e w1 ⟨rfl, k1⟩
    have VO1 := Lib.hid (VO.out.new k1)
    have VN1 := Lib.hid (VN.out.new k1)
    clear k1 VO VN
    by_cases hlt : k < s.nb
    · have HK := Lib.hid hlt
      go_wp2_with fail
      refine (rHead_any _ _ _ k _ (HC.out.new VN1.out)).mono ?_
      rintro e w2 ⟨rfl, k2⟩
      have VO2 := Lib.hid (VO1.out.new k2)
      have VN2 := Lib.hid (VN1.out.new k2)
      clear k2 VO1 VN1
      by_cases hg : ghE (readL s k 0) = 0
      · have hw : (lookV s k).w = 1 := by unfold lookV; rw [if_pos hg]
        have EV : Hid (tkOf s k = ⟨k, ghK (readL s k 0), ghR (readL s k 0), ghS (readL s k 0), badAt s k⟩) := by
          show _ = _
          unfold tkOf lookV
          rw [if_pos hg]
        have ER : Hid (refL s (k + 1) = insR (refL s k) (tkOf s k)) := by show _ = _; simp only [refL]; rw [if_pos hw]
        have hb := Lib.hid (badE_in hlt)
        rw [hg]
        clear hg hw
        generalize ghK (readL s k 0) = v0 at *
        generalize ghR (readL s k 0) = v1 at *
        generalize ghS (readL s k 0) = v2 at *
        obtain ⟨w3, hw3⟩ : ∃ w3, w3 = w2.alloc (.cells #[.int .u8 (v0 : Nat), .int .u32 (v1 : Nat), .int .u64 (v2 : Nat)] 69) := ⟨_, rfl⟩
        have B3 : Hid (Blk w3 w2.heap.size 69 [.int .u8 (v0 : Nat), .int .u32 (v1 : Nat), .int .u64 (v2 : Nat)]) := by rw [hw3]; exact Blk.made w2 _ _
        have VO3 : Hid (OwnV w3 90 5 w.heap.size A m c (tRow (refL s k) [])) := by rw [hw3]; exact VO2.out.new ((Kept.refl _ _).alloc _)
        have VN3 : Hid (New w w3) := by rw [hw3]; exact VN2.out.alloc _
        have HW3 := Lib.hid hw3
        clear hw3 VO2 VN2
        go_upto_region 6 with fail
        rw [← HW3.out]
        clear HW3
        go_upto_block 2 with fail
        go_cut [7] (fun v wx => v = .int .i64 (atR (refL s k) v2 : Nat) ∧ Hid (∃ q : Nat, wx = w3.drewN q))
        case first =>
          have cS : w3.cell? ⟨w2.heap.size, 2, none⟩ = some (.int .u64 (v2 : Nat)) := B3.out.cell 2
          obtain ⟨y, hy⟩ : ∃ y : Int, y = (v2 : Int) := ⟨_, rfl⟩
          rw [← hy] at cS
          have HY := Lib.hid hy
          have hlen := Lib.hid VM.out
          have hrow := Lib.hid VO3.out.row
          clear hy VO3 VN3 B3
          go_wp2_with fail
          go_loopw [7] (fun i wr => ∃ a q : Nat, a ≤ m ∧ i = .int .i64 a ∧ wr = w3.drewN q ∧ Hid (∀ j, j < a → seqAt (refL s k) j ≤ v2)) (fun i _ => m - (intOf i).toNat)
          case atStart => exact ⟨0, 0, Nat.zero_le _, rfl, rfl, fun j hj => absurd hj (by omega)⟩
          case round =>
            obtain ⟨a, q, ha, rfl, rfl, hle⟩ := hrel
            by_cases hlt2 : a < m
            · have hal : a < (refL s k).length := by rw [← hlen.out]; exact hlt2
              obtain ⟨gA, oA, rfl, hcell⟩ := hrow.out.2 (by omega)
              have hget := List.getElem?_eq_getElem hal
              have ct := hcell (a * 5 + 3) _ (tRow_get [] (refL s k) 3 _ a _ hget (by omega) rfl)
              obtain ⟨x, hx⟩ : ∃ x : Int, x = ((refL s k)[a].s : Int) := ⟨_, rfl⟩
              rw [← hx, ← Nat.add_assoc] at ct
              have HX : Hid (x = (seqAt (refL s k) a : Int)) := by rw [Hid, hx, seqAt_get hget]
              have hlt3 : (a : Int) < (m : Int) := by omega
              have dlt : decide ((a : Int) < (m : Int)) = true := decide_eq_true hlt3
              clear hx hget hcell hrow
              by_cases hxy : x ≤ y
              · have dxy : decide (x ≤ y) = true := decide_eq_true hxy
                have HLE : Hid (∀ j, j < a + 1 → seqAt (refL s k) j ≤ v2) := fun j hj => by
                  by_cases e : j = a
                  · subst e
                    have h1 := HX.out
                    have h2 := HY.out
                    omega
                  · exact hle.out j (by omega)
                clear hxy
                go_wp2
                go_quiet (fail)
                go_wp2
                go_roundw
                case rel => exact ⟨a + 1, _, by omega, by go_num, rfl, HLE⟩
                case measure => simp [intOf]; omega
              · have dxy : decide (x ≤ y) = false := decide_eq_false hxy
                have HAT : Hid (a = atR (refL s k) v2) := by
                  show _ = _
                  have h1 := HX.out
                  have h2 := HY.out
                  unfold atR
                  rw [(tw_at (refL s k) v2 a (by omega) hle.out (.inr (by omega))).1, List.length_take]
                  omega
                clear hxy
                go_wp2
                go_quiet (fail)
                go_wp2
                go_meet
                exact ⟨by rw [← HAT.out], ⟨_, World.drewN_drewN _ _ _⟩⟩
            · have e : a = m := by omega
              have HAT : Hid (a = atR (refL s k) v2) := by
                show _ = _
                have h1 := hlen.out
                unfold atR
                rw [(tw_at (refL s k) v2 a (by omega) hle.out (.inl (by omega))).1, List.length_take]
                omega
              have dlt : decide ((a : Int) < (m : Int)) = false := decide_eq_false (by omega)
              clear hrow
              go_wp2
              go_quiet (fail)
              go_wp2
              go_meet
              exact ⟨by rw [← HAT.out], ⟨_, World.drewN_drewN _ _ _⟩⟩
        case rest =>
          obtain ⟨rfl, ⟨q, rfl⟩⟩ := hcut
          have VO4 : Hid (OwnV (w3.drewN q) 90 5 w.heap.size A m c (tRow (refL s k) [])) := VO3.out.drewN q
          have VN4 : Hid (New w (w3.drewN q)) := VN3.out.drewN q
          have B4 : Hid (Blk (w3.drewN q) w2.heap.size 69 [.int .u8 (v0 : Nat), .int .u32 (v1 : Nat), .int .u64 (v2 : Nat)]) := B3.out.drewN q
          clear VO3 VN3 B3
          generalize w3.drewN q = w4 at *
          have hax : atR (refL s k) v2 ≤ m := by
            have h1 := VM.out
            unfold atR
            have := (List.takeWhile_sublist (l := refL s k) (fun x => decide (x.s ≤ v2))).length_le
            omega
          have VN0 := Lib.hid VN4.out.size
          have HA := Lib.hid (atR_split (refL s k) v2)
          generalize atR (refL s k) v2 = a at *
          have HF : Hid (refL s (k + 1) = (refL s k).take a ++ (tkOf s k :: (refL s k).drop a)) := by
            show _ = _
            rw [ER.out]
            unfold insR
            have e2 : (tkOf s k).s = v2 := by rw [EV.out]
            rw [e2, HA.out.1, HA.out.2]
          have hml := Lib.hid VM.out
          have RT : Hid (RowV w4 A a 5 (tRow ((refL s k).take a) [])) := by
            have := VO4.out.row.take hax
            rwa [tRow_take _ _ (by have := hml.out; omega)] at this
          have hcm := VO4.out.2.1
          have RD : Hid (RowV w4 (if c = a then A else A.map (·.add (a * 5))) (m - a) 5 (tRow ((refL s k).drop a) [])) := by
            have := VO4.out.row.cut hax hcm
            rwa [tRow_drop _ _ (by have := hml.out; omega)] at this
          have hm19 : m ≤ 19 := by have := H19.out; omega
          clear VM HA ER
          go_wp2_with (first
            | (at_builtin; refine wpList_append_tk _ rfl _ _ rfl w4.heap.size none 0 0 [] rfl (OwnV.nil _ _ _ _) A a c ((refL s k).take a) rfl RT.out (by omega) (Nat.le_refl _) ?_)
            | fail)
          intro A5 c5 w5 O5 g5
          have K45 : Hid (New w4 w5) := Lib.hid ((Kept.refl _ _).grown g5.out (by simp))
          have VO5 := Lib.hid (VO4.out.new K45.out)
          have RD5 := Lib.hid (RD.out.new K45.out)
          have VN5 := Lib.hid (VN4.out.new K45.out)
          have B5 := Lib.hid (B4.out.new K45.out)
          have HC5 := Lib.hid (HC.out.new VN5.out)
          have L45 := Lib.hid K45.out.size
          have hold : Hid (∀ a', A = some a' → a'.block < w4.heap.size) := fun a' ha' => (VO4.out.at_ a' ha').1.lt
          clear g5 VO4 B4 RT
          have e0 : w5.cell? ⟨w2.heap.size, 0, none⟩ = some (.int .u8 (v0 : Nat)) := B5.out.cell 0
          have e1 : w5.cell? ⟨w2.heap.size, 1, none⟩ = some (.int .u32 (v1 : Nat)) := B5.out.cell 1
          have e2 : w5.cell? ⟨w2.heap.size, 2, none⟩ = some (.int .u64 (v2 : Nat)) := B5.out.cell 2
          have hbl := B5.out.lt
          have EB : Hid (tRow ((refL s k).take a) [] ++ [.int .i64 (k : Nat), .int .u8 (v0 : Nat), .int .u32 (v1 : Nat), .int .u64 (v2 : Nat), .bool (badAt s k)] = tRow ((refL s k).take a ++ [tkOf s k]) []) := by
            show _ = _
            rw [tRow_snoc, EV.out]
            rfl
          generalize badAt s k = bv at *
          have MB : Hid (Blk ((w5.alloc (.cells #[.int .i64 (k : Nat), .int .u8 (v0 : Nat), .int .u32 (v1 : Nat), .int .u64 (v2 : Nat), .bool bv] 90)).drew) w5.heap.size 90 [.int .i64 (k : Nat), .int .u8 (v0 : Nat), .int .u32 (v1 : Nat), .int .u64 (v2 : Nat), .bool bv]) := Blk.made w5 _ _
          have KA : Hid (New w5 ((w5.alloc (.cells #[.int .i64 (k : Nat), .int .u8 (v0 : Nat), .int .u32 (v1 : Nat), .int .u64 (v2 : Nat), .bool bv] 90)).drew)) := ((Kept.refl _ _).alloc _).drew
          have ONE : Hid (∀ u ∈ [Value.int .i64 (k : Nat), .int .u8 (v0 : Nat), .int .u32 (v1 : Nat), .int .u64 (v2 : Nat), .bool bv], u.oneCell' = true) := by intro u hu; simp at hu; rcases hu with rfl | rfl | rfl | rfl | rfl <;> rfl
          have NB : Hid (a + 1 ≤ 65) := by show _ ≤ _; omega
          go_upto_region 12 with fail
          go_region_law (first
            | (with_reducible refine step_append_tk (wb := w5) (o := ⟨some 54, _, _, _, _, _⟩) rfl (.tmp 46) (.tmp 53) rfl w4.heap.size A5 a c5 (tRow ((refL s k).take a) []) ?_ O5.out KA.out w5.heap.size 1 [.int .i64 (k : Nat), .int .u8 (v0 : Nat), .int .u32 (v1 : Nat), .int .u64 (v2 : Nat), .bool bv] ?_ MB.out rfl ONE.out NB.out L45.out ?_; (next => go_simp); (next => go_simp); intro A7 c7 w7 O7 K7)
            | (go_simp; go_at_call 98; refine (nBad_any _ _ _ k _ (by first | exact HC5.out | exact HC5.out.new ((Kept.refl _ _).drew))).mono ?_; rintro e w' ⟨rfl, rfl⟩; rw [hb.out]))
          all_goals
            have E1 : Hid (OwnV w7 90 5 w4.heap.size A7 (a + 1) c7 (tRow ((refL s k).take a ++ [tkOf s k]) [])) := by rw [← EB.out]; exact O7.out
            have N47 : Hid (New w4 w7) := new_of_kept K45.out K7.out fun b' hb' => by
              obtain ⟨a0, ha0, e⟩ := hb'
              have := (O5.out.at_ a0 ha0).2
              omega
            have RD7 := Lib.hid (RD.out.new N47.out)
            have L47 := Lib.hid N47.out.size
            have VN7 := Lib.hid (VN4.out.new N47.out)
            have hsum : a + 1 + (m - a) = m + 1 := by omega
            have HEQ : Hid (refL s (k + 1) = (refL s k).take a ++ (tkOf s k :: (refL s k).drop a)) := HF
            have HLN : Hid (m + 1 = (refL s (k + 1)).length) := by
              have h1 := hml.out
              rw [Hid, HEQ.out, List.length_append, List.length_cons, List.length_take, List.length_drop]
              omega
            have HNB : a + 1 + (m - a) ≤ 65 := by omega
            have hk1 : k + 1 ≤ s.nb := HK.out
            clear O7 K7 e0 e1 e2 hbl EB MB KA ONE NB VO5 RD5 VN5 B5 HC5 L45 hold EV hb O5 K45 RD VN4 HF
            go_wp2_with (first
              | (at_builtin; refine wpList_append_tk _ rfl _ _ rfl w4.heap.size A7 (a + 1) c7 ((refL s k).take a ++ [tkOf s k]) rfl E1.out (if c = a then A else A.map (·.add (a * 5))) (m - a) (c - a) ((refL s k).drop a) rfl RD7.out HNB L47.out ?_)
              | fail)
            all_goals
              intro A9 c9 w9 O9 g9
              have VO9 : Hid (OwnV w9 90 5 w.heap.size A9 (m + 1) c9 (tRow (refL s (k + 1)) [])) := by
                obtain ⟨q1, q2, q3, q4⟩ := O9.out
                rw [HEQ.out]
                refine ⟨q1, q2, q3, q4.imp id ?_⟩
                rintro ⟨g0, sp, r1, r2, r3⟩
                exact ⟨g0, sp, r1, Nat.le_trans VN0.out r2, r3⟩
              have VN9 : Hid (New w w9) := VN7.out.trans (S' := fun b => ∃ a0, A7 = some a0 ∧ a0.block = b) ((Kept.refl _ _).grown g9.out fun b' hb' hr => by
                obtain ⟨a0, ha0, e⟩ := Option.map_eq_some_iff.1 hr
                exact ⟨a0, ha0, e⟩) fun i hi hx => by
                  obtain ⟨a0, ha0, e⟩ := hx
                  have h1 := (E1.out.at_ a0 ha0).2
                  have h2 := VN0.out
                  omega
              clear g9 O9 E1 N47 RD7 L47 VN7 VN0 HEQ HNB
              go_wp2
              go_roundw
              case rel => exact ⟨k + 1, A9, m + 1, c9, hk1, by omega, by go_num, rfl, HLN, VO9, VN9⟩
              case measure => simp [intOf]; omega
      · have hd : decide (ghE (readL s k 0) = 0) = false := decide_eq_false hg
        have hw : ¬ (lookV s k).w = 1 := by unfold lookV; rw [if_neg hg]; show ¬ hlV s k = 1; unfold hlV; split <;> omega
        have ER : Hid (refL s (k + 1) = refL s k) := by show _ = _; simp only [refL]; rw [if_neg hw]
        have VN3 : Hid (New w (w2.alloc (.cells #[.int .u8 (ghK (readL s k 0) : Nat), .int .u32 (ghR (readL s k 0) : Nat), .int .u64 (ghS (readL s k 0) : Nat)] 69))) := VN2.out.alloc _
        have VO3 : Hid (OwnV (w2.alloc (.cells #[.int .u8 (ghK (readL s k 0) : Nat), .int .u32 (ghR (readL s k 0) : Nat), .int .u64 (ghS (readL s k 0) : Nat)] 69)) 90 5 w.heap.size A m c (tRow (refL s (k + 1)) [])) := by rw [ER.out]; exact VO2.out.new ((Kept.refl _ _).alloc _)
        have VM3 : Hid (m = (refL s (k + 1)).length) := by rw [ER.out]; exact VM
        rw [hd]
        clear hg hd hw VN2 VO2 VM ER
        go_wp2
        go_roundw
        case rel => exact ⟨k + 1, A, m, c, by omega, by omega, by go_num, rfl, VM3, VO3, VN3⟩
        case measure => simp [intOf]; omega
    · obtain rfl : k = s.nb := by omega
      have R : Hid (TknP w (refL s s.nb) (.returned (.slice A m c)) w1) := ⟨A, c, by rw [VM.out], by rw [← VM.out]; exact VO1.out, VN1.out⟩
      clear VO1 VN1
      go_wp2
      go_ret
      exact R.out

end


end Go.Proofs.YtbiihjdjbknibaaGreat
