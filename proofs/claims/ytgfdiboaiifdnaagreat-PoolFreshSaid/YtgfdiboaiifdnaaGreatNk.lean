/-
  The contracts of a chip's Program and Erase.
-/
import Derived.Test.YtgfdiboaiifdnaaGreatNj
namespace Go.Proofs.YtgfdiboaiifdnaaGreat
open Go.ChangeShapes Go.WideShapes Go.ChangeAt Go.RowKit

theorem DeedP.stay {Q : Nat → Prop} {w w' : World} {g : Nat} {s : CSt} (h : NChip Q w g s) (hk : New w w') (er : Int) : DeedP Q w g s er (.returned (.int .i64 er)) w' :=
  ⟨rfl, h.new hk, hk.mono fun _ _ f => f.elim⟩

set_option maxRecDepth 100000 in
set_option maxHeartbeats 800000 in
theorem nProg_any (Q : Nat → Prop) (g : Nat) (s : CSt) (b p : Int) (n : Nat) (G : Option Addr) (c2 : Nat) (gl : List Nat) (w : World) (h : NChip Q w g s) (hd : s.deeds < 4611686018427387904)
    (hg : Bts w G n gl) (hg1 : ∀ a, G = some a → ¬ Q a.block) :
    Calls Tryz.prog 13 #[.pointer (some ⟨g, 0, none⟩), .int .i64 b, .int .i64 p, .slice G n c2] w (DeedP Q w g (progS s b p gl) (progE s b p gl)) := by
  have hstay := fun (w' : World) (hk : New w w') (er : Int) => DeedP.stay h hk er
  obtain ⟨gc, gb, bl, bb, cc, cb, Ah, ch, h⟩ := h
  have hlen := hg.1
  have H := Lib.hid h
  have HS := Lib.hid hstay
  by_cases hr : refE s b p = 0
  · obtain ⟨hdd, ht⟩ := refE_ok hr
    have HT := Lib.hid ht
    obtain ⟨b', rfl, hb⟩ := nat_of ht.1
    obtain ⟨p', rfl, hp⟩ := nat_of ht.2
    have HR := Lib.hid hr
    have HB := Lib.hid hb
    have HP := Lib.hid hp
    have HD := Lib.hid hd
    have HDD := Lib.hid hdd
    have HG := Lib.hid hg
    have HG1 := Lib.hid hg1
    have HL := Lib.hid hlen
    have d2 := h.c2
    have c5 := h.c5
    rw [h.ok.badl] at c5
    have hlt := h.chip.lt
    have hbi : (b' : Int) < ((s.nb : Nat) : Int) := by omega
    have hcb := badAt_cell h b' hb
    have hnz1 := h.ok.nz1
    have hnz2 := h.ok.nz2
    by_cases hn : n = s.nz
    · have hni : (n : Int) = (s.nz : Int) := by omega
      by_cases hbad : badAt s b' = true
      · have e0 : progR s b' p' gl.length = 9 := by unfold progR; rw [hr, hlen]; simp [hn, hbad]
        have e1 : progE s b' p' gl = 9 := by unfold progE; rw [e0]; rfl
        have e2 : progS s b' p' gl = s := by unfold progS; rw [e0]; rfl
        rw [e1, e2]
        rw [hbad] at hcb
        have HNI := Lib.hid hni
        clear h hr hdd ht hb hp hd hg hg1 hlen e0 e1 e2 hbad hstay
        subst hn
        go_enter Tryz.func13, Tryz.ntmps13
        go_wp2_with fail
        refine (refuses_any _ _ _ _ _ _ _ _ _ _ _ _ _ _ H.out).mono ?_
        rintro e w' ⟨rfl, rfl⟩
        rw [HR.out]
        go_wp2
        go_ret
        exact HS.out _ (Kept.refl _ _) 9
      · have hbad' : badAt s b' = false := by simpa using hbad
        rw [hbad'] at hcb
        by_cases hfree : blank (tailL s b' p') = true
        · have e0 : progR s b' p' gl.length = 0 := by unfold progR; rw [hr, hlen]; simp [hn, hbad', hfree]
          have e1 : progE s b' p' gl = deedE s := by unfold progE; rw [e0]; rfl
          have e2 : progS s b' p' gl = deedS s b' ((b' * s.np + p') * s.nz) gl := by unfold progS offP; rw [e0]; simp
          rw [e1, e2]
          have HFR := Lib.hid hfree
          have hfit := (off_fit s h.ok b' p' ht).2.2
          unfold offP at hfit
          simp only [Int.toNat_natCast] at hfit
          have HFI := Lib.hid hfit
          generalize hE : deedE s = E
          have HE := Lib.hid hE
          generalize hS : deedS s b' ((b' * s.np + p') * s.nz) gl = S2
          have HS2 := Lib.hid hS
          clear h hr hdd ht hb hp hd hg hg1 hlen e0 e1 e2 hbad hbad' hfree hfit hE hS hstay
          subst hn
          go_enter Tryz.func13, Tryz.ntmps13
          go_wp2_with fail
          refine (refuses_any _ _ _ _ _ _ _ _ _ _ _ _ _ _ H.out).mono ?_
          rintro e w' ⟨rfl, rfl⟩
          rw [HR.out]
          go_wp2_with fail
          refine (isFree_any _ _ _ _ _ _ _ _ _ _ _ _ _ _ H.out HB.out HP.out).mono ?_
          rintro e w' ⟨q, rfl, rfl⟩
          rw [HFR.out]
          go_wp2_with fail
          refine (pageOf_any _ _ _ _ _ _ _ _ _ _ _ _ _ _ (H.out.drewN q) HB.out HP.out).mono ?_
          rintro e w' ⟨q2, rfl, rfl⟩
          go_wp2_with fail
          refine (deed_any Q g gc gb bl bb cc cb Ah ch s b' ((b' * s.np + p') * s.nz) s.nz G _ gl _ (H.out.drewN (q + q2)) HD.out (HG.out.drewN (q + q2)) HG1.out HFI.out (by omega) HB.out HDD.out).mono ?_
          rw [HE.out, HS2.out]
          rintro e w4 ⟨rfl, hc, hk⟩
          have HC := Lib.hid hc
          have HK : Hid (Kept Q w w4) := Kept.of_drewN hk
          clear hc hk
          go_wp2
          go_ret
          exact ⟨rfl, HC.out, HK.out⟩
        · have hfree' : blank (tailL s b' p') = false := by simpa using hfree
          have e0 : progR s b' p' gl.length = 8 := by unfold progR; rw [hr, hlen]; simp [hn, hbad', hfree']
          have e1 : progE s b' p' gl = 8 := by unfold progE; rw [e0]; rfl
          have e2 : progS s b' p' gl = s := by unfold progS; rw [e0]; rfl
          rw [e1, e2]
          have HFR := Lib.hid hfree'
          clear h hr hdd ht hb hp hd hg hg1 hlen e0 e1 e2 hbad hbad' hfree hfree' hstay
          subst hn
          go_enter Tryz.func13, Tryz.ntmps13
          go_wp2_with fail
          refine (refuses_any _ _ _ _ _ _ _ _ _ _ _ _ _ _ H.out).mono ?_
          rintro e w' ⟨rfl, rfl⟩
          rw [HR.out]
          go_wp2_with fail
          refine (isFree_any _ _ _ _ _ _ _ _ _ _ _ _ _ _ H.out HB.out HP.out).mono ?_
          rintro e w' ⟨q, rfl, rfl⟩
          rw [HFR.out]
          go_wp2
          go_ret
          exact HS.out _ ((Kept.refl _ _).drewN q) 8
    · have e0 : progR s b' p' gl.length = 2 := by unfold progR; rw [hr, hlen]; simp [hn]
      have e1 : progE s b' p' gl = 2 := by unfold progE; rw [e0]; rfl
      have e2 : progS s b' p' gl = s := by unfold progS; rw [e0]; rfl
      rw [e1, e2]
      have hn1 : ((n : Int) == (s.nz : Int)) = false := beq_eq_false_iff_ne.2 (by omega)
      have hn2 : (n == s.nz) = false := beq_eq_false_iff_ne.2 hn
      clear h hr hdd ht hb hp hd hg hg1 hlen e0 e1 e2 hstay
      go_enter Tryz.func13, Tryz.ntmps13
      go_wp2_with fail
      refine (refuses_any _ _ _ _ _ _ _ _ _ _ _ _ _ _ H.out).mono ?_
      rintro e w' ⟨rfl, rfl⟩
      rw [HR.out]
      go_wp2
      go_ret
      exact HS.out _ (Kept.refl _ _) 2
  · have e0 : progR s b p gl.length = refE s b p := by unfold progR; rw [if_pos hr]
    have e1 : progE s b p gl = refE s b p := by unfold progE; rw [e0, if_neg hr]
    have e2 : progS s b p gl = s := by unfold progS; rw [e0, if_neg hr]
    rw [e1, e2]
    have hq : (refE s b p == 0) = false := beq_eq_false_iff_ne.2 hr
    clear h e0 e1 e2 hr hg hg1 hlen hd hstay
    generalize hx : refE s b p = x at *
    have HX := Lib.hid hx
    clear hx
    go_enter Tryz.func13, Tryz.ntmps13
    go_wp2_with fail
    refine (refuses_any _ _ _ _ _ _ _ _ _ _ _ _ _ _ H.out).mono ?_
    rintro e w' ⟨rfl, rfl⟩
    rw [HX.out]
    go_wp2
    go_ret
    exact HS.out _ (Kept.refl _ _) x

theorem bts_of_ones {w : World} {g n : Nat} {j : List Value} (h : Blk w g 5 ((List.replicate n 255).map byt ++ j)) : Bts w (some ⟨g, 0, none⟩) n (List.replicate n 255) := by
  refine ⟨by simp, rep_bytes n, fun _ => ⟨g, 0, rfl, fun i x hx => ?_⟩⟩
  have hi := (List.getElem?_eq_some_iff.1 hx).1
  rw [Nat.zero_add, h.cell, List.getElem?_append_left (by simpa using hi), List.getElem?_map, hx]
  rfl

set_option maxRecDepth 100000 in
set_option maxHeartbeats 800000 in
theorem nErase_any (Q : Nat → Prop) (g : Nat) (s : CSt) (b : Int) (w : World) (h : NChip Q w g s) (hd : s.deeds < 4611686018427387904) :
    Calls Tryz.prog 71 #[.pointer (some ⟨g, 0, none⟩), .int .i64 b] w (DeedP Q w g (erasS s b) (erasE s b)) := by
  have hstay := fun (w' : World) (hk : New w w') (er : Int) => DeedP.stay h hk er
  obtain ⟨gc, gb, bl, bb, cc, cb, Ah, ch, h⟩ := h
  have H := Lib.hid h
  have HS := Lib.hid hstay
  by_cases hr : refE s b 0 = 0
  · obtain ⟨hdd, ht⟩ := refE_ok hr
    obtain ⟨b', rfl, hb⟩ := nat_of ht.1
    have HR := Lib.hid hr
    have HB := Lib.hid hb
    have HD := Lib.hid hd
    have HDD := Lib.hid hdd
    have c5 := h.c5
    rw [h.ok.badl] at c5
    have hlt := h.chip.lt
    have hbi : (b' : Int) < ((s.nb : Nat) : Int) := by omega
    have hcb := badAt_cell h b' hb
    by_cases hbad : badAt s b' = true
    · have e0 : erasR s b' = 9 := by unfold erasR; rw [hr]; simp [hbad]
      have e1 : erasE s b' = 9 := by unfold erasE; rw [e0]; rfl
      have e2 : erasS s b' = s := by unfold erasS; rw [e0]; rfl
      rw [e1, e2]
      rw [hbad] at hcb
      clear h hr hdd ht hb hd e0 e1 e2 hbad hstay
      go_enter Tryz.func71, Tryz.ntmps71
      go_wp2_with fail
      refine (refuses_any _ _ _ _ _ _ _ _ _ _ _ _ _ _ H.out).mono ?_
      rintro e w' ⟨rfl, rfl⟩
      rw [HR.out]
      go_wp2
      go_ret
      exact HS.out _ (Kept.refl _ _) 9
    · have hbad' : badAt s b' = false := by simpa using hbad
      rw [hbad'] at hcb
      have e0 : erasR s b' = 0 := by unfold erasR; rw [hr]; simp [hbad']
      have e1 : erasE s b' = deedE s := by unfold erasE; rw [e0]; rfl
      have e3 : offP s b' 0 = b' * (s.np * s.nz) := by unfold offP; simp [Nat.mul_assoc]
      have e2 : erasS s b' = deedS s b' (b' * (s.np * s.nz)) (List.replicate (s.np * s.nz) 255) := by unfold erasS; rw [e0, e3]; rfl
      rw [e1, e2]
      have hfit := (off_fit s h.ok b' 0 ht).1
      rw [e3] at hfit
      simp only [Int.toNat_zero, Nat.sub_zero] at hfit
      have HFI := Lib.hid hfit
      have hm1 : s.np * s.nz ≤ 8192 := by have := Nat.mul_le_mul h.ok.np2 h.ok.nz2; omega
      have hm0 : 2 ≤ s.np * s.nz := by have := Nat.mul_le_mul h.ok.np1 h.ok.nz1; omega
      have HM0 := Lib.hid hm0
      have HM1 := Lib.hid hm1
      generalize hE : deedE s = E
      have HE := Lib.hid hE
      generalize hS : deedS s b' (b' * (s.np * s.nz)) (List.replicate (s.np * s.nz) 255) = S2
      have HS2 := Lib.hid hS
      have HSz := Lib.hid h.ok.size
      clear h hr hdd ht hb hd e0 e1 e2 e3 hbad hbad' hfit hE hS hstay hm0 hm1
      go_enter Tryz.func71, Tryz.ntmps71
      go_wp2_with fail
      refine (refuses_any _ _ _ _ _ _ _ _ _ _ _ _ _ _ H.out).mono ?_
      rintro e w' ⟨rfl, rfl⟩
      rw [HR.out]
      go_wp2_with fail
      refine (blockOf_any _ _ _ _ _ _ _ _ _ _ _ _ _ H.out HB.out).mono ?_
      rintro e w' ⟨q, rfl, rfl⟩
      go_wp2_with fail
      refine (erased_any _ _ HM0.out (by have := HM1.out; omega)).mono ?_
      rintro e w3 ⟨gE, jE, rfl, hE, hgE, hk⟩
      have BE := Lib.hid (bts_of_ones hE)
      have GE := Lib.hid hgE
      have K3 : Hid (New w w3) := hk.of_drewN
      have H3 := Lib.hid (H.out.new K3.out)
      clear hE hgE hk
      go_wp2_with fail
      refine (deed_any Q g gc gb bl bb cc cb Ah ch s b' (b' * (s.np * s.nz)) (s.np * s.nz) _ _ _ _ H3.out HD.out BE.out (fun a ha hq => ?_) HFI.out (by have := HM1.out; omega) HB.out HDD.out).mono ?_
      · injection ha with ha
        subst ha
        have h1 := H.out.low _ hq
        have h2 := GE.out
        simp at h1 h2
        omega
      rw [HE.out, HS2.out]
      rintro e w4 ⟨rfl, hc, hk⟩
      have HC := Lib.hid hc
      have HK : Hid (Kept Q w w4) := (K3.out.mono (S' := Q) fun _ _ f => f.elim).trans hk fun _ _ x => x
      clear hc hk
      go_wp2
      go_ret
      exact ⟨rfl, HC.out, HK.out⟩
  · have e0 : erasR s b = refE s b 0 := by unfold erasR; rw [if_pos hr]
    have e1 : erasE s b = refE s b 0 := by unfold erasE; rw [e0, if_neg hr]
    have e2 : erasS s b = s := by unfold erasS; rw [e0, if_neg hr]
    rw [e1, e2]
    have hq : (refE s b 0 == 0) = false := beq_eq_false_iff_ne.2 hr
    clear h e0 e1 e2 hr hd hstay
    generalize hx : refE s b 0 = x at *
    have HX := Lib.hid hx
    clear hx
    go_enter Tryz.func71, Tryz.ntmps71
    go_wp2_with fail
    refine (refuses_any _ _ _ _ _ _ _ _ _ _ _ _ _ _ H.out).mono ?_
    rintro e w' ⟨rfl, rfl⟩
    rw [HX.out]
    go_wp2
    go_ret
    exact HS.out _ (Kept.refl _ _) x
end Go.Proofs.YtgfdiboaiifdnaaGreat
