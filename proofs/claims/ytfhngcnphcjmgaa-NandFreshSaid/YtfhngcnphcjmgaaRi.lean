/-
  The contracts of the reference's deeds as a whole: done, Program, Erase, Power.
-/
import Derived.Test.YtfhngcnphcjmgaaRh
namespace Go.Proofs.Ytfhngcnphcjmgaa
open Go.ChangeShapes Go.WideShapes Go.ChangeAt Go.RowKit

def RDeedP (Q : Nat → Prop) (w : World) (g : Nat) (s' : CSt) (er : Int) (e : Ending) (w' : World) : Prop :=
  e = .returned (.int .i64 er) ∧ RChip Q w' g s' ∧ Kept Q w w'
theorem RDeedP.stay {Q : Nat → Prop} {w w' : World} {g : Nat} {s : CSt} (h : RChip Q w g s) (hk : New w w') (er : Int) : RDeedP Q w g s er (.returned (.int .i64 er)) w' :=
  ⟨rfl, h.new hk, hk.mono fun _ _ f => f.elim⟩

theorem RDeedP.of {Q : Nat → Prop} {w w' : World} {g : Nat} {s1 s2 : CSt} {e1 e2 : Int} (h1 : e1 = e2) (h2 : s1 = s2) (h3 : RChip Q w' g s2) (h4 : Kept Q w w') : RDeedP Q w g s1 e1 (.returned (.int .i64 e2)) w' := by subst h1 h2; exact ⟨rfl, h3, h4⟩

theorem rDone_any (Q : Nat → Prop) (g gc gb cc cb : Nat) (Ah : Option Addr) (ch : Nat) (s : CSt) (b off n : Nat) (G : Option Addr) (c2 : Nat) (gl : List Nat) (w : World) (h : RRep Q w g gc gb cc cb Ah ch s) (hd : s.deeds < 4611686018427387904)
    (hg : Bts w G n gl) (hg1 : ∀ a, G = some a → ¬ Q a.block) (hf : off + n ≤ s.by_.length) (hn : n ≤ 524288) (hb : b < s.nb) (hal : s.dead = false) :
    Calls Try.prog 65 #[.pointer (some ⟨g, 0, none⟩), .int .i64 b, .int .i64 off, .slice G n c2] w (RDeedP Q w g (deedS s b off gl) (deedE s)) := by
  cases hh : s.hits with
  | nil =>
    obtain ⟨e2, e1⟩ := deedS_none hh b off gl
    rw [e1, e2]
    refine (rDone_un Q g gc gb cc cb Ah ch s { s with deeds := s.deeds + 1 } b off n G c2 gl w h hg hg1 hf hn (rStruck_none Q g gc gb cc cb Ah ch s w h hd hh)).mono ?_
    rintro e w' ⟨rfl, ⟨Ah', ch', hr⟩, hk⟩
    exact ⟨rfl, ⟨_, _, _, _, _, _, hr⟩, hk⟩
  | cons x t =>
    have h0 : 0 < s.hits.length := by rw [hh]; simp
    have hx := h.ok.hits x (by rw [hh]; simp)
    obtain ⟨gh, oh, rfl, hq, hat, hc⟩ := h.hits h0
    obtain ⟨c1, c2', Am, cm, c3, hm⟩ := hc 0 x (by rw [hh]; rfl)
    have hne : gh ≠ g := hat.ne_of h.chip.at_ (by decide)
    by_cases hlt : s.since < x.after
    · have e1 : deedE s = 0 := by unfold deedE; rw [hh]; simp [hlt]
      have e2 : deedS s b off gl = { { s with deeds := s.deeds + 1, since := s.since + 1 } with by_ := lay s.by_ off gl } := by unfold deedS; rw [hh]; simp [hlt]
      rw [e1, e2]
      refine (rDone_un Q g gc gb cc cb _ ch s { s with deeds := s.deeds + 1, since := s.since + 1 } b off n G c2 gl w h hg hg1 hf hn (rStruck_not Q g gc gb cc cb gh oh ch s x.after w h hd h0 c1 hne hlt hx.after)).mono ?_
      rintro e w' ⟨rfl, ⟨Ah', ch', hr⟩, hk⟩
      exact ⟨rfl, ⟨_, _, _, _, _, _, hr⟩, hk⟩
    · obtain ⟨e2, e1⟩ := deedS_hit hh hlt b off gl
      rw [e1, e2]
      refine (rDone_st Q g gc gb cc cb _ ch s { s with deeds := s.deeds + 1, hits := t, since := 0 } b off n G c2 gl x.after x.fails Am x.mask.length cm x.mask w h hg hg1 hf hn rfl hx.len hb hal (rStruck_yes Q g gc gb cc cb gh oh ch s x t Am cm w h hd hh c1 c2' c3 hm hne hlt)).mono ?_
      rintro e w' ⟨rfl, ⟨Ah', ch', hr⟩, hk⟩
      exact ⟨rfl, ⟨_, _, _, _, _, _, hr⟩, hk⟩

/-- All pages from p on are blank: the tail is. -/
theorem tail_pages (s : CSt) (hok : s.Ok) (b p : Nat) (hb : b < s.nb) (hp : p < s.np) : blank (tailL s b p) = true ↔ ∀ q, p ≤ q → q < s.np → blank (pgL s b q) = true := by
  have hfit := off_fit s hok b p ⟨⟨by omega, by omega⟩, by omega, by omega⟩
  have ho : ∀ q : Nat, offP s b q = (b * s.np + q) * s.nz := fun q => by unfold offP; simp
  have hnz := hok.nz1
  unfold blank tailL pgL
  simp only [List.all_eq_true, beq_iff_eq]
  constructor
  · intro h q hq1 hq2 x hx
    refine h x ?_
    obtain ⟨i, hi, rfl⟩ := List.getElem_of_mem hx
    have hi2 : i < s.nz := by simp at hi; omega
    rw [List.getElem_take, List.getElem_drop]
    rw [List.mem_iff_getElem]
    have h1 : (q - p) * s.nz + i < (s.np - p) * s.nz := by
      have := Nat.mul_le_mul_right s.nz (show q - p + 1 ≤ s.np - p by omega)
      rw [Nat.add_mul, Nat.one_mul] at this
      omega
    have h2 : offP s b q = offP s b p + (q - p) * s.nz := by
      rw [ho, ho, ← Nat.add_mul]
      congr 1
      omega
    refine ⟨(q - p) * s.nz + i, by rw [List.length_take, List.length_drop]; simp only [Int.toNat_natCast]; have := hfit.1; simp only [Int.toNat_natCast] at this; omega, ?_⟩
    rw [List.getElem_take, List.getElem_drop]
    congr 1
    omega
  · intro h x hx
    obtain ⟨i, hi, rfl⟩ := List.getElem_of_mem hx
    have hi2 := Nat.lt_of_lt_of_le hi (List.length_take_le _ _)
    simp only [Int.toNat_natCast] at hi2
    have hq : i / s.nz < s.np - p := Nat.div_lt_of_lt_mul (by rw [Nat.mul_comm]; exact hi2)
    have h3 := Nat.mod_add_div i s.nz
    have h4 : i % s.nz < s.nz := Nat.mod_lt _ (by omega)
    rw [Nat.mul_comm] at h3
    generalize i / s.nz = t at *
    generalize i % s.nz = r at *
    have hq2 : p + t < s.np := by omega
    have hfit2 := off_fit s hok b ((p + t : Nat) : Int) ⟨⟨by omega, by omega⟩, by omega, by omega⟩
    have h2 : offP s b ((p + t : Nat) : Int) = offP s b p + t * s.nz := by
      rw [ho, ho, ← Nat.add_mul]
      congr 1
      omega
    refine h (p + t) (by omega) hq2 _ ?_
    rw [List.mem_iff_getElem]
    refine ⟨r, by rw [List.length_take, List.length_drop]; have := hfit2.2.2; omega, ?_⟩
    rw [List.getElem_take, List.getElem_drop, List.getElem_take, List.getElem_drop]
    congr 1
    omega

set_option maxRecDepth 100000 in
set_option maxHeartbeats 1600000 in
theorem rProg_any (Q : Nat → Prop) (g : Nat) (s : CSt) (b p : Int) (n : Nat) (G : Option Addr) (c2 : Nat) (gl : List Nat) (w : World) (h : RChip Q w g s) (hd : s.deeds < 4611686018427387904)
    (hg : Bts w G n gl) (hg1 : ∀ a, G = some a → ¬ Q a.block) :
    Calls Try.prog 28 #[.pointer (some ⟨g, 0, none⟩), .int .i64 b, .int .i64 p, .slice G n c2] w (RDeedP Q w g (progS s b p gl) (progE s b p gl)) := by
  have hstay := fun (w' : World) (hk : New w w') (er : Int) => RDeedP.stay h hk er
  obtain ⟨gc, gb, cc, cb, Ah, ch, h⟩ := h
  have hlen := hg.1
  have H := Lib.hid h
  have HS := Lib.hid hstay
  have c8 := h.c8
  by_cases hdd : s.dead = true
  · have e : refE s b p = 10 := by unfold refE; rw [if_pos hdd]
    have e0 : progR s b p gl.length = 10 := by unfold progR; rw [e, if_pos (by decide)]
    have e1 : progE s b p gl = 10 := by unfold progE; rw [e0, if_neg (by decide)]
    have e2 : progS s b p gl = s := by unfold progS; rw [e0, if_neg (by decide)]
    rw [e1, e2]
    rw [hdd] at c8
    clear h hstay hlen hdd e e0 e1 e2 hg hg1 hd
    go_enter Try.func28, Try.ntmps28
    go_wp2
    go_ret
    exact HS.out _ (Kept.refl _ _) 10
  · have hdd' : s.dead = false := by simpa using hdd
    rw [hdd'] at c8
    by_cases ht : there s b p
    · have hr : refE s b p = 0 := by unfold refE; rw [if_neg hdd, if_pos ht]
      have HT := Lib.hid (decide_eq_true ht)
      have ht' := ht
      obtain ⟨b', rfl, hb⟩ := nat_of ht.1
      obtain ⟨p', rfl, hp⟩ := nat_of ht.2
      have HB := Lib.hid hb
      have HP := Lib.hid hp
      have HD := Lib.hid hd
      have HDD := Lib.hid hdd'
      have HG := Lib.hid hg
      have HG1 := Lib.hid hg1
      have d2 := h.c2
      have d1 := h.c1
      have c5 := h.c5
      rw [h.ok.badl] at c5
      have hlt := h.chip.lt
      have hbi : (b' : Int) < ((s.nb : Nat) : Int) := by omega
      have hcb := h.badCell b' hb
      have hnz1 := h.ok.nz1
      have hnz2 := h.ok.nz2
      have hnp2 := h.ok.np2
      by_cases hn : n = s.nz
      · have HN := Lib.hid hn
        by_cases hbad : badAt s b' = true
        · have e0 : progR s b' p' gl.length = 9 := by unfold progR; rw [hr, hlen]; simp [hn, hbad]
          have e1 : progE s b' p' gl = 9 := by unfold progE; rw [e0]; rfl
          have e2 : progS s b' p' gl = s := by unfold progS; rw [e0]; rfl
          rw [e1, e2]
          rw [hbad] at hcb
          clear h hr hdd hdd' ht ht' hb hp hd hg hg1 hlen e0 e1 e2 hbad hstay
          subst hn
          go_enter Try.func28, Try.ntmps28
          go_wp2_with fail
          refine (rThere_any _ _ _ _ _ _ _ _ _ _ _ _ H.out).mono ?_
          rintro e w' ⟨rfl, rfl⟩
          rw [HT.out]
          go_wp2
          go_ret
          exact HS.out _ (Kept.refl _ _) 9
        · have hbad' : badAt s b' = false := by simpa using hbad
          rw [hbad'] at hcb
          have HTP := Lib.hid (tail_pages s h.ok b' p' hb hp)
          have e0 : progR s b' p' gl.length = if blank (tailL s b' p') = true then 0 else 8 := by unfold progR; rw [hr, hlen]; simp [hn, hbad']
          have HE0 := Lib.hid e0
          have hfit := (off_fit s h.ok b' p' ht).2.2
          unfold offP at hfit
          simp only [Int.toNat_natCast] at hfit
          have HFI := Lib.hid hfit
          have HPL : Hid (∀ q : Nat, q < s.np → (pgL s b' q).length = s.nz) := fun q hq => pg_len s h.ok b' q ⟨ht.1, by omega, by omega⟩
          clear h hr hdd hdd' ht ht' hb hd hg hg1 hlen e0 hbad hbad' hstay hfit
          subst hn
          go_enter Try.func28, Try.ntmps28
          go_wp2_with fail
          refine (rThere_any _ _ _ _ _ _ _ _ _ _ _ _ H.out).mono ?_
          rintro e w' ⟨rfl, rfl⟩
          rw [HT.out]
          go_wp2
          go_loopw [9] (fun i wr => ∃ q : Nat, p' ≤ q ∧ q ≤ s.np ∧ i = .int .i64 q ∧ Hid (New w wr) ∧ Hid (∀ j : Nat, p' ≤ j → j < q → blank (pgL s b' j) = true)) (fun i _ => s.np - (intOf i).toNat)
          case atStart => exact ⟨p', Nat.le_refl _, by omega, rfl, Kept.refl _ _, fun j h1 h2 => absurd h2 (by omega)⟩
          case round =>
            obtain ⟨q, hq1, hq2, rfl, VN, VB⟩ := hrel
            have R1 := Lib.hid (H.out.new VN.out)
            have f1 := R1.out.c1
            have f2 := R1.out.c2
            have fl := R1.out.chip.lt
            by_cases hlt2 : q < s.np
            · by_cases hbl : blank (pgL s b' q) = true
              · have HBl := Lib.hid hbl
                have HPq := Lib.hid (HPL.out q hlt2)
                clear hbl
                go_wp2_with fail
                refine (rPage_any _ _ _ _ _ _ _ _ _ _ _ _ R1.out HB.out hlt2).mono ?_
                rintro e w2 ⟨A2, cA, rfl, ho, hk⟩
                have O2 := Lib.hid ho.bts
                have K2 := Lib.hid (VN.out.new hk)
                clear ho hk
                go_wp2_with fail
                refine (rBlank_any _ _ _ _ _ O2.out (by have := HPq.out; omega)).mono ?_
                rintro e w' ⟨rfl, rfl⟩
                rw [HBl.out]
                go_wp2
                go_roundw
                case rel =>
                  refine ⟨q + 1, by omega, by omega, by go_num, K2, fun j h1 h2 => ?_⟩
                  rcases Nat.lt_or_ge j q with h3 | h3
                  · exact VB.out j h1 h3
                  · obtain rfl : j = q := by omega
                    exact HBl.out
                case measure => simp [intOf]; omega
              · have HBl : Hid (blank (pgL s b' q) = false) := by simpa [Hid] using hbl
                have HPq := Lib.hid (HPL.out q hlt2)
                have HNo : Hid (blank (tailL s b' p') = false) := by
                  show _ = _
                  rw [Bool.eq_false_iff]
                  intro hall
                  exact hbl ((HTP.out).1 hall q hq1 hlt2)
                clear hbl
                have HE1 : Hid (progE s b' p' gl = 8 ∧ progS s b' p' gl = s) := by
                  have := HE0.out
                  rw [HNo.out] at this
                  simp only [Bool.false_eq_true, if_false] at this
                  unfold progE progS
                  rw [this]
                  exact ⟨rfl, rfl⟩
                rw [HE1.out.1, HE1.out.2]
                go_wp2_with fail
                refine (rPage_any _ _ _ _ _ _ _ _ _ _ _ _ R1.out HB.out hlt2).mono ?_
                rintro e w2 ⟨A2, cA, rfl, ho, hk⟩
                have O2 := Lib.hid ho.bts
                have K2 := Lib.hid (VN.out.new hk)
                clear ho hk
                go_wp2_with fail
                refine (rBlank_any _ _ _ _ _ O2.out (by have := HPq.out; omega)).mono ?_
                rintro e w' ⟨rfl, rfl⟩
                rw [HBl.out]
                go_wp2
                go_ret
                exact HS.out _ K2.out 8
            · obtain rfl : q = s.np := by omega
              have HE1 : Hid (progE s b' p' gl = deedE s ∧ progS s b' p' gl = deedS s b' ((b' * s.np + p') * s.nz) gl) := by
                have h0 := HE0.out
                rw [(HTP.out).2 VB.out, if_pos rfl] at h0
                have eo : offP s b' p' = (b' * s.np + p') * s.nz := by unfold offP; simp
                show progE s b' p' gl = deedE s ∧ progS s b' p' gl = deedS s b' ((b' * s.np + p') * s.nz) gl
                unfold progE progS
                rw [h0, if_pos rfl, if_pos rfl, eo]
                exact ⟨rfl, rfl⟩
              have HG3 : Hid (Bts wr G s.nz gl) := HG.out.new VN.out
              generalize hE : deedE s = E
              have HE := Lib.hid hE
              generalize hS : deedS s b' ((b' * s.np + p') * s.nz) gl = S2
              have HS2 := Lib.hid hS
              clear hE hS
              go_wp2_with fail
              refine (rAt_any _ _ _ _ _ _ _ _ _ _ _ _ R1.out HB.out HP.out).mono ?_
              rintro e w' ⟨q2, rfl, rfl⟩
              go_wp2_with fail
              refine (rDone_any Q g gc gb cc cb Ah ch s b' ((b' * s.np + p') * s.nz) s.nz G _ gl _ (R1.out.drewN q2) HD.out (HG3.out.drewN q2) HG1.out HFI.out (by omega) HB.out HDD.out).mono ?_
              rw [HE.out, HS2.out]
              rintro e w4 ⟨rfl, hc, hk⟩
              have HC := Lib.hid hc
              have HK : Hid (Kept Q w w4) := (VN.out.mono (S' := Q) fun _ _ f => f.elim).trans (Kept.of_drewN hk) fun _ _ x => x
              clear hc hk
              go_wp2
              go_ret
              exact RDeedP.of (HE1.out.1.trans HE.out) (HE1.out.2.trans HS2.out) HC.out HK.out
      · have e0 : progR s b' p' gl.length = 2 := by unfold progR; rw [hr, hlen]; simp [hn]
        have e1 : progE s b' p' gl = 2 := by unfold progE; rw [e0]; rfl
        have e2 : progS s b' p' gl = s := by unfold progS; rw [e0]; rfl
        rw [e1, e2]
        have hn1 : ((n : Int) == (s.nz : Int)) = false := beq_eq_false_iff_ne.2 (by omega)
        have hn2 : (n == s.nz) = false := beq_eq_false_iff_ne.2 hn
        clear h hr hdd hdd' ht ht' hb hp hd hg hg1 hlen e0 e1 e2 hstay
        go_enter Try.func28, Try.ntmps28
        go_wp2_with fail
        refine (rThere_any _ _ _ _ _ _ _ _ _ _ _ _ H.out).mono ?_
        rintro e w' ⟨rfl, rfl⟩
        rw [HT.out]
        go_wp2
        go_ret
        exact HS.out _ (Kept.refl _ _) 2
    · have e : refE s b p = 2 := by unfold refE; rw [if_neg hdd, if_neg ht]
      have e0 : progR s b p gl.length = 2 := by unfold progR; rw [e, if_pos (by decide)]
      have e1 : progE s b p gl = 2 := by unfold progE; rw [e0, if_neg (by decide)]
      have e2 : progS s b p gl = s := by unfold progS; rw [e0, if_neg (by decide)]
      rw [e1, e2]
      have HT := Lib.hid (decide_eq_false ht)
      clear h hstay hlen hdd hdd' ht e e0 e1 e2 hg hg1 hd
      go_enter Try.func28, Try.ntmps28
      go_wp2_with fail
      refine (rThere_any _ _ _ _ _ _ _ _ _ _ _ _ H.out).mono ?_
      rintro e w' ⟨rfl, rfl⟩
      rw [HT.out]
      go_wp2
      go_ret
      exact HS.out _ (Kept.refl _ _) 2
end Go.Proofs.Ytfhngcnphcjmgaa
