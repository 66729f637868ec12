/-
  PoolUses: behind whatever acts and hits, all blocks that are not bad and not taken can be taken, one behind the other, each once, then none: for every number of pages, every list of hits and of acts (the first 40).
-/
import Derived.Test.YtgfdiboaiifdnaaIb
namespace Go.Proofs.Ytgfdiboaiifdnaa.poolUses
open Go.ChangeShapes Go.WideShapes Go.ChangeAt Go.RowKit

theorem own : ownKnob Try.prog.godebug = none := by kernel_rfl
theorem laidOut : laidOutB Try.prog = true := by kernel_rfl

theorem frN_all {s : CSt} {p : PSt} : ∀ k, frN s p k = 0 → ∀ j, j < k → frV s p j = false := by
  intro k
  induction k with
  | zero => intro _ j hj; omega
  | succ k ih =>
    intro h j hj
    simp only [frN] at h
    by_cases hjk : j = k
    · subst hjk
      cases hf : frV s p j with
      | false => rfl
      | true => rw [if_pos hf] at h; omega
    · exact ih (by omega) j (by omega)

/-- A pool on which n blocks can be taken, and which of them were. -/
structure UseI (s : CSt) (p : PSt) (n i : Nat) (bs : List Bool) : Prop where
  good : Good s p
  calm : Calm s
  nb : s.nb = 8
  dd : s.deeds ≤ 16 * i
  l2 : p.last ≤ 320 + 8 * i
  fr : frN s p s.nb + i = n
  len : bs.length = 64
  bits : ∀ j : Nat, j < 8 → bs[j]? = some true → frV s p j = false

theorem UseI.take {s : CSt} {p : PSt} {n i : Nat} {bs : List Bool} (h : UseI s p n i bs) (ok : s.Ok) (hlen : p.bl.length = s.nb) (hnx : p.next < s.nb) (hi : i < n) (hn : n ≤ 8) :
    ∃ j : Nat, j < 8 ∧ (takeR 1 1 s p).e = 0 ∧ (takeR 1 1 s p).b = j ∧ bs[j]? = some false ∧ badE (takeR 1 1 s p).s j = false ∧ UseI (takeR 1 1 s p).s (takeR 1 1 s p).p n (i + 1) (bs.set j true) := by
  have hnb := h.nb
  have hdd := h.dd
  have hl2 := h.l2
  have hv : (1 ≤ 1 ∧ 1 ≤ 3) ∧ 1 ≤ 1 := ⟨⟨Nat.le_refl _, by omega⟩, Nat.le_refl _⟩
  have HTC := take_calm (k := 1) (e := 1) ok h.good h.calm.nofail hlen hnx (by omega) (by omega) (by omega) hv
  have HTA := (take_all (k := 1) (e := 1) ok h.good hlen hnx (by omega) (by omega) (by omega) hv).1
  have HCR := takeR_calm h.calm p 1 1
  have hfr := h.fr
  generalize takeR 1 1 s p = R at *
  rcases HTC with ⟨_, _, _, hf⟩ | ⟨j, hj, hfj, hK, ⟨e0, hb⟩ | e0⟩
  · omega
  · rcases HTA.out with ⟨_, hgR, hlt3, b', hb', hbn, hbad, hlk, hw⟩ | ⟨e1, _⟩ | ⟨e1, _⟩
    · obtain rfl : j = b' := by rw [hb] at hb'; exact Int.ofNat.inj hb'
      have hfj2 : frV R.s R.p j = false := by
        rw [frV_of hgR.ag (by rw [hK.nb]; exact hj), hlk]
        simp
      have hless := frN_less hK ok HTA.ok h.good.live hgR.live h.good hgR hfj hfj2 s.nb (Nat.le_refl _)
      rw [if_pos hj] at hless
      have hbj : bs[j]? = some false := by
        have h1 := List.getElem?_eq_getElem (l := bs) (i := j) (by have := h.len; omega)
        cases hx : bs[j]'(by have := h.len; omega) with
        | false => rw [h1, hx]
        | true =>
          have := h.bits j (by omega) (by rw [h1, hx])
          rw [hfj] at this
          cases this
      refine ⟨j, by omega, e0, hb, hbj, by rw [badE_in (by rw [hK.nb]; exact hj)]; exact hbad, ⟨hgR, HCR, HTA.nb.trans hnb, by have := HTA.dd; omega, by have := HTA.l2; omega, ?_, by rw [List.length_set]; exact h.len, fun m hm hx => ?_⟩⟩
      · rw [HTA.nb]; omega
      · by_cases hmj : m = j
        · rw [hmj]; exact hfj2
        · rw [List.getElem?_set, if_neg (Ne.symm hmj)] at hx
          rw [hK.fr ok HTA.ok h.good.live hgR.live h.good hgR (by omega) hmj]
          exact h.bits m hm hx
    · rw [e1] at e0; cases e0
    · rw [e1] at e0; cases e0
  · rcases HTA.out with ⟨e1, _⟩ | ⟨e1, _⟩ | ⟨_, hd⟩
    · rw [e1] at e0; cases e0
    · rw [e1] at e0; cases e0
    · rw [HCR.2] at hd; cases hd

theorem UseI.none {s : CSt} {p : PSt} {n : Nat} {bs : List Bool} (h : UseI s p n n bs) (ok : s.Ok) (hlen : p.bl.length = s.nb) (hnx : p.next < s.nb) (hn : n ≤ 8) :
    (takeR 1 1 s p).e = 11 ∧ (takeR 1 1 s p).s = s ∧ (takeR 1 1 s p).p = p ∧ frN s p s.nb = 0 := by
  have hnb := h.nb
  have hdd := h.dd
  have hl2 := h.l2
  have hv : (1 ≤ 1 ∧ 1 ≤ 3) ∧ 1 ≤ 1 := ⟨⟨Nat.le_refl _, by omega⟩, Nat.le_refl _⟩
  have hfr := h.fr
  rcases take_calm (k := 1) (e := 1) ok h.good h.calm.nofail hlen hnx (by omega) (by omega) (by omega) hv with h1 | ⟨j, hj, hfj, _⟩
  · exact h1
  · rw [frN_all s.nb (by omega) j hj] at hfj
    cases hfj

set_option maxRecDepth 100000 in
set_option maxHeartbeats 3200000 in
theorem walk (pages : Nat) (Ah : Option Addr) (nh ch : Nat) (hs : List HitI) (A : Option Addr) (n c : Nat) (al : List Act4) (w : World) (hpg : pages < 256) (hH : HitsA w Ah nh hs) (hHn : Ah = none → ch = 0 ∧ nh = 0) (hHb : nh * 40 ≤ 140737488351232)
    (hA : Acts4 w A n al) (hn : n ≤ c ∧ c ≤ maxLen) :
    Calls Try.prog 6 #[.int .u8 (pages : Nat), .slice Ah nh ch, .slice A n c] w (True1 w) := by
  have HW := Lib.hid (played_any pages Ah nh ch hs A n c al w hpg hH hHn hHb hA hn)
  clear hpg hH hHn hHb hA hn
  go_enter Try.func6, Try.ntmps6
  go_wp2_with fail
  refine HW.out.mono ?_
  rintro e w1 ⟨g, gp, rfl, Q, gb, s, p, h1, h2, h3, h4⟩
  have C1 := Lib.hid h1.chip
  have N1 := Lib.hid h3
  have S1 := Lib.hid h4
  clear h1 h2 h3 h4 HW
  go_wp2_with fail
  refine (nPower_any _ _ _ _ C1.out).mono ?_
  rintro e2 w2 ⟨g2, Q2, rfl, h1, hq, k2⟩
  have C2 := Lib.hid h1
  have N2 := Lib.hid (N1.out.new k2)
  have HQ2 : Hid (∀ b, Q2 b → w1.heap.size ≤ b) := hq
  have HSZ : Hid (w.heap.size ≤ w1.heap.size ∧ w1.heap.size ≤ w2.heap.size) := ⟨N1.out.size, k2.size⟩
  have HNB : Hid ((powS s).nb ≤ 19) := by have := S1.out.nb; show s.nb ≤ _; omega
  have HCM : Hid (Calm (powS s)) := ⟨rfl, rfl⟩
  have HDD : Hid ((powS s).deeds = 0) := rfl
  have HSG := Lib.hid (S1.out.scan C2.out.ok)
  have HN8 : Hid ((powS s).nb = 8) := S1.out.nb
  clear h1 hq k2 C1 N1 S1
  generalize powS s = S at *
  go_wp2_with fail
  refine (pScan_ok Q2 g2 S _ C2.out HCM.out.2 HNB.out).mono ?_
  rintro e3 w3 ⟨gp3, gb3, rfl, h1, h2, h3, h4⟩
  have P3 := Lib.hid h1
  have N3 := Lib.hid (N2.out.new h4)
  have HQP : Hid (∀ b, PoolQ Q2 gp3 gb3 b → w.heap.size ≤ b) := by
    obtain ⟨q1, q2⟩ := HSZ.out
    rintro b (hb | rfl | rfl)
    · have := HQ2.out b hb; omega
    · omega
    · omega
  have HG := Lib.hid HSG.out.2
  have HL2 := Lib.hid HSG.out.1.l2
  clear h1 h2 h3 h4 N2 HQ2 HSZ C2 HSG
  generalize scanS S = P at *
  go_wp2_with fail
  refine (pBlanks_any _ _ _ _ _ _ _ P3.out).mono ?_
  rintro e4 w' ⟨rfl, rfl⟩
  obtain ⟨N, hN⟩ : ∃ N, N = frN S P S.nb := ⟨_, rfl⟩
  have hN8 : N ≤ 8 := by rw [hN]; have h1 := frN_le S P S.nb; have h2 := HN8.out; omega
  have U0 : Hid (UseI S P N 0 (List.replicate 64 false)) := ⟨HG.out, HCM.out, HN8.out, by rw [HDD.out]; omega, by have := HL2.out; omega, by rw [hN]; omega, by simp, fun j hj hx => by rw [List.getElem?_replicate, if_pos (by omega)] at hx; cases hx⟩
  rw [← hN]
  clear hN HG HCM HN8 HDD HL2 HNB
  go_wp2_with fail
  obtain ⟨w4, hw4⟩ : ∃ w4, w4 = w3.alloc (.cells #[.bool false, .bool false, .bool false, .bool false, .bool false, .bool false, .bool false, .bool false, .bool false, .bool false, .bool false, .bool false, .bool false, .bool false, .bool false, .bool false, .bool false, .bool false, .bool false, .bool false, .bool false, .bool false, .bool false, .bool false, .bool false, .bool false, .bool false, .bool false, .bool false, .bool false, .bool false, .bool false, .bool false, .bool false, .bool false, .bool false, .bool false, .bool false, .bool false, .bool false, .bool false, .bool false, .bool false, .bool false, .bool false, .bool false, .bool false, .bool false, .bool false, .bool false, .bool false, .bool false, .bool false, .bool false, .bool false, .bool false, .bool false, .bool false, .bool false, .bool false, .bool false, .bool false, .bool false, .bool false] 54) := ⟨_, rfl⟩
  have B4 : Hid (Blk w4 w3.heap.size 54 ((List.replicate 64 false).map boolV)) := by rw [hw4]; exact Blk.made w3 _ _
  have N4 : Hid (New w w4) := by rw [hw4]; exact N3.out.alloc _
  have P4 : Hid (PRep Q2 w4 gp3 gb3 g2 S P) := by rw [hw4]; exact P3.out.new ((Kept.refl _ _).alloc _)
  have HGA : Hid (¬ PoolQ Q2 gp3 gb3 w3.heap.size ∧ w.heap.size ≤ w3.heap.size) := ⟨fun hq => by have := P3.out.lowq _ hq; omega, N3.out.size⟩
  have HW4 := Lib.hid hw4
  clear hw4
  rw [← HW4.out]
  clear HW4 P3 N3
  generalize w3.heap.size = ga at *
  go_loopw [16] (fun ti wr => ∃ (i : Nat) (s : CSt) (p : PSt) (bs : List Bool), i ≤ N ∧ ti = .int .i64 i ∧ Hid (UseI s p N i bs) ∧ Hid (PRep Q2 wr gp3 gb3 g2 s p) ∧ Hid (New w wr) ∧ Hid (Blk wr ga 54 (bs.map boolV))) (fun i _ => N - (intOf i).toNat)
  case atStart => exact ⟨0, S, P, _, Nat.zero_le _, rfl, U0, P4, N4, B4⟩
  case round =>
    clear U0 P4 N4 B4
    obtain ⟨i, s, p, bs, hi, rfl, U, VP, VN, VB⟩ := hrel
    by_cases hlt : i < N
    · obtain ⟨j, hj, e0, eb, hbj, hbad, hU⟩ := U.out.take VP.out.chip.ok VP.out.len VP.out.next hlt hN8
      have HU := Lib.hid hU
      have HBJ := Lib.hid hbj
      have HBD := Lib.hid hbad
      have HDD : Hid (s.deeds < 2305843009213693952) := by have := U.out.dd; show _ < _; omega
      clear hU hbj hbad
      go_wp2_with fail
      refine (pTake_any _ _ _ _ _ _ 1 1 _ VP.out HDD.out (by decide) (by decide)).mono ?_
      rintro e5 w5 ⟨rfl, h1, h2⟩
      rw [e0, eb]
      have P5 := Lib.hid h1
      have N5 : Hid (New w w5) := new_of_kept VN.out h2 HQP.out
      have B5 := Lib.hid (VB.out.kept h2 HGA.out.1)
      clear h1 h2 e0 eb VP VN VB U
      generalize takeR 1 1 s p = R at *
      have HJ : Hid (bs[j]? = some false) := HBJ
      have c0 : w5.cell? ⟨ga, j, none⟩ = some (.bool false) := by rw [B5.out.cell, List.getElem?_map, HJ.out]; rfl
      have f0 := B5.out.free j
      have hga := B5.out.lt
      have j1 : decide ((j : Int) < 0) = false := decide_eq_false (by omega)
      have j2 : decide ((8 : Int) ≤ (j : Int)) = false := decide_eq_false (by omega)
      have j3 : (j : Int) < 64 := by omega
      have j4 : j < 64 := by omega
      have j5 : (0 : Int) ≤ (j : Int) := by omega
      go_wp2_with fail
      refine (nBad_any _ _ _ j _ P5.out.chip).mono ?_
      rintro e6 w' ⟨rfl, rfl⟩
      rw [HBD.out]
      have N6 : Hid (New w (w5.setCell ⟨ga, j, none⟩ (.bool true))) := N5.out.trans (Kept.set1 _ _ _ _) fun b hb h => by have := HGA.out.2; omega
      have P6 : Hid (PRep Q2 (w5.setCell ⟨ga, j, none⟩ (.bool true)) gp3 gb3 g2 R.s R.p) := P5.out.kept (Kept.set1 _ _ _ _) fun b hb => by
        subst hb
        exact ⟨fun q => HGA.out.1 (.inl q), fun q => HGA.out.1 (.inr (.inl q)), fun q => HGA.out.1 (.inr (.inr q))⟩
      have B6 : Hid (Blk (w5.setCell ⟨ga, j, none⟩ (.bool true)) ga 54 ((bs.set j true).map boolV)) := by
        rw [List.map_set]
        exact B5.out.put j _
      clear N5 P5 B5
      go_wp2
      go_roundw
      case rel => exact ⟨i + 1, R.s, R.p, bs.set j true, by omega, by go_num, HU, P6, N6, B6⟩
      case measure => simp [intOf]; omega
    · obtain rfl : i = N := by omega
      obtain ⟨e0, es, ep, hf⟩ := U.out.none VP.out.chip.ok VP.out.len VP.out.next hN8
      have HDD : Hid (s.deeds < 2305843009213693952) := by have := U.out.dd; show _ < _; omega
      have HF := Lib.hid hf
      clear hf U VB
      go_wp2_with fail
      refine (pTake_any _ _ _ _ _ _ 1 1 _ VP.out HDD.out (by decide) (by decide)).mono ?_
      rintro e5 w5 ⟨rfl, h1, h2⟩
      rw [es, ep] at h1
      rw [e0]
      have P5 := Lib.hid h1
      have N5 : Hid (New w w5) := new_of_kept VN.out h2 HQP.out
      clear h1 h2 e0 es ep VP VN
      go_wp2_with fail
      refine (pBlanks_any _ _ _ _ _ _ _ P5.out).mono ?_
      rintro e7 w' ⟨rfl, rfl⟩
      rw [HF.out]
      go_wp2_with fail
      refine (pWorks_any _).mono ?_
      rintro e8 w8 ⟨rfl, k8⟩
      have N8 := Lib.hid (N5.out.new k8)
      clear k8 N5 P5
      go_wp2
      go_ret
      exact ⟨rfl, N8.out⟩

set_option maxRecDepth 100000 in
theorem lifted (os : Os) (started : os.Started) (H : Type) (enc : TypeId × Value → H) :
    ReturnsInHanded {} Try.checked os 6 .any (Rows.poolUsesSpec.pre6 enc Try.prog Try.f6 Rows.poolUsesRow.domain false) (Rows.poolUsesSpec.post enc Try.prog Try.f6 false true false false) := by
  refine lift_new (C := Try.checked) (s := Rows.poolUsesSpec) (tb := 4) own started (by kernel_rfl) Try.func6
    (ChangeSpec.witness6 (enc := enc) (C := Try.checked) false ⟨#[], #[.int .u8 0, .slice none 0 0, .slice none 0 0], []⟩ 8 (by kernel_rfl) (by kernel_rfl) (by kernel_rfl) (by kernel_rfl))
    rfl (by kernel_rfl) Try.underlying4 ?_ laidOut (of_decide_eq_true (by kernel_rfl)) ?_
  · intro ds hd
    match ds, hd with
    | [d0, d1, d2], _ => exact ⟨rfl, rfl, rfl⟩
  · intro W base args ds hA
    have hA : Args enc Try.prog W base Try.f6.params.toList args.toList ds := hA
    rw [Try.params6] at hA
    obtain ⟨v0, vs0, d0, ds0, p0, hargs, rfl, a0, hA⟩ := hA.cons_
    obtain ⟨v1, vs1, d1, ds1, p1, rfl, rfl, a1, hA⟩ := hA.cons_
    obtain ⟨v2, vs2, d2, ds2, p2, rfl, rfl, a2, hA⟩ := hA.cons_
    obtain ⟨rfl, rfl⟩ := hA.nil_
    obtain rfl : args = #[v0, v1, v2] := by cases args; simp_all
    obtain ⟨y0, rfl, w0⟩ := a0.int_ Try.underlying5
    obtain ⟨x0, rfl, h0⟩ := u8_nat w0
    obtain ⟨A1, n1, c1, l1, rfl, b1, k1, m1, _, _⟩ := a1.hits_
    obtain ⟨A2, n2, c2, l2, rfl, b2, k2, m2⟩ := a2.acts4_
    exact walk x0 A1 n1 c1 l1 A2 n2 c2 l2 W h0 b1 k1 m1 b2 ⟨k2, m2⟩

theorem over : Rows.poolUsesRow.holds Try.pinned (OpenSpec.ofChange Rows.poolUsesSpec) :=
  OpenClaim.holds_of_wide 6 Try.f6 rfl rfl rfl rfl rfl rfl rfl ⟨rfl, rfl, rfl, rfl, rfl⟩ rfl rfl rfl rfl rfl (by kernel_rfl) Try.func6 (by kernel_rfl)
    (of_decide_eq_true (by kernel_rfl)) (by unfold Func.isWrapper; first | (rw [if_pos (by decide +kernel)]; kernel_rfl) | (rw [if_neg (by decide +kernel)]; exact ⟨rfl, rfl⟩))
    (fun os started H enc _ => lifted os started H enc)

theorem proved : Rows.PoolUsesSaid := over
end Go.Proofs.Ytgfdiboaiifdnaa.poolUses
