/-
  PoolRises: behind whatever acts and hits, of all heads on the chip no two have one Seq, and what is taken next has a greater one: for every number of pages, every list of hits and of acts (the first 40), every kind.
-/
import Derived.Test.YtgfdiboaiifdnaaIb
import Derived.Lib.QuietBelow
namespace Go.Proofs.Ytgfdiboaiifdnaa.poolRises
open Go.ChangeShapes Go.WideShapes Go.ChangeAt Go.RowKit

theorem own : ownKnob Try.prog.godebug = none := by kernel_rfl
theorem laidOut : laidOutB Try.prog = true := by kernel_rfl

theorem tkC_le (s : CSt) : ∀ k, (tkC s k).length ≤ k := by
  intro k
  induction k with
  | zero => exact Nat.le_refl _
  | succ k ih =>
    simp only [tkC, List.length_append]
    have : (if (lookV s k).w = 1 then [tkOf s k] else []).length ≤ 1 := by split <;> simp
    omega

set_option maxRecDepth 100000 in
set_option maxHeartbeats 3200000 in
theorem walk (pages : Nat) (Ah : Option Addr) (nh ch : Nat) (hs : List HitI) (A : Option Addr) (n c : Nat) (al : List Act4) (kind : Nat) (w : World) (hpg : pages < 256) (hH : HitsA w Ah nh hs) (hHn : Ah = none → ch = 0 ∧ nh = 0) (hHb : nh * 40 ≤ 140737488351232)
    (hA : Acts4 w A n al) (hn : n ≤ c ∧ c ≤ maxLen) (hkd : kind < 256) :
    Calls Try.prog 4 #[.int .u8 (pages : Nat), .slice Ah nh ch, .slice A n c, .int .u8 (kind : Nat)] w (True1 w) := by
  have HW := Lib.hid (played_any pages Ah nh ch hs A n c al w hpg hH hHn hHb hA hn)
  obtain ⟨r, hr⟩ : ∃ r, r = kind % 3 := ⟨_, rfl⟩
  obtain ⟨kk, hkk⟩ : ∃ kk, kk = 1 + r := ⟨_, rfl⟩
  have m1 : Int.tmod (kind : Int) 3 = (r : Int) := by rw [hr, Int.tmod_eq_emod_of_nonneg (by omega), Int.natCast_emod]; rfl
  have m2 : (kind : Int) % 3 = (r : Int) := by rw [hr, Int.natCast_emod]; rfl
  have hr3 : r < 3 := by omega
  have HKK : Hid ((1 : Int) + (r : Int) = (kk : Int)) := by show _ = _; omega
  have HKV : Hid ((1 ≤ kk ∧ kk ≤ 3) ∧ 1 ≤ 7) := ⟨by omega, by omega⟩
  clear hpg hH hHn hHb hA hn hr hkk
  go_enter Try.func4, Try.ntmps4
  go_wp2_with fail
  refine HW.out.mono ?_
  rintro e w1 ⟨g, gp, rfl, Q, gb, s, p, h1, h2, h3, h4⟩
  have C1 := Lib.hid h1.chip
  have N1 := Lib.hid h3
  have S1 := Lib.hid h4
  clear h1 h2 h3 h4 HW
  go_wp2_with fail
  refine (nPower_any _ _ _ _ C1.out).mono ?_
  rintro e2 w2 ⟨g2, Q2, rfl, h1, hq, k2⟩
  have C2 := Lib.hid h1
  have N2 := Lib.hid (N1.out.new k2)
  have HQ2 : Hid (∀ b, Q2 b → w1.heap.size ≤ b) := hq
  have HSZ : Hid (w.heap.size ≤ w1.heap.size ∧ w1.heap.size ≤ w2.heap.size) := ⟨N1.out.size, k2.size⟩
  have HNB : Hid ((powS s).nb ≤ 19) := by have := S1.out.nb; show s.nb ≤ _; omega
  have HCM : Hid (Calm (powS s)) := ⟨rfl, rfl⟩
  have HDD : Hid ((powS s).deeds = 0) := rfl
  have HSG := Lib.hid (S1.out.scan C2.out.ok)
  have HN8 : Hid ((powS s).nb = 8) := S1.out.nb
  clear h1 hq k2 C1 N1 S1
  generalize powS s = S at *
  go_wp2_with fail
  refine (pScan_ok Q2 g2 S _ C2.out HCM.out.2 HNB.out).mono ?_
  rintro e3 w3 ⟨gp3, gb3, rfl, h1, h2, h3, h4⟩
  have P3 := Lib.hid h1
  have N3 := Lib.hid (N2.out.new h4)
  have HQP : Hid (∀ b, PoolQ Q2 gp3 gb3 b → w.heap.size ≤ b) := by
    obtain ⟨q1, q2⟩ := HSZ.out
    rintro b (hb | rfl | rfl)
    · have := HQ2.out b hb; omega
    · omega
    · omega
  have HG := Lib.hid HSG.out.2
  have HL2 := Lib.hid HSG.out.1.l2
  clear h1 h2 h3 h4 N2 HQ2 HSZ C2 HSG
  generalize scanS S = P at *
  go_wp2_with fail
  refine (pTaken_any _ _ _ _ _ _ _ P3.out HNB.out).mono ?_
  rintro e4 w4 ⟨At, ct, rfl, h1, h2⟩
  rw [tkn_ref P3.out.chip.ok HG.out] at h1 ⊢
  have V4 := Lib.hid h1.row
  have P4 := Lib.hid (P3.out.new h2)
  have N4 := Lib.hid (N3.out.new h2)
  have hcap : (refL S S.nb).length ≤ maxLen := Nat.le_trans h1.2.1 h1.2.2.1
  unfold maxLen at hcap
  have HLT : Hid (∀ i, i + 1 < (refL S S.nb).length → seqAt (refL S S.nb) i < seqAt (refL S S.nb) (i + 1)) := fun i hi => seqAt_lt P3.out.chip.ok HG.out.live HG.out.inv hi
  clear h1 h2 P3 N3
  have hl19 : (refL S S.nb).length ≤ 19 := by rw [refL_len]; exact Nat.le_trans (tkC_le _ _) HNB.out
  generalize hl : refL S S.nb = l at *
  have HLL := Lib.hid hl
  clear hl
  go_wp2_with fail
  go_loopw [17] (fun ti wr => ∃ m q : Nat, 1 ≤ m ∧ (m = 1 ∨ m ≤ l.length) ∧ ti = .int .i64 m ∧ wr = w4.drewN q) (fun i _ => l.length + 1 - (intOf i).toNat)
  case atStart => exact ⟨1, 0, Nat.le_refl _, .inl rfl, rfl, rfl⟩
  case round =>
    obtain ⟨m, q, hm1, hm2, rfl, rfl⟩ := hrel
    by_cases hlt : m < l.length
    · obtain ⟨a, rfl⟩ : ∃ a, m = a + 1 := ⟨m - 1, by omega⟩
      have ha := List.getElem?_eq_getElem (l := l) (i := a) (by omega)
      have hb := List.getElem?_eq_getElem hlt
      obtain ⟨gA, oA, rfl, hcell⟩ := V4.out.2 (by omega)
      have ca := hcell (a * 5 + 3) _ (tRow_get [] l 3 _ a _ ha (by omega) rfl)
      have cb := hcell ((a + 1) * 5 + 3) _ (tRow_get [] l 3 _ (a + 1) _ hb (by omega) rfl)
      have hs1 := HLT.out a hlt
      rw [seqAt_get ha, seqAt_get hb] at hs1
      rw [← Nat.add_assoc] at ca cb
      obtain ⟨x, hx⟩ : ∃ x, x = l[a].s := ⟨_, rfl⟩
      obtain ⟨y, hy⟩ : ∃ y, y = l[a + 1].s := ⟨_, rfl⟩
      rw [← hx] at ca hs1
      rw [← hy] at cb hs1
      clear hx hy ha hb hcell hm2 hm1
      obtain ⟨m, hm⟩ : ∃ m, m = a + 1 := ⟨_, rfl⟩
      rw [← hm] at cb hlt ⊢
      have q0 : IntKind.i64.wrap ((m : Int) - 1) = (a : Int) := by rw [IntKind.wrap_i64]; omega
      have q0' : (m : Int) - 1 = (a : Int) := by omega
      have q1 : (a : Int) < (l.length : Int) := by omega
      have q2 : (m : Int) < (l.length : Int) := by omega
      have q3 : a < l.length := by omega
      have q4 : decide ((y : Int) ≤ (x : Int)) = false := decide_eq_false (by omega)
      have q5 : decide (y ≤ x) = false := decide_eq_false (by omega)
      have hm1 : 1 ≤ m := by omega
      clear hm
      go_wp2
      go_quiet (fail)
      go_wp2
      go_roundw
      case rel => exact ⟨m + 1, _, by omega, .inr (by omega), by go_num, by first | rfl | exact World.drewN_drewN _ _ _⟩
      case measure => simp [intOf]; omega
    · have P5 : Hid (PRep Q2 (w4.drewN q) gp3 gb3 g2 S P) := P4.out.new ((Kept.refl _ _).drewN q)
      have N5 : Hid (New w (w4.drewN q)) := N4.out.drewN q
      have V5 : Hid (RowV (w4.drewN q) At l.length 5 (tRow l [])) := V4.out.drewN q
      have hlt2 : ¬ (m : Int) < (l.length : Int) := by omega
      clear P4 N4 V4 HLT
      generalize w4.drewN q = w5 at *
      go_wp2_with fail
      rw [show (1 : Int) + (r : Int) = (kk : Int) from HKK.out]
      refine (pTake_any _ _ _ _ _ _ kk 7 _ P5.out (by have := HDD.out; omega) (by have := HKV.out; omega) (by omega)).mono ?_
      rintro e6 w6 ⟨rfl, h1, h2⟩
      have P6 := Lib.hid h1
      have N6 : Hid (New w w6) := new_of_kept N5.out h2 HQP.out
      clear h1 h2
      have HTC := take_calm (k := kk) (e := 7) P5.out.chip.ok HG.out HCM.out.nofail P5.out.len P5.out.next (by have := HDD.out; have := HN8.out; omega) (by have := HL2.out; have := HN8.out; omega) (by omega) HKV.out
      have HTA := (take_all (k := kk) (e := 7) P5.out.chip.ok HG.out P5.out.len P5.out.next (by have := HDD.out; have := HN8.out; omega) (by have := HL2.out; have := HN8.out; omega) (by omega) HKV.out).1
      have HCR := takeR_calm HCM.out P kk 7
      generalize takeR kk 7 S P = R at *
      rcases HTC with ⟨e0, es, ep, hf⟩ | ⟨j, hj, hfj, hK, ⟨e0, hb⟩ | e0⟩
      · have HF := Lib.hid hf
        rw [e0]
        rw [es, ep] at P6
        clear e0 es ep hf HTA HCR P5 V5
        go_wp2_with fail
        refine (pBlanks_any _ _ _ _ _ _ _ P6.out).mono ?_
        rintro e7 w' ⟨rfl, rfl⟩
        rw [HF.out]
        go_wp2_with fail
        refine (pWorks_any _).mono ?_
        rintro e8 w8 ⟨rfl, k8⟩
        have N8 := Lib.hid (N6.out.new k8)
        clear k8 N6 P6
        go_wp2
        go_ret
        exact ⟨rfl, N8.out⟩
      · rcases HTA.out with ⟨_, hgR, hlt3, b', hb', hbn, hbad, hlk, hw⟩ | ⟨e1, _⟩ | ⟨e1, _⟩
        · obtain rfl : j = b' := by rw [hb] at hb'; exact Int.ofNat.inj hb'
          have HM : Hid (refL R.s R.s.nb = l ++ [⟨j, kk, 7, R.p.last, badAt R.s j⟩]) := by
            show _ = _
            rw [refL_more hK P5.out.chip.ok HTA.ok HG.out hgR hj (frV_no HG.out hj hfj).1 hlk hlt3, HLL.out]
            unfold tkOf
            rw [hlk]
          have HNR : Hid (R.s.nb ≤ 19) := by rw [Hid, hK.nb]; exact HNB.out
          have HGR := Lib.hid hgR
          rw [e0, hb]
          clear e0 hb hb' hbn hbad hlk hw hgR hlt3 HTA HCR hK hfj hj P5 V5
          go_wp2_with fail
          refine (pTaken_any _ _ _ _ _ _ _ P6.out HNR.out).mono ?_
          rintro e7 w7 ⟨A7, c7, rfl, h1, h2⟩
          rw [tkn_ref P6.out.chip.ok HGR.out, HM.out] at h1 ⊢
          have P7 := Lib.hid (P6.out.new h2)
          have N7 := Lib.hid (N6.out.new h2)
          have V7 := Lib.hid h1.row
          clear h1 h2 P6 N6
          obtain ⟨mm, hmm⟩ : ∃ mm, mm = (l ++ [(⟨j, kk, 7, R.p.last, badAt R.s j⟩ : TK)]).length := ⟨_, rfl⟩
          rw [← hmm] at V7 ⊢
          have hgt : (l ++ [(⟨j, kk, 7, R.p.last, badAt R.s j⟩ : TK)])[l.length]? = some ⟨j, kk, 7, R.p.last, badAt R.s j⟩ := by rw [List.getElem?_append_right (Nat.le_refl _), Nat.sub_self]; rfl
          have hmm2 : mm = l.length + 1 := by rw [hmm]; simp
          obtain ⟨gA, oA, rfl, hcell⟩ := V7.out.2 (by omega)
          have k0 := hcell (l.length * 5) _ (tRow_get [] _ 0 _ _ _ hgt (by omega) rfl)
          have k1 := hcell (l.length * 5 + 1) _ (tRow_get [] _ 1 _ _ _ hgt (by omega) rfl)
          have k2 := hcell (l.length * 5 + 2) _ (tRow_get [] _ 2 _ _ _ hgt (by omega) rfl)
          have k3 := hcell (l.length * 5 + 3) _ (tRow_get [] _ 3 _ _ _ hgt (by omega) rfl)
          rw [← Nat.add_assoc] at k1 k2 k3
          have k0 : w7.cell? ⟨gA, oA + l.length * 5, none⟩ = some (.int .i64 (j : Nat)) := k0
          have k1 : w7.cell? ⟨gA, oA + l.length * 5 + 1, none⟩ = some (.int .u8 (kk : Nat)) := k1
          have k2 : w7.cell? ⟨gA, oA + l.length * 5 + 2, none⟩ = some (.int .u32 7) := k2
          have k3 : w7.cell? ⟨gA, oA + l.length * 5 + 3, none⟩ = some (.int .u64 (R.p.last : Nat)) := k3
          rw [← HKK.out] at k1
          clear hcell hgt V7 hmm HM HLL hm2 hlt hlt2
          generalize l.length = a at *
          have q0 : IntKind.i64.wrap ((mm : Int) - 1) = (a : Int) := by rw [IntKind.wrap_i64]; omega
          have q2 : (a : Int) < (mm : Int) := by omega
          have q3 : a < mm := by omega
          have q4 : IntKind.i64.wrap ((a : Int) + 1) = (mm : Int) := by rw [IntKind.wrap_i64]; omega
          have q5 : IntKind.u8.wrap ((1 : Int) + (r : Int)) = 1 + (r : Int) := by rw [IntKind.wrap_u8]; omega
          have g0 := cell_regrown k0
          have g1 := cell_regrown k1
          have g2 := cell_regrown k2
          have g3 := cell_regrown k3
          have cL := Lib.hid (fun (d : Nat) (os : Array Obj) => Calls.regrown_of (d := d) (os := os) ((pLast_any _ _ _ _ _ _ _ (P7.out.new (New.of_below (below_regrown w7 d os)))).mono fun e w' h => ⟨h.1, by rw [← h.2]; exact Below.refl _ _⟩))
          have cW := Lib.hid (fun (d : Nat) (os : Array Obj) => Calls.regrown_of (d := d) (os := os) ((pWorks_any (Go.Sort.grow (redrawn w7 d) os)).mono fun e w' h => ⟨h.1, h.2.below⟩))
          clear hmm2 k0 k1 k2 k3 hcap hl19 P7
          go_wp2
          refine wp_region_quiet_below (by kernel_rfl) (by kernel_rfl) ?_
          repeat (quiet_step (first
            | (go_at_call 15; exact cL.out _ _)
            | (go_at_call 9; exact cW.out _ _)))
          refine wpQuiet_nil ?_
          intro _ hw'
          obtain ⟨⟨dq, osq⟩, hw''⟩ := hw'
          subst hw''
          have K9 : Hid (New w (Go.Sort.grow (redrawn w7 dq) osq)) := N7.out.new (New.of_below (below_regrown w7 dq osq))
          go_wp2
          go_ret
          exact ⟨rfl, K9.out⟩
        · rw [e1] at e0; cases e0
        · rw [e1] at e0; cases e0
      · rcases HTA.out with ⟨e1, _⟩ | ⟨e1, _⟩ | ⟨_, hd⟩
        · rw [e1] at e0; cases e0
        · rw [e1] at e0; cases e0
        · rw [HCR.2] at hd; cases hd

set_option maxRecDepth 100000 in
theorem lifted (os : Os) (started : os.Started) (H : Type) (enc : TypeId × Value → H) :
    ReturnsInHanded {} Try.checked os 4 .any (Rows.poolRisesSpec.pre6 enc Try.prog Try.f4 Rows.poolRisesRow.domain false) (Rows.poolRisesSpec.post enc Try.prog Try.f4 false true false false) := by
  refine lift_new (C := Try.checked) (s := Rows.poolRisesSpec) (tb := 4) own started (by kernel_rfl) Try.func4
    (ChangeSpec.witness6 (enc := enc) (C := Try.checked) false ⟨#[], #[.int .u8 0, .slice none 0 0, .slice none 0 0, .int .u8 0], []⟩ 8 (by kernel_rfl) (by kernel_rfl) (by kernel_rfl) (by kernel_rfl))
    rfl (by kernel_rfl) Try.underlying4 ?_ laidOut (of_decide_eq_true (by kernel_rfl)) ?_
  · intro ds hd
    match ds, hd with
    | [d0, d1, d2, d3], _ => exact ⟨rfl, rfl, rfl⟩
  · intro W base args ds hA
    have hA : Args enc Try.prog W base Try.f4.params.toList args.toList ds := hA
    rw [Try.params4] at hA
    obtain ⟨v0, vs0, d0, ds0, p0, hargs, rfl, a0, hA⟩ := hA.cons_
    obtain ⟨v1, vs1, d1, ds1, p1, rfl, rfl, a1, hA⟩ := hA.cons_
    obtain ⟨v2, vs2, d2, ds2, p2, rfl, rfl, a2, hA⟩ := hA.cons_
    obtain ⟨v3, vs3, d3, ds3, p3, rfl, rfl, a3, hA⟩ := hA.cons_
    obtain ⟨rfl, rfl⟩ := hA.nil_
    obtain rfl : args = #[v0, v1, v2, v3] := by cases args; simp_all
    obtain ⟨y0, rfl, w0⟩ := a0.int_ Try.underlying5
    obtain ⟨x0, rfl, h0⟩ := u8_nat w0
    obtain ⟨A1, n1, c1, l1, rfl, b1, k1, m1, _, _⟩ := a1.hits_
    obtain ⟨A2, n2, c2, l2, rfl, b2, k2, m2⟩ := a2.acts4_
    obtain ⟨y3, rfl, w3⟩ := a3.int_ Try.underlying5
    obtain ⟨x3, rfl, h3⟩ := u8_nat w3
    exact walk x0 A1 n1 c1 l1 A2 n2 c2 l2 x3 W h0 b1 k1 m1 b2 ⟨k2, m2⟩ h3

theorem over : Rows.poolRisesRow.holds Try.pinned (OpenSpec.ofChange Rows.poolRisesSpec) :=
  OpenClaim.holds_of_wide 4 Try.f4 rfl rfl rfl rfl rfl rfl rfl ⟨rfl, rfl, rfl, rfl, rfl⟩ rfl rfl rfl rfl rfl (by kernel_rfl) Try.func4 (by kernel_rfl)
    (of_decide_eq_true (by kernel_rfl)) (by unfold Func.isWrapper; first | (rw [if_pos (by decide +kernel)]; kernel_rfl) | (rw [if_neg (by decide +kernel)]; exact ⟨rfl, rfl⟩))
    (fun os started H enc _ => lifted os started H enc)

theorem proved : Rows.PoolRisesSaid := over
end Go.Proofs.Ytgfdiboaiifdnaa.poolRises
