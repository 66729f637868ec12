/-
  RecBack: changes come back of their page, a drop of its; a body that says changes is the only one that says them; for every size, list of changes, Seq and body.
-/
import Derived.Test.YtlbbhfapmmcehaaJm
import Derived.Test.YtlbbhfapmmcehaaJw
namespace Go.Proofs.Ytlbbhfapmmcehaa.recBack
open Go.ChangeShapes Go.WideShapes Go.ChangeAt Go.RowKit

theorem own : ownKnob Try.prog.godebug = none := by kernel_rfl
theorem laidOut : laidOutB Try.prog = true := by kernel_rfl

/-- A page that is made, whole. -/
theorem pu_ok {z : Int} {l : List CT} (h : puE z l = 0) : ∃ N : Nat, z = N ∧ N ≤ 256 ∧ tlOk l = true ∧ puL z l = page N 2 (bdK l l.length) ∧ (page N 2 (bdK l l.length)).length = N ∧
    sGetE (page N 2 (bdK l l.length)) = 0 ∧ sGetK (page N 2 (bdK l l.length)) = 2 ∧ sGetL (page N 2 (bdK l l.length)) = bdK l l.length := by
  have ht : tlOk l = true := by
    cases hb : tlOk l
    · rw [(pu_no hb).2] at h; omega
    · rfl
  obtain ⟨e1, e2⟩ := pu_yes2 (z := z) ht
  rw [e2] at h
  obtain ⟨N, rfl, hp, hk, hl, he⟩ := put_yes h
  obtain ⟨g1, g2, g3⟩ := get_page N 2 (bdK l l.length) hp hk hl
  refine ⟨N, rfl, ?_, ht, by rw [e1, he], page_length _ _ _ hl, g1, g2, g3⟩
  unfold isPg at hp
  omega

theorem pd_ok {z : Int} {q : Nat} (h : pdE z q = 0) : q ≠ 0 ∧ ∃ N : Nat, z = N ∧ N ≤ 256 ∧ pdL z q = page N 3 (leB q 8) ∧ (page N 3 (leB q 8)).length = N ∧
    sGetE (page N 3 (leB q 8)) = 0 ∧ sGetK (page N 3 (leB q 8)) = 3 ∧ sGetL (page N 3 (leB q 8)) = leB q 8 := by
  have hq : q ≠ 0 := fun h0 => by unfold pdE at h; rw [if_pos h0] at h; omega
  refine ⟨hq, ?_⟩
  have e1 : pdL z q = sPutL z 3 (leB q 8) := by unfold pdL; rw [if_neg hq]
  unfold pdE at h
  rw [if_neg hq] at h
  obtain ⟨N, rfl, hp, hk, hl, he⟩ := put_yes h
  obtain ⟨g1, g2, g3⟩ := get_page N 3 (leB q 8) hp hk hl
  refine ⟨N, rfl, ?_, by rw [e1, he], page_length _ _ _ hl, g1, g2, g3⟩
  unfold isPg at hp
  omega

theorem own_nil {w : World} {B : Nat} {A : Option Addr} {c : Nat} {l : List Nat} (h : OwnB w 5 B A c l) : A = none → c = 0 ∧ l.length = 0 := by
  rcases h.2 with ⟨_, e1, e2⟩ | ⟨g, sp, e1, _⟩
  · exact fun _ => ⟨e1, by rw [e2]; rfl⟩
  · intro h; rw [h] at e1; cases e1

theorem drop_back {q : Nat} (hq : q ≠ 0) (h : q < 18446744073709551616) : gdV (leB q 8) = q ∧ gdE (leB q 8) = 0 := by
  have e : gdV (leB q 8) = q := by rw [gd_eq (leB_length q 8), leV_le8 q h]
  exact ⟨e, by unfold gdE; rw [e, if_neg hq]⟩

theorem back_put {l : List Nat} (hb : ∀ x ∈ l, x < 256) (h : geE l = 0) (hl : l.length ≤ 251) : puE 256 (geC l) = 0 ∧ bdK (geC l) (geC l).length = l := by
  obtain ⟨h1, h2⟩ := get_only hb h
  refine ⟨?_, h2⟩
  rw [(pu_yes2 (z := 256) h1).2, h2]
  unfold sPutE
  rw [if_pos ⟨by decide, by decide⟩, if_pos (by omega)]

set_option maxRecDepth 100000 in
set_option maxHeartbeats 6400000 in
theorem walk (x0 : Int) (A : Option Addr) (n c : Nat) (es : List CE) (x2 : Nat) (A3 : Option Addr) (n3 c3 : Nat) (l3 : List Nat) (w : World)
    (_b0 : -9223372036854775808 ≤ x0 ∧ x0 ≤ 9223372036854775807) (b1 : CsIn w A n c es) (b2 : x2 < 18446744073709551616) (b3 : IsB w (.slice A3 n3 c3) A3 n3 c3 l3) :
    Calls Try.prog 6 #[.int .i64 x0, .slice A n c, .int .u64 x2, .slice A3 n3 c3] w (True1 w) := by
  have hn : n ≤ maxLen := Nat.le_trans b1.2.2.1 b1.2.2.2.1
  have H := Lib.hid b1.1
  have HN := Lib.hid hn
  have H2 := Lib.hid b2
  have H3 := Lib.hid b3
  have C1 := fun u hu => Lib.hid (recPut_any x0 A n c es u (b1.1.new hu) hn)
  clear b1 b2 b3 hn
  go_enter Try.func6, Try.ntmps6
  go_wp2_with fail
  refine (C1 _ (Kept.refl _ _)).out.mono ?_
  rintro e w1 ⟨A1, c1, rfl, p1, k1⟩
  have P1 := Lib.hid p1
  have K1 := Lib.hid k1
  clear p1 k1 C1
  generalize hpl : puL x0 (cts es) = pl at *
  generalize hpn : pl.length = pn at *
  generalize hpe : puE x0 (cts es) = pe at *
  have HPL := Lib.hid hpl
  have HPN := Lib.hid hpn
  have HPE := Lib.hid hpe
  clear hpl hpn hpe
  go_upto_if 35 with fail
  go_cut [] (fun wx => Hid (New w wx))
  case first =>
    by_cases hp : pe = 0
    · obtain ⟨N, hz, hN, ht, e1, e2, e3, e4, e5⟩ := pu_ok (HPE.out.trans hp)
      clear hz
      have hbl := tl_body ht
      obtain ⟨gb1, gb2⟩ := get_body ht
      have hlen : Hid ((tlL (cts es)).length = (bdK (cts es) (cts es).length).length) := by rw [Hid, (tl_yes ht).1]
      have CL := fun u hu => Lib.hid (recLength_any A n c es u (H.out.new hu) HN.out)
      subst hp
      rw [HPL.out] at e1
      rw [← e1, HPN.out] at e2
      have hc1 : c1 = pn := P1.out.cap.trans HPN.out
      have T1 : Hid (Bts w1 A1 pn pl) := by have := P1.out.bts; rwa [HPN.out] at this
      rw [← e1] at e3 e4 e5
      rw [← e2] at hN
      have G3 := Lib.hid e3
      have G4 := Lib.hid e4
      have G5 := Lib.hid e5
      have GB1 := Lib.hid gb1
      have GB2 := Lib.hid gb2
      subst hc1
      clear P1 e1 e2 e3 e4 e5 gb1 gb2 HPL HPN HPE
      generalize bdK (cts es) (cts es).length = bd at *
      generalize (tlL (cts es)).length = tn at *
      go_wp2_with fail
      refine (sGet_any A1 c1 c1 pl _ T1.out (Nat.le_refl _) (by omega)).mono ?_
      rintro e w2 ⟨A2, c2, rfl, o2, k2⟩
      rw [G3.out, G4.out, G5.out]
      have o2 : OwnB w2 5 w1.heap.size A2 c2 bd := by rw [G5.out] at o2; exact o2
      have K2 := Lib.hid (K1.out.new k2)
      have CG := Lib.hid (recGet_any A2 bd.length c2 bd w2 o2.bts (by omega) (own_nil o2))
      clear o2 k2 T1 K1 G3 G4 G5
      go_wp2_with fail
      refine CG.out.mono ?_
      rintro e w4 ⟨A4, c4, es4, rfl, e4, o4, k4⟩
      rw [GB1.out]
      have hes : Hid (cts es4 = cts es) := by rw [Hid, e4, GB2.out]
      have I4 := Lib.hid o4.in_
      have K4 := Lib.hid (K2.out.new k4)
      have hl4 : Hid (es4.length ≤ maxLen) := by
        have h1 := congrArg List.length hes.out
        rw [cts_lenE, cts_lenE, H.out.len] at h1
        rw [Hid, h1]
        exact HN.out
      clear e4 o4 k4 K2 CG GB1 GB2
      generalize hm4 : es4.length = m4 at *
      clear hm4
      go_wp2_with fail
      refine (changes0_yes A4 A m4 n c4 c es4 es _ I4.out (H.out.new K4.out) hl4.out hes.out).mono ?_
      rintro e w5 ⟨rfl, k5⟩
      have K5 := Lib.hid (K4.out.new k5)
      clear k5 K4 I4
      go_wp2_with fail
      refine (CL _ K5.out).out.mono ?_
      rintro e w6 ⟨rfl, k6⟩
      have K6 := Lib.hid (K5.out.new k6)
      rw [hlen.out]
      clear k6 K5 CL
      go_wp2
      go_meet
      case rel => exact K6
    · have d0 : (pe == 0) = false := beq_eq_false_iff_ne.2 hp
      clear hp P1 HPL HPN HPE
      go_wp2
      go_meet
      case rel => exact K1
  case rest =>
    have K2 := hcut
    clear hcut K1 P1 HPL HPN HPE
    have C2 := Lib.hid (putDrop_any x0 x2 wc H2.out)
    go_wp2_with fail
    refine C2.out.mono ?_
    rintro e w3 ⟨A4, c4, rfl, p4, k4⟩
    have P4 := Lib.hid p4
    have K3 := Lib.hid (K2.out.new k4)
    clear p4 k4 C2 K2
    generalize hpl : pdL x0 x2 = pl at *
    generalize hpn : pl.length = pn at *
    generalize hpe : pdE x0 x2 = pe at *
    have HPL := Lib.hid hpl
    have HPN := Lib.hid hpn
    have HPE := Lib.hid hpe
    clear hpl hpn hpe
    go_upto_if 77 with fail
    go_cut [] (fun wx => Hid (New w wx))
    case first =>
      by_cases hp : pe = 0
      · obtain ⟨hq, N, hz, hN, e1, e2, e3, e4, e5⟩ := pd_ok (HPE.out.trans hp)
        clear hz
        obtain ⟨gb1, gb2⟩ := drop_back hq H2.out
        have hl8 : Hid ((leB x2 8).length = 8) := leB_length x2 8
        subst hp
        rw [HPL.out] at e1
        rw [← e1, HPN.out] at e2
        have hc1 : c4 = pn := P4.out.cap.trans HPN.out
        have T1 : Hid (Bts w3 A4 pn pl) := by have := P4.out.bts; rwa [HPN.out] at this
        rw [← e1] at e3 e4 e5
        rw [← e2] at hN
        have G3 := Lib.hid e3
        have G4 := Lib.hid e4
        have G5 := Lib.hid e5
        have GB1 := Lib.hid gb1
        have GB2 := Lib.hid gb2
        subst hc1
        clear P4 e1 e2 e3 e4 e5 gb1 gb2 HPL HPN HPE
        generalize leB x2 8 = bd at *
        go_wp2_with fail
        refine (sGet_any A4 c4 c4 pl _ T1.out (Nat.le_refl _) (by omega)).mono ?_
        rintro e w5 ⟨A5, c5, rfl, o5, k5⟩
        rw [G3.out, G4.out, G5.out]
        have o5 : OwnB w5 5 w3.heap.size A5 c5 bd := by rw [G5.out] at o5; exact o5
        have K5 := Lib.hid (K3.out.new k5)
        have CG := Lib.hid (getDrop_any A5 bd.length c5 bd w5 o5.bts (by rw [hl8.out]; omega) (own_nil o5))
        rw [GB1.out, GB2.out] at CG
        clear o5 k5 T1 K3 G3 G4 G5 GB1 GB2
        go_wp2_with fail
        refine CG.out.mono ?_
        rintro e w6 ⟨rfl, k6⟩
        have K6 := Lib.hid (K5.out.new k6)
        clear k6 K5 CG
        go_wp2
        go_meet
        case rel => exact K6
      · have d0 : (pe == 0) = false := beq_eq_false_iff_ne.2 hp
        clear hp P4 HPL HPN HPE
        go_wp2
        go_meet
        case rel => exact K3
    case rest =>
      have K4 := hcut
      clear hcut K3 P4 HPL HPN HPE
      have hcap : n3 ≤ 140737488351232 := Nat.le_trans H3.out.le H3.out.cap
      have CG := Lib.hid (recGet_any A3 n3 c3 l3 wc (H3.out.bts.new K4.out) hcap H3.out.nil)
      have HB3 := Lib.hid H3.out.bts
      have HBP := Lib.hid (fun h h2 => back_put H3.out.bts.2.1 h h2)
      have HCL := Lib.hid (geC_len H3.out.bts.2.1)
      clear H3 H2 H HN
      generalize hgc : geC l3 = gc at *
      have HGC := Lib.hid hgc
      clear hgc
      go_wp2_with fail
      refine CG.out.mono ?_
      rintro e w5 ⟨A5, c5, es5, rfl, e5, o5, k5⟩
      have K5 := Lib.hid (K4.out.new k5)
      have I5 := Lib.hid o5.in_
      have E5 : Hid (cts es5 = gc) := e5.trans HGC.out
      have HL5 : Hid (es5.length ≤ maxLen) := by
        have h1 := congrArg List.length E5.out
        rw [cts_lenE] at h1
        have := HCL.out
        rw [Hid, h1]
        unfold maxLen
        omega
      clear o5 k5 e5 K4 CG HCL HGC
      by_cases h0 : geE l3 = 0
      · rw [h0]
        have HBP' := Lib.hid (fun h2 => HBP.out h0 h2)
        clear HBP h0
        by_cases hl : n3 ≤ 251
        · obtain ⟨p1, p2⟩ := HBP'.out (by rw [HB3.out.1]; exact hl)
          have d1 : decide (251 < (n3 : Int)) = false := decide_eq_false (by omega)
          obtain ⟨N, hN, hN2, _, e1, e2, e3, e4, e6⟩ := pu_ok p1
          obtain rfl : N = 256 := by omega
          rw [p2] at e1 e2 e3 e4 e6
          have CP := Lib.hid (recPut_any 256 A5 es5.length c5 es5 w5 I5.out HL5.out)
          rw [E5.out, p1, e1] at CP
          have PN := Lib.hid e2
          have G3 := Lib.hid e3
          have G4 := Lib.hid e4
          have G6 := Lib.hid e6
          clear p1 p2 hN hN2 e1 e2 e3 e4 e6 HBP' I5 HL5 E5
          generalize page 256 2 l3 = P at *
          generalize es5.length = m5 at *
          go_wp2_with fail
          refine CP.out.mono ?_
          rintro e w6 ⟨A6, c6, rfl, p6, k6⟩
          have hc6 : c6 = 256 := p6.cap.trans PN.out
          have T6 : Hid (Bts w6 A6 256 P) := by have := p6.bts; rwa [PN.out] at this
          have K6 := Lib.hid (K5.out.new k6)
          have HB6 := Lib.hid ((HB3.out.new K6.out))
          rw [PN.out]
          subst hc6
          clear p6 k6 K5 CP PN HB3
          go_wp2_with fail
          refine (sGet_any A6 256 256 P _ T6.out (Nat.le_refl _) (by omega)).mono ?_
          rintro e w7 ⟨A7, c7, rfl, o7, k7⟩
          rw [G3.out, G4.out, G6.out]
          have o7 : OwnB w7 5 w6.heap.size A7 c7 l3 := by rw [G6.out] at o7; exact o7
          have T7 := Lib.hid o7.bts
          have K7 := Lib.hid (K6.out.new k7)
          have HB7 := Lib.hid (HB6.out.new k7)
          have HLN : Hid (l3.length = n3) := HB7.out.1
          have T8 : Hid (Bts w7 A7 n3 l3) := by have := T7.out; rwa [HLN.out] at this
          rw [HLN.out]
          clear o7 k7 T6 T7 K6 HB6 G3 G4 G6
          go_wp2_with fail
          refine (same_eq A7 A3 n3 c7 c3 l3 _ T8.out HB7.out (by unfold maxLen; omega)).mono ?_
          rintro e w8 ⟨d8, rfl, rfl⟩
          have K8 : Hid (New w (w7.drewN d8)) := K7.out.drewN d8
          clear T8 HB7 K7
          go_wp2_with fail
          refine (works11_k K8).mono ?_
          rintro e w9 ⟨rfl, Kl⟩
          go_wp2
          go_ret
          exact ⟨rfl, Kl⟩
        · have d1 : decide (251 < (n3 : Int)) = true := decide_eq_true (by omega)
          clear hl HBP' I5 HL5 E5
          generalize es5.length = m5 at *
          go_wp2_with fail
          refine (works11_k K5).mono ?_
          rintro e w9 ⟨rfl, Kl⟩
          go_wp2
          go_ret
          exact ⟨rfl, Kl⟩
      · have b0 : (geE l3 != 0) = true := bne_iff_ne.2 h0
        clear h0 HBP I5 HL5 E5
        generalize es5.length = m5 at *
        generalize geE l3 = ge at *
        go_wp2_with fail
        refine (works11_k K5).mono ?_
        rintro e w9 ⟨rfl, Kl⟩
        go_wp2
        go_ret
        exact ⟨rfl, Kl⟩

set_option maxRecDepth 100000 in
theorem lifted (os : Os) (started : os.Started) (H : Type) (enc : TypeId × Value → H) :
    ReturnsInHanded {} Try.checked os 6 .any (Rows.recBackSpec.pre6 enc Try.prog Try.f6 Rows.recBackRow.domain false) (Rows.recBackSpec.post enc Try.prog Try.f6 false true false false) := by
  refine lift_new (C := Try.checked) (s := Rows.recBackSpec) (tb := 4) own started (by kernel_rfl) Try.func6
    (ChangeSpec.witness6 (enc := enc) (C := Try.checked) false ⟨#[], #[.int .i64 0, .slice none 0 0, .int .u64 0, .slice none 0 0], []⟩ 8 (by kernel_rfl) (by kernel_rfl) (by kernel_rfl) (by kernel_rfl))
    rfl (by kernel_rfl) Try.underlying4 ?_ laidOut (of_decide_eq_true (by kernel_rfl)) ?_
  · intro ds hd
    match ds, hd with
    | [d0, d1, d2, d3], _ => exact ⟨rfl, rfl, rfl⟩
  · intro W base args ds hA
    have hA : Args enc Try.prog W base Try.f6.params.toList args.toList ds := hA
    rw [Try.params6] at hA
    obtain ⟨v0, vs0, d0, ds0, p0, hargs, rfl, a0, hA⟩ := hA.cons_
    obtain ⟨v1, vs1, d1, ds1, p1, rfl, rfl, a1, hA⟩ := hA.cons_
    obtain ⟨v2, vs2, d2, ds2, p2, rfl, rfl, a2, hA⟩ := hA.cons_
    obtain ⟨v3, vs3, d3, ds3, p3, rfl, rfl, a3, hA⟩ := hA.cons_
    obtain ⟨rfl, rfl⟩ := hA.nil_
    obtain rfl : args = #[v0, v1, v2, v3] := by cases args; simp_all
    obtain ⟨x0, rfl, w0⟩ := a0.int_ Try.underlying3
    obtain ⟨A1, n1, c1, l1, rfl, b1⟩ := a1.changes_
    obtain ⟨y2, rfl, w2⟩ := a2.int_ Try.underlying35
    obtain ⟨x2, rfl, h2⟩ := u64_nat w2
    obtain ⟨A3, n3, c3, l3, b3⟩ := a3.bytes_ Try.underlying23 Try.underlying5 (by kernel_rfl) (by kernel_rfl)
    obtain rfl := b3.val
    exact walk x0 A1 n1 c1 l1 x2 A3 n3 c3 l3 W (i64_bounds w0) b1 h2 b3

theorem over : Rows.recBackRow.holds Try.pinned (OpenSpec.ofChange Rows.recBackSpec) :=
  OpenClaim.holds_of_wide 6 Try.f6 rfl rfl rfl rfl rfl rfl rfl ⟨rfl, rfl, rfl, rfl, rfl⟩ rfl rfl rfl rfl rfl (by kernel_rfl) Try.func6 (by kernel_rfl)
    (of_decide_eq_true (by kernel_rfl)) (by unfold Func.isWrapper; first | (rw [if_pos (by decide +kernel)]; kernel_rfl) | (rw [if_neg (by decide +kernel)]; exact ⟨rfl, rfl⟩))
    (fun os started H enc _ => lifted os started H enc)

theorem proved : Rows.RecBackSaid := over
end Go.Proofs.Ytlbbhfapmmcehaa.recBack
