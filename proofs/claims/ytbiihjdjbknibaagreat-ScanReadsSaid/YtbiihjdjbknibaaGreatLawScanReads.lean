/-
  ScanReads: of whatever stands on a chip, the blocks that count, those that were dropped, and what an era says, are the document's; for every list of blocks, of bad ones, and era.
-/
import Derived.Test.YtbiihjdjbknibaaGreatAw
namespace Go.Proofs.YtbiihjdjbknibaaGreat.scanReads
open Go.ChangeShapes Go.WideShapes Go.ChangeAt Go.RowKit

theorem own : ownKnob Tryz.prog.godebug = none := by kernel_rfl
theorem laidOut : laidOutB Tryz.prog = true := by kernel_rfl

theorem works12_r {w0 wc : World} (K : Hid (New w0 wc)) : Calls Tryz.prog 9 #[] wc fun e w' => e = .returned (.bool true) ∧ New w0 w' := by
  refine (works12_any wc).mono ?_
  rintro e w' ⟨rfl, hk⟩
  exact ⟨rfl, K.out.new hk⟩
theorem own_iin {w : World} {B c : Nat} {A : Option Addr} {l : List Nat} (h : IOwn w B A c l) : IIn w A l.length l := by
  obtain ⟨_, hc, _, ho⟩ := h
  refine ⟨rfl, fun h0 => ?_⟩
  rcases ho with ⟨_, rfl⟩ | ⟨g, sp, rfl, _, hb, _⟩
  · omega
  · refine ⟨g, 0, rfl, fun j x hj => ?_⟩
    have hjl : j < l.length := (List.getElem?_eq_some_iff.1 hj).1
    rw [Nat.zero_add, hb.cell, List.getElem?_append_left (by rw [List.length_map]; exact hjl), List.getElem?_map, hj]
    rfl

theorem iin_new {w w' : World} {A : Option Addr} {n : Nat} {l : List Nat} (h : IIn w A n l) (hk : New w w') : IIn w' A n l := by
  obtain ⟨h1, h2⟩ := h
  refine ⟨h1, fun h0 => ?_⟩
  obtain ⟨g, o, e, hc⟩ := h2 h0
  exact ⟨g, o, e, fun j x hx => hk.cell (hc j x hx) id⟩

set_option maxRecDepth 100000 in
set_option maxHeartbeats 6400000 in
theorem walk (A : Option Addr) (n c : Nat) (bA : Option Addr) (bn bc : Nat) (era : Nat) (w : World) (b0 : BksIn w A n ∧ n ≤ maxLen) (b1 : RowR InOk 1 w bA bn ∧ bn ≤ 17592186044416) (b2 : era < 256) :
    Calls Tryz.prog 3 #[.slice A n c, .slice bA bn bc, .int .u8 (era : Nat)] w (True1 w) := by
  have CH := Lib.hid (chipB_any A n c bA bn bc w b0.1 b0.2 b1.1 b1.2)
  have we : IntKind.u32.wrap (era : Int) = (era : Int) := by rw [IntKind.wrap_u32]; omega
  clear b0 b1
  go_enter Tryz.func3, Tryz.ntmps3
  go_wp2_with fail
  refine CH.out.mono ?_
  rintro e w1 ⟨g, Q, W, il, rfl, hWl, hWb, hc, hk⟩
  have K1 := hk
  have hal : (loadS 16 8 128 0 W il).dead = false := rfl
  have h19 : (loadS 16 8 128 0 W il).nb ≤ 19 := by show 16 ≤ 19; omega
  generalize loadS 16 8 128 0 W il = s at *
  clear hWl hWb hk CH
  by_cases h0 : era = 0
  · subst h0
    have NB := Lib.hid (noBk_zero Q g s w1 hc.out hal h19)
    have CB := Lib.hid (Blocks_no _ 0 2 w1 NB.out rfl)
    clear hc hal h19
    go_wp2_with fail
    refine CB.out.mono ?_
    rintro e w2 ⟨rfl, k2⟩
    have CF := Lib.hid (Facts_no _ 0 2 w2 (NB.out.new k2) rfl)
    have K2 := Lib.hid (K1.out.new k2)
    clear k2 CB NB K1
    go_wp2_with fail
    refine CF.out.mono ?_
    rintro e w3 ⟨rfl, k3⟩
    have KE := works12_r (K2.out.new k3)
    clear k3 CF K2
    go_wp2_with fail
    refine KE.mono ?_
    rintro e w5 ⟨rfl, k5⟩
    have K5 := Lib.hid k5
    clear k5 KE
    go_wp2
    go_ret
    exact ⟨rfl, K5.out⟩
  · have d0 : (era == 0) = false := beq_eq_false_iff_ne.2 h0
    have d1 : ((era : Int) == 0) = false := beq_eq_false_iff_ne.2 (by omega)
    have CB := Lib.hid (Blocks_ok Q g s era w1 hc.out hal h19 h0 (by omega))
    have CF := fun u hu => Lib.hid (Facts_ok Q g s era u (hc.out.new hu) hal h19 h0 (by omega))
    have CRB := fun u hu => Lib.hid (rBlocks_any Q g s era u (hc.out.new hu) h19 (refL_cnt h19))
    have CRF := fun u hu => Lib.hid (rFacts_any Q g s era u (hc.out.new hu) h19 (refL_cnt h19) _ rfl)
    obtain ⟨r1, r2, r3⟩ := era_ref h19 era
    have hl1 : (((eraL s era).drop (eraR s era)).map (·.b)).length ≤ 19 := by
      rw [List.length_map, List.length_drop]
      have := eraL_len (era := era) h19
      omega
    have hl2 : (((eraL s era).take (eraR s era)).map (·.b)).length ≤ 19 := by
      rw [List.length_map, List.length_take]
      have := eraL_len (era := era) h19
      omega
    rw [r1, r2] at CRB
    rw [r3] at CRF
    clear r1 r2 r3 hc hal h19 h0
    generalize ((eraL s era).drop (eraR s era)).map (·.b) = cl at *
    generalize ((eraL s era).take (eraR s era)).map (·.b) = dl at *
    generalize eraF s era = fl at *
    go_wp2_with fail
    refine CB.out.mono ?_
    rintro e w2 ⟨X1, y1, X2, y2, rfl, i1, i2, k2⟩
    have J1 := Lib.hid i1
    have J2 := Lib.hid i2
    have K2 := Lib.hid k2
    clear i1 i2 k2 CB
    go_wp2_with fail
    refine (CF _ K2.out).out.mono ?_
    rintro e w3 ⟨Y, yc, ye, rfl, hy, oy, k3⟩
    have HY := Lib.hid hy
    have OY := Lib.hid oy
    have K3 := Lib.hid (K2.out.new k3)
    have J1 := Lib.hid (J1.out.new k3)
    have J2 := Lib.hid (J2.out.new k3)
    clear hy oy k3 CF K2
    go_wp2_with fail
    refine (CRB _ K3.out).out.mono ?_
    rintro e w4 ⟨Z1, z1, Z2, z2, rfl, i1, i2, k4⟩
    have M1 := Lib.hid i1
    have M2 := Lib.hid i2
    have K4 := Lib.hid (K3.out.new k4)
    have J1 := Lib.hid (J1.out.new k4)
    have J2 := Lib.hid (J2.out.new k4)
    have OY4 := Lib.hid (OY.out.new k4)
    clear i1 i2 k4 CRB K3 OY
    have CI1 := Lib.hid (ints_eq X1 Z1 cl.length y1 z1 cl w4 (own_iin J1.out) (own_iin M1.out) (by unfold maxLen; omega))
    have hyl : ye.length ≤ maxLen := Nat.le_trans OY4.out.1.2.1 OY4.out.1.2.2.1
    have FY4 := Lib.hid OY4.out.in_
    have U1 := Lib.hid (own_iin J2.out)
    have U2 := Lib.hid (own_iin M2.out)
    clear J1 J2 M1 M2 OY4
    generalize cl.length = cn at *
    generalize hdn : dl.length = dn at *
    clear hdn
    generalize hyn : ye.length = yn at *
    clear hyn
    go_wp2_with fail
    refine CI1.out.mono ?_
    rintro e w5 ⟨q5, rfl, hw5⟩
    have n5 : New w4 w5 := by rw [hw5]; exact (Kept.refl _ _).drewN q5
    have K5 := Lib.hid (K4.out.new n5)
    have FY5 := Lib.hid (FY4.out.new n5)
    have CI2 := Lib.hid (ints_eq X2 Z2 dn y2 z2 dl w5 (iin_new U1.out n5) (iin_new U2.out n5) (by unfold maxLen; omega))
    clear hw5 n5 CI1 K4 FY4 U1 U2
    go_wp2_with fail
    refine CI2.out.mono ?_
    rintro e w6 ⟨q6, rfl, hw6⟩
    have n6 : New w5 w6 := by rw [hw6]; exact (Kept.refl _ _).drewN q6
    have K6 := Lib.hid (K5.out.new n6)
    have FY6 := Lib.hid (FY5.out.new n6)
    clear hw6 n6 CI2 K5 FY5
    go_wp2_with fail
    refine (CRF _ K6.out).out.mono ?_
    rintro e w7 ⟨V, vc, ve, rfl, fv, hv, hvl, k7⟩
    have CF0 := Lib.hid (facts0_any Y V yn ve.length yc vc ye ve w7 (FY6.out.new k7) fv hyl)
    have hdec : fts ye = fts ve := HY.out.trans hv.symm
    rw [decide_eq_true hdec] at CF0
    have K7 := Lib.hid (K6.out.new k7)
    clear fv hv k7 hdec CRF K6 FY6 HY
    generalize ve.length = vn at *
    go_wp2_with fail
    refine CF0.out.mono ?_
    rintro e w8 ⟨rfl, k8⟩
    have KE := works12_r (K1.out.new (K7.out.new k8))
    clear k8 CF0 K7 K1
    go_wp2_with fail
    refine KE.mono ?_
    rintro e w9 ⟨rfl, k9⟩
    have K9 := Lib.hid k9
    clear k9 KE
    go_wp2
    go_ret
    exact ⟨rfl, K9.out⟩

set_option maxRecDepth 100000 in
theorem lifted (os : Os) (started : os.Started) (H : Type) (enc : TypeId × Value → H) :
    ReturnsInHanded {} Tryz.checked os 3 .any (Rows.scanReadsSpec.pre6 enc Tryz.prog Tryz.f3 Rows.scanReadsRow.domain false) (Rows.scanReadsSpec.post enc Tryz.prog Tryz.f3 false true false false) := by
  refine lift_new (C := Tryz.checked) (s := Rows.scanReadsSpec) (tb := 4) own started (by kernel_rfl) Tryz.func3
    (ChangeSpec.witness6 (enc := enc) (C := Tryz.checked) false ⟨#[], #[.slice none 0 0, .slice none 0 0, .int .u8 0], []⟩ 8 (by kernel_rfl) (by kernel_rfl) (by kernel_rfl) (by kernel_rfl))
    rfl (by kernel_rfl) Tryz.underlying4 ?_ laidOut (of_decide_eq_true (by kernel_rfl)) ?_
  · intro ds hd
    match ds, hd with
    | [d0, d1, d2], _ => exact ⟨rfl, rfl, rfl⟩
  · intro W base args ds hA
    have hA : Args enc Tryz.prog W base Tryz.f3.params.toList args.toList ds := hA
    rw [Tryz.params3] at hA
    obtain ⟨v0, vs0, d0, ds0, p0, hargs, rfl, a0, hA⟩ := hA.cons_
    obtain ⟨v1, vs1, d1, ds1, p1, rfl, rfl, a1, hA⟩ := hA.cons_
    obtain ⟨v2, vs2, d2, ds2, p2, rfl, rfl, a2, hA⟩ := hA.cons_
    obtain ⟨rfl, rfl⟩ := hA.nil_
    obtain rfl : args = #[v0, v1, v2] := by cases args; simp_all
    obtain ⟨A0, n0, c0, rfl, b0⟩ := a0.blocks_
    obtain ⟨A1, n1, c1, rfl, b1⟩ := a1.intsR
    obtain ⟨y2, rfl, w2⟩ := a2.int_ Tryz.underlying5
    obtain ⟨x2, rfl, h2⟩ := u8_nat w2
    exact walk A0 n0 c0 A1 n1 c1 x2 W b0 b1 h2

theorem over : Rows.scanReadsRow.holds Tryz.pinned (OpenSpec.ofChange Rows.scanReadsSpec) :=
  OpenClaim.holds_of_wide 3 Tryz.f3 rfl rfl rfl rfl rfl rfl rfl ⟨rfl, rfl, rfl, rfl, rfl⟩ rfl rfl rfl rfl rfl (by kernel_rfl) Tryz.func3 (by kernel_rfl)
    (of_decide_eq_true (by kernel_rfl)) (by unfold Func.isWrapper; first | (rw [if_pos (by decide +kernel)]; kernel_rfl) | (rw [if_neg (by decide +kernel)]; exact ⟨rfl, rfl⟩))
    (fun os started H enc _ => lifted os started H enc)

theorem proved : Rows.ScanReadsSaid := over
end Go.Proofs.YtbiihjdjbknibaaGreat.scanReads
