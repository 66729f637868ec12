/-
  RecFresh: what is handed in stays, the room behind it, too; what is answered is new memory; for every size, list of changes and body.
-/
import Derived.Test.YtlbbhfapmmcehaaJn
namespace Go.Proofs.Ytlbbhfapmmcehaa.recFresh
open Go.ChangeShapes Go.WideShapes Go.ChangeAt Go.RowKit

theorem own : ownKnob Try.prog.godebug = none := by kernel_rfl
theorem laidOut : laidOutB Try.prog = true := by kernel_rfl

theorem puL_len (n : Int) (l : List CT) : (puL n l).length ≤ 256 := by
  unfold puL sPutL
  split
  · split
    · rename_i h
      have h1 := h.1
      unfold isPg at h1
      rw [page_length _ _ _ (by omega)]
      omega
    · simp
  · simp

set_option maxRecDepth 100000 in
set_option maxHeartbeats 6400000 in
theorem walk (x0 : Int) (A : Option Addr) (n c : Nat) (es : List CE) (A2 : Option Addr) (n2 c2 : Nat) (l2 : List Nat) (w : World)
    (_b0 : -9223372036854775808 ≤ x0 ∧ x0 ≤ 9223372036854775807) (b1 : CsIn w A n c es) (b2 : IsB w (.slice A2 n2 c2) A2 n2 c2 l2) :
    Calls Try.prog 8 #[.int .i64 x0, .slice A n c, .slice A2 n2 c2] w (True1 w) := by
  have hn : n ≤ maxLen := Nat.le_trans b1.2.2.1 b1.2.2.2.1
  have h72 := b1.2.2.2.2.1
  have hcap : n2 ≤ 140737488351232 := Nat.le_trans b2.le b2.cap
  have H := Lib.hid b1.1
  have HN := Lib.hid hn
  have H2 := Lib.hid b2.bts
  have CC := Lib.hid (copyChanges_any A n c es w b1.1 (by omega))
  clear b1 b2 hn
  go_enter Try.func8, Try.ntmps8
  go_wp2_with fail
  refine CC.out.mono ?_
  rintro e w1 ⟨Aa, ca, ea, rfl, hea, oa, k1⟩
  have EA := Lib.hid hea
  have IA := Lib.hid oa.in_
  have K1 := Lib.hid k1
  have HLA : Hid (ea.length ≤ maxLen) := by
    have h1 := congrArg List.length hea
    rw [cts_lenE, cts_lenE, H.out.len] at h1
    rw [Hid, h1]
    exact HN.out
  clear hea oa k1 CC HN h72
  generalize hna : ea.length = na at *
  clear hna
  go_wp2_with fail
  refine (recPut_any x0 Aa na ca ea _ IA.out HLA.out).mono ?_
  rintro e w2 ⟨Ap, cp, rfl, pp, k2⟩
  have PP := Lib.hid pp
  have hpl := puL_len x0 (cts ea)
  have K2 := Lib.hid (K1.out.new k2)
  have IA2 := Lib.hid (IA.out.new k2)
  have HS12 : Hid (w1.heap.size ≤ w2.heap.size) := k2.size
  have HS1 : Hid (New w1 w2) := k2
  clear pp k2
  generalize puL x0 (cts ea) = pl at *
  generalize puE x0 (cts ea) = pe at *
  go_wp2_with fail
  refine (spoilP_any Ap cp w1.heap.size 1 pl _ PP.out (by unfold maxLen; omega)).mono ?_
  rintro e w3 ⟨rfl, k3⟩
  have HPB : Hid (∀ i, InRow Ap i → w1.heap.size ≤ i) := by
    rintro i ⟨a, ha, rfl⟩
    rcases PP.out.2 with ⟨h, _⟩ | ⟨g, jk, h, hB, _⟩
    · rw [h] at ha; cases ha
    · rw [h] at ha; injection ha with ha; subst ha; exact hB
  have N3 : Hid (New w1 w3) := HS1.out.trans k3 fun i hi hr => by have := HPB.out i hr; omega
  have K3 : Hid (New w w3) := K1.out.new N3.out
  have IA3 := Lib.hid (IA.out.new N3.out)
  clear k3 PP K2 IA2 HS12 HS1 HPB N3 IA K1
  generalize pl.length = pn at *
  go_wp2_with fail
  refine (wide_any A2 n2 c2 l2 _ (H2.out.new K3.out) hcap).mono ?_
  rintro e w4 ⟨g, rfl, hb4, hg4, k4⟩
  have HLN : Hid (l2.length = n2) := H2.out.1
  rw [HLN.out]
  have BV := Lib.hid hb4
  have K4 := Lib.hid (K3.out.new k4)
  have IA4 := Lib.hid (IA3.out.new k4)
  have TV : Hid (Bts w4 (some ⟨g, 0, none⟩) n2 l2) := by
    refine ⟨HLN.out, H2.out.2.1, fun _ => ⟨g, 0, rfl, fun j x hx => ?_⟩⟩
    have hj := (List.getElem?_eq_some_iff.1 hx).1
    rw [Nat.zero_add, BV.out.cell, List.getElem?_map, List.getElem?_append_left hj, hx]
    rfl
  have CG := Lib.hid (recGet_any (some ⟨g, 0, none⟩) n2 (n2 + 3) l2 w4 TV.out hcap (fun h => by cases h))
  have HCL := Lib.hid (geC_len TV.out.2.1)
  clear hb4 hg4 k4 K3 IA3
  go_wp2_with fail
  refine CG.out.mono ?_
  rintro e w5 ⟨Am, cm, em, rfl, hem, om, k5⟩
  have XM : Hid (ChX w5 w4.heap.size Am em) := ChX.of om
  have K5 : Hid (New w4 w5) := k5
  have hml : em.length ≤ 255 := by
    have h1 := congrArg List.length hem
    rw [cts_lenE] at h1
    have := HCL.out
    omega
  have HML := Lib.hid hml
  clear hem om k5 CG TV HCL
  generalize geE l2 = ge at *
  generalize hmn : em.length = mn at *
  have HMN := Lib.hid hmn
  clear hmn hml
  have hml := HML.out
  go_wp2_with fail
  go_loopw [13] (fun i wr => ∃ k : Nat, k ≤ mn ∧ i = .int .i64 k ∧ Hid (ChX wr w4.heap.size Am em) ∧ Hid (New w4 wr)) (fun i _ => mn - (intOf i).toNat)
  case atStart => exact ⟨0, Nat.zero_le _, rfl, XM, K5⟩
  case round =>
    obtain ⟨k, hk, rfl, VX, VK⟩ := hrel
    clear XM K5
    by_cases hlt : k < mn
    · have RV : Hid (RowV wr Am mn 6 (ces em)) := by have := VX.out.1; rwa [HMN.out] at this
      obtain ⟨gm, o, x, eA, hx, _, _, _, _, x4, _⟩ := rowC_at RV.out (i := k) hlt
      have hmem := List.mem_of_getElem? hx
      have HX := Lib.hid hmem
      have ho := VX.out.2.2 x hmem
      subst eA
      have CS := Lib.hid (spoilR_any x.A x.c w4.heap.size 1 x.f.v.length wr ho)
      have HO := Lib.hid ho
      have s1 : (0 : Int) ≤ (k : Int) := by omega
      have s3 : (k : Int) < (mn : Int) := by omega
      clear hx hmem ho RV
      generalize hvl : x.f.v.length = vl at *
      clear hvl
      go_wp2_with fail
      refine CS.out.mono ?_
      rintro e w6 hs
      have VX6 := Lib.hid (VX.out.spoilt HX.out hs)
      have VK6 : Hid (New w4 w6) := new_spoilt VK.out HO.out hs
      obtain ⟨rfl, _, _⟩ := hs
      clear CS VX VK HO x4
      go_wp2
      go_roundw
      case rel => exact ⟨k + 1, by omega, by go_num, VX6, VK6⟩
      case measure => simp [intOf]; omega
    · have IA9 := Lib.hid (IA4.out.new VK.out)
      have K9 := Lib.hid (K4.out.new VK.out)
      have BV9 := Lib.hid (BV.out.kept VK.out id)
      have H9 := Lib.hid (H.out.new K9.out)
      have T9 := Lib.hid (H2.out.new K9.out)
      clear VX VK IA4 K4 BV H H2
      go_wp2_with fail
      refine (changes0_yes Aa A na n ca c ea es _ IA9.out H9.out HLA.out EA.out).mono ?_
      rintro e w7 ⟨rfl, k7⟩
      have K7 := Lib.hid (K9.out.new k7)
      have BV7 := Lib.hid (BV9.out.kept k7 id)
      have T7 := Lib.hid (T9.out.new k7)
      clear k7 IA9 H9 T9 BV9 K9
      go_wp2_with fail
      refine (left_any g n2 c2 A2 l2 _ BV7.out HLN.out T7.out hcap).mono ?_
      rintro e w8 ⟨d8, rfl, rfl⟩
      have K8 : Hid (New w (w7.drewN d8)) := K7.out.drewN d8
      clear K7 BV7 T7
      go_wp2_with fail
      refine (works11_k K8).mono ?_
      rintro e w9 ⟨rfl, Kl⟩
      go_wp2
      go_ret
      exact ⟨rfl, Kl⟩

set_option maxRecDepth 100000 in
theorem lifted (os : Os) (started : os.Started) (H : Type) (enc : TypeId × Value → H) :
    ReturnsInHanded {} Try.checked os 8 .any (Rows.recFreshSpec.pre6 enc Try.prog Try.f8 Rows.recFreshRow.domain false) (Rows.recFreshSpec.post enc Try.prog Try.f8 false true false false) := by
  refine lift_new (C := Try.checked) (s := Rows.recFreshSpec) (tb := 4) own started (by kernel_rfl) Try.func8
    (ChangeSpec.witness6 (enc := enc) (C := Try.checked) false ⟨#[], #[.int .i64 0, .slice none 0 0, .slice none 0 0], []⟩ 8 (by kernel_rfl) (by kernel_rfl) (by kernel_rfl) (by kernel_rfl))
    rfl (by kernel_rfl) Try.underlying4 ?_ laidOut (of_decide_eq_true (by kernel_rfl)) ?_
  · intro ds hd
    match ds, hd with
    | [d0, d1, d2], _ => exact ⟨rfl, rfl, rfl⟩
  · intro W base args ds hA
    have hA : Args enc Try.prog W base Try.f8.params.toList args.toList ds := hA
    rw [Try.params8] at hA
    obtain ⟨v0, vs0, d0, ds0, p0, hargs, rfl, a0, hA⟩ := hA.cons_
    obtain ⟨v1, vs1, d1, ds1, p1, rfl, rfl, a1, hA⟩ := hA.cons_
    obtain ⟨v2, vs2, d2, ds2, p2, rfl, rfl, a2, hA⟩ := hA.cons_
    obtain ⟨rfl, rfl⟩ := hA.nil_
    obtain rfl : args = #[v0, v1, v2] := by cases args; simp_all
    obtain ⟨x0, rfl, w0⟩ := a0.int_ Try.underlying3
    obtain ⟨A1, n1, c1, l1, rfl, b1⟩ := a1.changes_
    obtain ⟨A2, n2, c2, l2, b2⟩ := a2.bytes_ Try.underlying23 Try.underlying5 (by kernel_rfl) (by kernel_rfl)
    obtain rfl := b2.val
    exact walk x0 A1 n1 c1 l1 A2 n2 c2 l2 W (i64_bounds w0) b1 b2

theorem over : Rows.recFreshRow.holds Try.pinned (OpenSpec.ofChange Rows.recFreshSpec) :=
  OpenClaim.holds_of_wide 8 Try.f8 rfl rfl rfl rfl rfl rfl rfl ⟨rfl, rfl, rfl, rfl, rfl⟩ rfl rfl rfl rfl rfl (by kernel_rfl) Try.func8 (by kernel_rfl)
    (of_decide_eq_true (by kernel_rfl)) (by unfold Func.isWrapper; first | (rw [if_pos (by decide +kernel)]; kernel_rfl) | (rw [if_neg (by decide +kernel)]; exact ⟨rfl, rfl⟩))
    (fun os started H enc _ => lifted os started H enc)

theorem proved : Rows.RecFreshSaid := over
end Go.Proofs.Ytlbbhfapmmcehaa.recFresh
