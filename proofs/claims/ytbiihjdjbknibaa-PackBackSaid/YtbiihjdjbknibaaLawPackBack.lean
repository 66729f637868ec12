/-
  PackBack: what the pages say, one behind the other, are the facts; there are no more pages than facts; for every size and list of facts.
-/
import Derived.Test.YtbiihjdjbknibaaBg
namespace Go.Proofs.Ytbiihjdjbknibaa.packBack
open Go.ChangeShapes Go.WideShapes Go.ChangeAt Go.RowKit

theorem own : ownKnob Try.prog.godebug = none := by kernel_rfl
theorem laidOut : laidOutB Try.prog = true := by kernel_rfl

theorem own_nil {w : World} {B : Nat} {A : Option Addr} {c : Nat} {l : List Nat} (h : OwnB w 5 B A c l) : A = none → c = 0 ∧ l.length = 0 := by
  rcases h.2 with ⟨_, e1, e2⟩ | ⟨g, sp, e1, _⟩
  · exact fun _ => ⟨e1, by rw [e2]; rfl⟩
  · intro h; rw [h] at e1; cases e1
theorem pre_ord {ps : List (List FT)} (h : ordF ps.flatten = true) (j : Nat) : ordF (ps.take j).flatten = true := by
  have e : ps.flatten = (ps.take j).flatten ++ (ps.drop j).flatten := by rw [← List.flatten_append, List.take_append_drop]
  rw [e] at h
  exact (ordF_append.1 h).1

set_option maxRecDepth 100000 in
set_option maxHeartbeats 6400000 in
theorem walk (x0 : Int) (A : Option Addr) (n c : Nat) (es : List FE) (w : World)
    (_b0 : -9223372036854775808 ≤ x0 ∧ x0 ≤ 9223372036854775807) (b1 : FsIn w A n c es) :
    Calls Try.prog 4 #[.int .i64 x0, .slice A n c] w (True1 w) := by
  have h64 : n * 64 ≤ 140737488355328 := by have := b1.2.2.2.2.1; omega
  have H64 := Lib.hid h64
  have hnm : n ≤ 2199023255552 := by omega
  have HL : Hid ((fts es).length = n) := by rw [Hid, fts_lenE, b1.1.len]
  have H := Lib.hid b1.1
  have C1 := Lib.hid (pPages_any x0 A n c es w b1.1 h64 b1.2.2.1)
  have hpb : (pgL x0 (fts es)).length ≤ n := by
    rw [pgL_len]
    refine Nat.le_trans paP_len ?_
    rw [HL.out]
    exact Nat.le_refl _
  clear b1 h64
  go_enter Try.func4, Try.ntmps4
  go_wp2_with fail
  refine C1.out.mono ?_
  rintro e w1 ⟨A1, c1, g1, rfl, e1, o1, _, k1⟩
  have G1 := Lib.hid (GOwn.in_ pr_page o1 e1)
  have L1 : Hid (g1.length = (pgL x0 (fts es)).length) := by rw [Hid, ← e1]; unfold gls; rw [List.length_map]
  have K1 := Lib.hid k1
  clear e1 o1 k1 C1
  rw [L1.out]
  clear L1
  by_cases he : paE x0 (fts es) = 0
  · have HE := Lib.hid he
    have HO := Lib.hid (paE_ok he).2.1
    rw [he]
    clear he
    have HPN : Hid ((pgL x0 (fts es)).length = (paP x0 (fts es)).length) := pgL_len _ _
    generalize hpn : (pgL x0 (fts es)).length = pn at *
    clear hpn
    have RA := fun (A' : Option Addr) (n' c' : Nat) (al : List FE) (B' : Option Addr) (m' d' : Nat) (cs : List CE) (u : World) (h : FIn u A' n' al) (hn : n' ≤ maxLen) (hc : CIn u B' m' cs) (hb : (n' + m') * 64 ≤ 140737488355328) => Lib.hid (rapply_any A' n' c' al B' m' d' cs u h hn hc hb)
    go_wp2_with fail
    go_loopw [7, 8] (fun o i wr => ∃ (j : Nat) (aA : Option Addr) (am ac : Nat) (ae : List FE), j ≤ pn ∧ i = .int .i64 j ∧ o = .slice aA am ac ∧ Hid (ae.length = am) ∧ Hid (fts ae = ((paP x0 (fts es)).take j).flatten) ∧ Hid (FIn wr aA am ae) ∧ Hid (New w1 wr)) (fun _ i _ => pn - (intOf i).toNat)
    case atStart => exact ⟨0, none, 0, 0, [], Nat.zero_le _, rfl, rfl, rfl, rfl, FIn.nil _ _, Kept.refl _ _⟩
    case round =>
      obtain ⟨j, aA, am, ac, ae, hj, rfl, rfl, HAM, HAF, HAI, HN⟩ := hrel
      by_cases hlt : j < pn
      · obtain ⟨p, hp⟩ : ∃ p, (paP x0 (fts es))[j]? = some p := ⟨_, List.getElem?_eq_getElem (by rw [← HPN.out]; exact hlt)⟩
        obtain ⟨p0, pm, ps⟩ := paP_part HE.out (List.mem_of_getElem? hp)
        obtain ⟨N, hz, hN1, hN2, ht, hpl, hbl, hpu, hpe, hlen, q1, q2, q3⟩ := part_page (paE_ok HE.out).1 p0 pm ps
        obtain ⟨f1, f2, f3⟩ := flat_at hp
        rw [paP_flat HE.out, HL.out] at f3
        obtain ⟨gb1, gb2⟩ := get_body ht
        have hbl2 := tl_body ht
        obtain ⟨ga, X, d3, eA, x0', b1, hc1, hc2⟩ := G1.out _ HN.out j _ (pgL_at hp)
        have hln : (puL x0 (p.map toC)).length = N := by rw [hpu]; exact hlen
        have HAP : Hid (fts ae ++ p = ((paP x0 (fts es)).take (j + 1)).flatten) := by rw [Hid, f2, HAF.out]
        have HORD : Hid (ordF (fts ae ++ p) = true) := by
          rw [Hid, HAP.out]
          refine pre_ord ?_ _
          rw [paP_flat HE.out]; exact HO.out
        have HLE3 : am + p.length ≤ n := by
          have := congrArg List.length HAF.out
          rw [fts_lenE, HAM.out] at this
          omega
        have hp1 : 1 ≤ p.length := by cases p with | nil => exact absurd rfl p0 | cons a b => simp
        rw [hln] at hc1 hc2 b1 x0'
        have hdx : (((N : Nat) : Int) != x0) = false := by rw [hz]; simp
        have hcx : d3 ≤ 9223372036854775807 := by
          rcases hc2 with h | h
          · omega
          · exact h
        have T1 := Lib.hid b1
        have Q1 := Lib.hid q1
        have Q2 := Lib.hid q2
        have Q3 := Lib.hid q3
        have GB1 := Lib.hid gb1
        have GB2 := Lib.hid gb2
        have HR := HN.out
        clear p0 pm ps hz ht hpe hlen hbl q1 q2 q3 f1 f2 f3 gb1 gb2 b1 hp hc2 hpu hln
        generalize puL x0 (p.map toC) = pg at *
        generalize rbK (p.map toC) (p.map toC).length = bd at *
        subst eA
        have s1 : (0 : Int) ≤ (j : Int) := by omega
        have s3 : (j : Int) < (pn : Int) := by omega
        go_wp2_with fail
        refine (sGet_any X N d3 pg _ T1.out hc1 hcx).mono ?_
        rintro e w2 ⟨A2, c2, rfl, o2, k2⟩
        rw [Q1.out, Q2.out, Q3.out]
        have o2 : OwnB w2 5 wr.heap.size A2 c2 bd := by rw [Q3.out] at o2; exact o2
        have N2 := Lib.hid (HN.out.new k2)
        have AI2 := Lib.hid (HAI.out.new k2)
        have y0 := k2.cell x0' id
        have CG := Lib.hid (recGet_any A2 bd.length c2 bd w2 o2.bts (by omega) (own_nil o2))
        clear o2 k2 T1 HN HAI Q1 Q2 Q3 x0'
        go_wp2_with fail
        refine CG.out.mono ?_
        rintro e w4 ⟨A4, c4, es4, rfl, e4, o4, k4⟩
        rw [GB1.out]
        have hes : Hid (cts es4 = p.map toC) := by rw [Hid, e4, GB2.out]
        have hl4 : es4.length = p.length := by
          have := congrArg List.length hes.out
          rwa [cts_lenE, List.length_map] at this
        have I4 : Hid (CIn w4 A4 es4.length es4) := o4.in_
        have N4 := Lib.hid (N2.out.new k4)
        have AI4 := Lib.hid (AI2.out.new k4)
        have z0 := k4.cell y0 id
        rw [hl4] at I4 ⊢
        clear e4 o4 k4 N2 AI2 CG GB1 GB2 y0 hl4
        have RC := RA aA am ac ae A4 p.length c4 es4 w4 AI4.out (by unfold maxLen; omega) I4.out (by have := H64.out; exact Nat.le_trans (Nat.mul_le_mul_right 64 HLE3) this)
        rw [if_pos (ordF_append.1 HORD.out).1, hes.out, ap_part HORD.out, HAP.out] at RC
        clear RA AI4 I4 hes HORD HAP HAF
        generalize hpn2 : p.length = pl2 at *
        have dz : ((pl2 : Int) == 0) = false := beq_eq_false_iff_ne.2 (by omega)
        clear hpn2
        go_wp2_with fail
        refine RC.out.mono ?_
        rintro e w5 ⟨A5, c5, es5, rfl, i5, e5, k5, _, _⟩
        have N5 := Lib.hid (N4.out.new k5)
        have AI5 := Lib.hid i5
        have AF5 := Lib.hid e5
        clear k5 i5 e5 N4 RC z0
        go_wp2
        go_roundw
        case rel => exact ⟨j + 1, A5, es5.length, c5, es5, by omega, by go_num, rfl, rfl, AF5, AI5, N5⟩
        case measure => simp [intOf]; omega
      · obtain rfl : j = pn := by omega
        have HEQ : fts ae = fts es := by
          have := HAF.out
          rwa [List.take_of_length_le (by rw [← HPN.out]; exact Nat.le_refl _), paP_flat HE.out] at this
        have ham : am ≤ maxLen := by
          have h1 := congrArg List.length HEQ
          rw [fts_lenE, HAM.out, HL.out] at h1
          unfold maxLen; omega
        have CF := Lib.hid (facts0_any aA A am n ac c ae es wr HAI.out ((H.out.new K1.out).new HN.out) ham)
        have d1 : decide (j ≤ n) = true := decide_eq_true hpb
        have KK := Lib.hid (K1.out.new HN.out)
        rw [decide_eq_true HEQ] at CF
        clear HAI HAF HAM HEQ HN K1 G1 RA
        go_wp2_with fail
        refine CF.out.mono ?_
        rintro e w2 ⟨rfl, k2⟩
        have KE := works13_k (KK.out.new k2)
        clear CF KK k2
        go_wp2_with fail
        refine KE.mono ?_
        rintro e w5 ⟨rfl, k5⟩
        have K5 := Lib.hid k5
        clear k5 KE
        go_wp2
        go_ret
        exact ⟨rfl, K5.out⟩
  · have KE := works13_k K1.out
    have d0 : (paE x0 (fts es) == 0) = false := beq_eq_false_iff_ne.2 he
    have h0 : (pgL x0 (fts es)).length = 0 := by rw [pgL_len, paP_none he]; rfl
    rw [h0]
    clear G1 HL he h0 hpb
    generalize paE x0 (fts es) = pe at *
    go_wp2_with fail
    refine KE.mono ?_
    rintro e w5 ⟨rfl, k5⟩
    have K5 := Lib.hid k5
    clear k5 KE
    go_wp2
    go_ret
    exact ⟨rfl, K5.out⟩

set_option maxRecDepth 100000 in
theorem lifted (os : Os) (started : os.Started) (H : Type) (enc : TypeId × Value → H) :
    ReturnsInHanded {} Try.checked os 4 .any (Rows.packBackSpec.pre6 enc Try.prog Try.f4 Rows.packBackRow.domain false) (Rows.packBackSpec.post enc Try.prog Try.f4 false true false false) := by
  refine lift_new (C := Try.checked) (s := Rows.packBackSpec) (tb := 4) own started (by kernel_rfl) Try.func4
    (ChangeSpec.witness6 (enc := enc) (C := Try.checked) false ⟨#[], #[.int .i64 0, .slice none 0 0], []⟩ 8 (by kernel_rfl) (by kernel_rfl) (by kernel_rfl) (by kernel_rfl))
    rfl (by kernel_rfl) Try.underlying4 ?_ laidOut (of_decide_eq_true (by kernel_rfl)) ?_
  · intro ds hd
    match ds, hd with
    | [d0, d1], _ => exact ⟨rfl, rfl, rfl⟩
  · intro W base args ds hA
    have hA : Args enc Try.prog W base Try.f4.params.toList args.toList ds := hA
    rw [Try.params4] at hA
    obtain ⟨v0, vs0, d0, ds0, p0, hargs, rfl, a0, hA⟩ := hA.cons_
    obtain ⟨v1, vs1, d1, ds1, p1, rfl, rfl, a1, hA⟩ := hA.cons_
    obtain ⟨rfl, rfl⟩ := hA.nil_
    obtain rfl : args = #[v0, v1] := by cases args; simp_all
    obtain ⟨x0, rfl, w0⟩ := a0.int_ Try.underlying3
    obtain ⟨A1, n1, c1, l1, rfl, b1⟩ := a1.facts_
    exact walk x0 A1 n1 c1 l1 W (i64_bounds w0) b1

theorem over : Rows.packBackRow.holds Try.pinned (OpenSpec.ofChange Rows.packBackSpec) :=
  OpenClaim.holds_of_wide 4 Try.f4 rfl rfl rfl rfl rfl rfl rfl ⟨rfl, rfl, rfl, rfl, rfl⟩ rfl rfl rfl rfl rfl (by kernel_rfl) Try.func4 (by kernel_rfl)
    (of_decide_eq_true (by kernel_rfl)) (by unfold Func.isWrapper; first | (rw [if_pos (by decide +kernel)]; kernel_rfl) | (rw [if_neg (by decide +kernel)]; exact ⟨rfl, rfl⟩))
    (fun os started H enc _ => lifted os started H enc)

theorem proved : Rows.PackBackSaid := over
end Go.Proofs.Ytbiihjdjbknibaa.packBack
