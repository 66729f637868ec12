/-
  PackFull: no page and the first fact of the next one fit into one; for every size and list of facts.
-/
import Derived.Test.YtbiihjdjbknibaaBg
namespace Go.Proofs.Ytbiihjdjbknibaa.packFull
open Go.ChangeShapes Go.WideShapes Go.ChangeAt Go.RowKit

theorem own : ownKnob Try.prog.godebug = none := by kernel_rfl
theorem laidOut : laidOutB Try.prog = true := by kernel_rfl

theorem own_nil {w : World} {B : Nat} {A : Option Addr} {c : Nat} {l : List Nat} (h : OwnB w 5 B A c l) : A = none → c = 0 ∧ l.length = 0 := by
  rcases h.2 with ⟨_, e1, e2⟩ | ⟨g, sp, e1, _⟩
  · exact fun _ => ⟨e1, by rw [e2]; rfl⟩
  · intro h; rw [h] at e1; cases e1
/-- The first fact of the next page. -/
theorem next_at {z : Int} {l : List FT} (h : paE z l = 0) {j : Nat} {p : List FT} (hp : (paP z l)[j]? = some p) (hj : j + 1 < (paP z l).length) :
    ∃ f, l[((paP z l).take (j + 1)).flatten.length]? = some f ∧ (z - 6).toNat < sumC p + costF f := by
  obtain ⟨q, hq⟩ : ∃ q, (paP z l)[j + 1]? = some q := ⟨_, List.getElem?_eq_getElem hj⟩
  obtain ⟨_, _, _, hc, e⟩ := paE_ok h
  cases q with
  | nil => exact absurd rfl (paP_part h (List.mem_of_getElem? hq)).1
  | cons f r =>
    obtain ⟨f1, _, _⟩ := flat_at hq
    rw [paP_flat h] at f1
    refine ⟨f, ?_, ?_⟩
    · have h1 : ((l.drop ((paP z l).take (j + 1)).flatten.length).take (f :: r).length)[0]? = some f := by rw [f1]; rfl
      rw [List.getElem?_take, if_pos (by simp), List.getElem?_drop] at h1
      simpa using h1
    · rw [e] at hp hq
      exact parts_full hc hp hq

set_option maxRecDepth 100000 in
set_option maxHeartbeats 6400000 in
theorem walk (x0 : Int) (A : Option Addr) (n c : Nat) (es : List FE) (w : World)
    (_b0 : -9223372036854775808 ≤ x0 ∧ x0 ≤ 9223372036854775807) (b1 : FsIn w A n c es) :
    Calls Try.prog 5 #[.int .i64 x0, .slice A n c] w (True1 w) := by
  have h64 : n * 64 ≤ 140737488355328 := by have := b1.2.2.2.2.1; omega
  have hnm : n ≤ 2199023255552 := by omega
  have HL : Hid ((fts es).length = n) := by rw [Hid, fts_lenE, b1.1.len]
  have H := Lib.hid b1.1
  have C1 := Lib.hid (pPages_any x0 A n c es w b1.1 h64 b1.2.2.1)
  have hpb : (pgL x0 (fts es)).length ≤ n := by
    rw [pgL_len]
    refine Nat.le_trans paP_len ?_
    rw [HL.out]
    exact Nat.le_refl _
  clear b1 h64
  go_enter Try.func5, Try.ntmps5
  go_wp2_with fail
  refine C1.out.mono ?_
  rintro e w1 ⟨A1, c1, g1, rfl, e1, o1, _, k1⟩
  have G1 := Lib.hid (GOwn.in_ pr_page o1 e1)
  have L1 : Hid (g1.length = (pgL x0 (fts es)).length) := by rw [Hid, ← e1]; unfold gls; rw [List.length_map]
  have K1 := Lib.hid k1
  clear e1 o1 k1 C1
  rw [L1.out]
  clear L1
  by_cases he : paE x0 (fts es) = 0
  · have HE := Lib.hid he
    rw [he]
    clear he
    have HPN : Hid ((pgL x0 (fts es)).length = (paP x0 (fts es)).length) := pgL_len _ _
    generalize hpn : (pgL x0 (fts es)).length = pn at *
    clear hpn
    go_wp2_with fail
    go_loopw [7, 8] (fun o i wr => ∃ (j : Nat), j ≤ pn ∧ i = .int .i64 j ∧ o = .int .i64 (((paP x0 (fts es)).take j).flatten.length : Nat) ∧ Hid (New w1 wr)) (fun _ i _ => pn - (intOf i).toNat)
    case atStart => exact ⟨0, Nat.zero_le _, rfl, rfl, Kept.refl _ _⟩
    case round =>
      obtain ⟨j, hj, rfl, rfl, HN⟩ := hrel
      by_cases hlt : j < pn
      · obtain ⟨p, hp⟩ : ∃ p, (paP x0 (fts es))[j]? = some p := ⟨_, List.getElem?_eq_getElem (by rw [← HPN.out]; exact hlt)⟩
        obtain ⟨p0, pm, ps⟩ := paP_part HE.out (List.mem_of_getElem? hp)
        obtain ⟨N, hz, hN1, hN2, ht, hpl, hbl, hpu, hpe, hlen, q1, q2, q3⟩ := part_page (paE_ok HE.out).1 p0 pm ps
        obtain ⟨f1, f2, f3⟩ := flat_at hp
        rw [paP_flat HE.out, HL.out] at f3
        obtain ⟨gb1, gb2⟩ := get_body ht
        have hbl2 := tl_body ht
        obtain ⟨ga, X, d3, eA, x0', b1, hc1, hc2⟩ := G1.out _ HN.out j _ (pgL_at hp)
        have hln : (puL x0 (p.map toC)).length = N := by rw [hpu]; exact hlen
        have HF2 : Hid (((paP x0 (fts es)).take (j + 1)).flatten.length = ((paP x0 (fts es)).take j).flatten.length + p.length) := by rw [Hid, f2, List.length_append]
        have HNX : Hid (j + 1 < pn → ∃ x : FE, es[((paP x0 (fts es)).take (j + 1)).flatten.length]? = some x ∧ N < sumC p + costF x.f + 6) := fun hj1 => by
          obtain ⟨f, h1, h2⟩ := next_at HE.out hp (by rw [← HPN.out]; exact hj1)
          unfold fts at h1
          rw [List.getElem?_map] at h1
          cases hx : es[((paP x0 (fts es)).take (j + 1)).flatten.length]? with
          | none => unfold fts at hx; rw [hx] at h1; cases h1
          | some x =>
            unfold fts at hx
            rw [hx] at h1
            injection h1 with h1
            have h1 : x.f = f := h1
            subst h1
            exact ⟨x, rfl, by rw [hz] at h2; omega⟩
        rw [hln] at hc1 hc2 b1 x0'
        have hcx : d3 ≤ 9223372036854775807 := by
          rcases hc2 with h | h
          · omega
          · exact h
        have T1 := Lib.hid b1
        have Q1 := Lib.hid q1
        have Q2 := Lib.hid q2
        have Q3 := Lib.hid q3
        have GB1 := Lib.hid gb1
        have GB2 := Lib.hid gb2
        have HBL := Lib.hid hbl
        have HZ := Lib.hid hz
        clear p0 pm ps hz ht hpe hlen hbl q1 q2 q3 f1 f2 gb1 gb2 b1 hp hc2 hpu hln
        generalize puL x0 (p.map toC) = pg at *
        generalize rbK (p.map toC) (p.map toC).length = bd at *
        generalize hfr : ((paP x0 (fts es)).take j).flatten.length = fr at *
        clear hfr
        generalize hfr2 : ((paP x0 (fts es)).take (j + 1)).flatten.length = fr2 at *
        have HFR2 := Lib.hid hfr2
        clear hfr2
        subst eA
        have s1 : (0 : Int) ≤ (j : Int) := by omega
        have s3 : (j : Int) < (pn : Int) := by omega
        go_wp2_with fail
        refine (sGet_any X N d3 pg _ T1.out hc1 hcx).mono ?_
        rintro e w2 ⟨A2, c2, rfl, o2, k2⟩
        rw [Q1.out, Q2.out, Q3.out]
        have o2 : OwnB w2 5 wr.heap.size A2 c2 bd := by rw [Q3.out] at o2; exact o2
        have N2 := Lib.hid (HN.out.new k2)
        have CG := Lib.hid (recGet_any A2 bd.length c2 bd w2 o2.bts (by omega) (own_nil o2))
        clear o2 k2 T1 HN Q1 Q2 Q3 x0'
        go_wp2_with fail
        refine CG.out.mono ?_
        rintro e w4 ⟨A4, c4, es4, rfl, e4, o4, k4⟩
        rw [GB1.out]
        have hl4 : es4.length = p.length := by
          have := congrArg List.length (e4.trans GB2.out)
          rwa [cts_lenE, List.length_map] at this
        have N4 := Lib.hid (N2.out.new k4)
        rw [hl4]
        clear e4 o4 k4 N2 CG GB1 GB2 hl4
        generalize hpn2 : p.length = pl2 at *
        clear hpn2
        generalize hbd : bd.length = bl at *
        clear hbd
        generalize hsp : sumC p = sp at *
        clear hsp
        have d1 : decide ((n : Int) < (fr : Int) + (pl2 : Int)) = false := decide_eq_false (by omega)
        have d2 : decide ((j : Int) + 1 < (pn : Int)) = decide (j + 1 < pn) := by
          by_cases h : j + 1 < pn
          · rw [decide_eq_true h, decide_eq_true (by omega)]
          · rw [decide_eq_false h, decide_eq_false (by omega)]
        by_cases hj1 : j + 1 < pn
        · obtain ⟨x, hx, hcost⟩ := HNX.out hj1
          have hat : fr2 < n := by
            have := (List.getElem?_eq_some_iff.1 hx).1
            have h2 := H.out.len
            omega
          obtain ⟨g, o, x', eA, hx', okx, y0, y1, y2, y3, y4⟩ := ((H.out.new K1.out).new N4.out).at_ (i := fr2) hat
          rw [hx] at hx'
          injection hx' with hx'
          subst hx'
          subst eA
          have CC : Hid (∀ u, Calls Try.prog 12 #[.agg #[.int .i64 x.f.k.i, .int .u8 (x.f.k.t : Nat), .string x.f.k.n, .int .i64 x.f.k.c, .slice x.A x.f.v.length x.c]] u (NewNum u (costF x.f : Nat))) := fun u => pcost_any x.f x.A x.c u okx.2.2.2 okx.2.2.1
          have hcb : costF x.f ≤ 140737489000000 := by
            cases hm : mayK x.f.k
            · rw [costF_no hm]; omega
            · have h3 := pkL_len x.f.k
              rw [(pk_yes hm).1] at h3
              have h4 := okx.2.2.1
              rw [costF_yes hm]; omega
          clear hx okx HNX
          obtain ⟨xf, xA, xc⟩ := x
          dsimp only at *
          generalize costF xf = cf at *
          obtain ⟨xk, xv⟩ := xf
          dsimp only at *
          generalize xv.length = vn at *
          have e2 := HF2.out
          have hz := HZ.out
          have hb := HBL.out
          subst hz
          have s5 : (fr : Int) + (pl2 : Int) = (fr2 : Int) := by omega
          have s6 : (0 : Int) ≤ (fr2 : Int) := by omega
          have s7 : (fr2 : Int) < (n : Int) := by omega
          have d3' : decide (n ≤ fr2) = false := decide_eq_false (by omega)
          have d4 : decide ((pl2 : Int) < 255) = true := decide_eq_true (by omega)
          have d5 : decide ((bl : Int) + (cf : Int) ≤ (N : Int) - 5) = false := decide_eq_false (by omega)
          have d6 : decide (j + 1 < pn) = true := decide_eq_true hj1
          rw [d6] at d2
          clear e2 hb
          go_wp2_with fail
          refine (CC.out _).mono ?_
          rintro e w5 ⟨rfl, k5⟩
          have N5 := Lib.hid (N4.out.new k5)
          clear k5 CC N4 y0 y1 y2 y3 y4
          go_wp2
          go_roundw
          case rel => exact ⟨j + 1, by omega, by go_num, by rw [HFR2.out], N5⟩
          case measure => simp [intOf]; omega
        · have d6 : decide (j + 1 < pn) = false := decide_eq_false hj1
          rw [d6] at d2
          have e2 := HF2.out
          have s5 : (fr : Int) + (pl2 : Int) = (fr2 : Int) := by omega
          clear e2 HNX
          go_wp2
          go_roundw
          case rel => exact ⟨j + 1, by omega, by go_num, by rw [HFR2.out], N4⟩
          case measure => simp [intOf]; omega
      · obtain rfl : j = pn := by omega
        have HEQ : ((paP x0 (fts es)).take j).flatten.length = n := by
          rw [List.take_of_length_le (by rw [← HPN.out]; exact Nat.le_refl _), paP_flat HE.out, HL.out]
        have KE := works13_k (K1.out.new HN.out)
        rw [HEQ]
        clear HEQ HN K1 G1
        go_wp2_with fail
        refine KE.mono ?_
        rintro e w5 ⟨rfl, k5⟩
        have K5 := Lib.hid k5
        clear k5 KE
        go_wp2
        go_ret
        exact ⟨rfl, K5.out⟩
  · have KE := works13_k K1.out
    have d0 : (paE x0 (fts es) == 0) = false := beq_eq_false_iff_ne.2 he
    clear G1 HL he hpb
    generalize (pgL x0 (fts es)).length = pn at *
    generalize paE x0 (fts es) = pe at *
    go_wp2_with fail
    refine KE.mono ?_
    rintro e w5 ⟨rfl, k5⟩
    have K5 := Lib.hid k5
    clear k5 KE
    go_wp2
    go_ret
    exact ⟨rfl, K5.out⟩

set_option maxRecDepth 100000 in
theorem lifted (os : Os) (started : os.Started) (H : Type) (enc : TypeId × Value → H) :
    ReturnsInHanded {} Try.checked os 5 .any (Rows.packFullSpec.pre6 enc Try.prog Try.f5 Rows.packFullRow.domain false) (Rows.packFullSpec.post enc Try.prog Try.f5 false true false false) := by
  refine lift_new (C := Try.checked) (s := Rows.packFullSpec) (tb := 4) own started (by kernel_rfl) Try.func5
    (ChangeSpec.witness6 (enc := enc) (C := Try.checked) false ⟨#[], #[.int .i64 0, .slice none 0 0], []⟩ 8 (by kernel_rfl) (by kernel_rfl) (by kernel_rfl) (by kernel_rfl))
    rfl (by kernel_rfl) Try.underlying4 ?_ laidOut (of_decide_eq_true (by kernel_rfl)) ?_
  · intro ds hd
    match ds, hd with
    | [d0, d1], _ => exact ⟨rfl, rfl, rfl⟩
  · intro W base args ds hA
    have hA : Args enc Try.prog W base Try.f5.params.toList args.toList ds := hA
    rw [Try.params5] at hA
    obtain ⟨v0, vs0, d0, ds0, p0, hargs, rfl, a0, hA⟩ := hA.cons_
    obtain ⟨v1, vs1, d1, ds1, p1, rfl, rfl, a1, hA⟩ := hA.cons_
    obtain ⟨rfl, rfl⟩ := hA.nil_
    obtain rfl : args = #[v0, v1] := by cases args; simp_all
    obtain ⟨x0, rfl, w0⟩ := a0.int_ Try.underlying3
    obtain ⟨A1, n1, c1, l1, rfl, b1⟩ := a1.facts_
    exact walk x0 A1 n1 c1 l1 W (i64_bounds w0) b1

theorem over : Rows.packFullRow.holds Try.pinned (OpenSpec.ofChange Rows.packFullSpec) :=
  OpenClaim.holds_of_wide 5 Try.f5 rfl rfl rfl rfl rfl rfl rfl ⟨rfl, rfl, rfl, rfl, rfl⟩ rfl rfl rfl rfl rfl (by kernel_rfl) Try.func5 (by kernel_rfl)
    (of_decide_eq_true (by kernel_rfl)) (by unfold Func.isWrapper; first | (rw [if_pos (by decide +kernel)]; kernel_rfl) | (rw [if_neg (by decide +kernel)]; exact ⟨rfl, rfl⟩))
    (fun os started H enc _ => lifted os started H enc)

theorem proved : Rows.PackFullSaid := over
end Go.Proofs.Ytbiihjdjbknibaa.packFull
