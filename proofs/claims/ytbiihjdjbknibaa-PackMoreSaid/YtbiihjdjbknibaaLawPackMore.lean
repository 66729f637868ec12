/-
  PackMore: facts behind others change none of the pages ahead of the last one; for every size, list of facts and number.
-/
import Derived.Test.YtbiihjdjbknibaaBg
namespace Go.Proofs.Ytbiihjdjbknibaa.packMore
open Go.ChangeShapes Go.WideShapes Go.ChangeAt Go.RowKit

theorem own : ownKnob Try.prog.godebug = none := by kernel_rfl
theorem laidOut : laidOutB Try.prog = true := by kernel_rfl

set_option maxRecDepth 100000 in
set_option maxHeartbeats 6400000 in
theorem walk (x0 : Int) (A : Option Addr) (n c : Nat) (es : List FE) (y : Nat) (w : World)
    (_b0 : -9223372036854775808 ≤ x0 ∧ x0 ≤ 9223372036854775807) (b1 : FsIn w A n c es) (b2 : y < 256) :
    Calls Try.prog 6 #[.int .i64 x0, .slice A n c, .int .u8 (y : Nat)] w (True1 w) := by
  have h64 : n * 64 ≤ 140737488355328 := by have := b1.2.2.2.2.1; omega
  have hnm : n ≤ 2199023255552 := by omega
  have HL : Hid ((fts es).length = n) := by rw [Hid, fts_lenE, b1.1.len]
  have HNC := Lib.hid b1.2.2.1
  have H := Lib.hid b1.1
  have C1 := Lib.hid (pPages_any x0 A n c es w b1.1 h64 b1.2.2.1)
  have C2 := fun (k : Nat) (hk : k ≤ n) u hu => Lib.hid (pPages_any x0 A k k (es.take k) u ((b1.1.new hu).take hk) (by omega) (Nat.le_refl _))
  have HTK : Hid (∀ k, fts (es.take k) = (fts es).take k) := fun k => by unfold fts; rw [List.map_take]
  have HLE : Hid (∀ p ∈ pgL x0 (fts es), p.length ≤ maxLen) := fun p hp => by have := pgL_le hp; unfold maxLen; omega
  have hpb : (pgL x0 (fts es)).length ≤ 2199023255552 := by
    rw [pgL_len]
    refine Nat.le_trans paP_len ?_
    rw [fts_lenE, b1.1.len]
    omega
  clear b1 h64
  go_enter Try.func6, Try.ntmps6
  go_wp2_with fail
  refine C1.out.mono ?_
  rintro e w1 ⟨A1, c1, g1, rfl, e1, o1, _, k1⟩
  have G1 := Lib.hid (GOwn.in_ pr_page o1 e1)
  have L1 : Hid (g1.length = (pgL x0 (fts es)).length) := by rw [Hid, ← e1]; unfold gls; rw [List.length_map]
  have K1 := Lib.hid k1
  clear e1 o1 k1 C1
  rw [L1.out]
  clear L1
  by_cases he : paE x0 (fts es) = 0
  · rw [he]
    by_cases h0 : n = 0
    · subst h0
      have KE := works13_k K1.out
      clear G1 C2 HTK HLE HL
      generalize (pgL x0 (fts es)).length = pn at *
      go_wp2_with fail
      refine KE.mono ?_
      rintro e w5 ⟨rfl, k5⟩
      have K5 := Lib.hid k5
      clear k5 KE
      go_wp2
      go_ret
      exact ⟨rfl, K5.out⟩
    · obtain ⟨kk, hkk⟩ : ∃ kk, kk = y % n := ⟨_, rfl⟩
      have hmod : ((y : Int) % (n : Int)) = (kk : Int) := by rw [hkk]; omega
      have hkn : kk < n := by rw [hkk]; exact Nat.mod_lt _ (by omega)
      have d0 : ((n : Int) == 0) = false := beq_eq_false_iff_ne.2 (by omega)
      have CT := Lib.hid (C2 kk (by omega) w1 K1.out).out
      obtain ⟨m1, m2, m3⟩ := paP_more he kk (by rw [HL.out]; omega)
      have hpq : (pgL x0 ((fts es).take kk)).length ≤ (pgL x0 (fts es)).length := by rw [pgL_len, pgL_len]; exact m2
      have HSM : Hid (∀ j, j + 1 < (pgL x0 ((fts es).take kk)).length → (pgL x0 ((fts es).take kk))[j]? = (pgL x0 (fts es))[j]?) := fun j hj => by
        rw [pgL_len] at hj
        unfold pgL
        rw [List.getElem?_map, List.getElem?_map, m3 j hj]
      rw [HTK.out] at CT
      have HM1 := Lib.hid m1
      clear C2 HTK he m1 m2 m3 hkk
      have s1 : (0 : Int) ≤ (kk : Int) := by omega
      have s2 : (kk : Int) ≤ (c : Int) := by have := HNC.out; omega
      have s3 : (0 : Int) < (n : Int) := by omega
      go_wp2_with fail
      refine CT.out.mono ?_
      rintro e w2 ⟨A2, c2, g2, rfl, e2, o2, _, k2⟩
      have G2 := Lib.hid (GOwn.in_ pr_page o2 e2)
      have L2 : Hid (g2.length = (pgL x0 ((fts es).take kk)).length) := by rw [Hid, ← e2]; unfold gls; rw [List.length_map]
      have K2 := Lib.hid (K1.out.new k2)
      have G1 := Lib.hid (G1.out.new k2)
      rw [HM1.out, L2.out]
      clear e2 o2 k2 K1 CT L2 HM1
      generalize hpl : pgL x0 (fts es) = pl at *
      generalize hql : pgL x0 ((fts es).take kk) = ql at *
      clear hpl hql
      generalize hpn : pl.length = pn at *
      have HPN := Lib.hid hpn
      clear hpn
      generalize hqn : ql.length = qn at *
      have HQN := Lib.hid hqn
      clear hqn H
      have d1 : decide (pn < qn) = false := decide_eq_false (by omega)
      go_wp2_with fail
      go_loopw [12] (fun i wr => ∃ k : Nat, (k + 1 ≤ qn ∨ k = 0) ∧ i = .int .i64 k ∧ Hid (New w2 wr)) (fun i _ => qn - (intOf i).toNat)
      case atStart => exact ⟨0, .inr rfl, rfl, Kept.refl _ _⟩
      case round =>
        obtain ⟨k, hk, rfl, HN⟩ := hrel
        by_cases hlt : k + 1 < qn
        · obtain ⟨l, hl⟩ : ∃ l, ql[k]? = some l := ⟨_, List.getElem?_eq_getElem (by rw [HQN.out]; omega)⟩
          have hl2 : pl[k]? = some l := by rw [← HSM.out k hlt]; exact hl
          obtain ⟨ga, X, d3, eA, x0, b1, _⟩ := G1.out _ HN.out k l hl2
          obtain ⟨gb, Y, d4, eB, y0, b2, _⟩ := G2.out _ HN.out k l hl
          have hle := HLE.out l (List.mem_of_getElem? hl2)
          have HNr := HN.out
          subst eA eB
          have s4 : (0 : Int) ≤ (k : Int) := by omega
          have s5 : (k : Int) < (pn : Int) := by omega
          have s6 : (k : Int) < (qn : Int) := by omega
          have s7 : (k : Int) + 1 < (qn : Int) := by omega
          have q0 := fun d os => cell_regrown x0 d os
          have q1 := fun d os => cell_regrown y0 d os
          go_wp2_with fail
          have cS := Lib.hid (fun (d : Nat) (os : Array Obj) => Calls.regrown_of (d := d) (os := os) (same_new X Y l.length l.length d3 d4 l l true (decide_eq_true rfl) hle (Go.Sort.grow (redrawn wr d) os) (b1.new (new_regrown (Kept.refl _ _) d os)) (b2.new (new_regrown (Kept.refl _ _) d os))))
          clear x0 y0 b1 b2 hl hl2 hle
          generalize l.length = ln at *
          refine wp_region_quiet_below (by kernel_rfl) (by kernel_rfl) ?_
          repeat (quiet_step (first
            | (go_at_call 14; exact cS.out _ _)))
          refine wpQuiet_nil ?_
          intro _ hw'
          obtain ⟨⟨dq, osq⟩, hw''⟩ := hw'
          subst hw''
          have N9 : Hid (New w2 (Go.Sort.grow (redrawn wr dq) osq)) := new_regrown HNr dq osq
          clear cS q0 q1 HN HNr
          go_wp2
          go_roundw
          case rel => exact ⟨k + 1, .inl (by omega), by go_num, N9⟩
          case measure => simp [intOf]; omega
        · have KE := works13_k (wc := wr) (K2.out.new HN.out)
          have s7 : ¬ ((k : Int) + 1 < (qn : Int)) := by omega
          clear HN K2 G1 G2
          go_wp2_with fail
          refine KE.mono ?_
          rintro e w5 ⟨rfl, k5⟩
          have K5 := Lib.hid k5
          clear k5 KE
          go_wp2
          go_ret
          exact ⟨rfl, K5.out⟩
  · have KE := works13_k K1.out
    have d0 : (paE x0 (fts es) == 0) = false := beq_eq_false_iff_ne.2 he
    clear G1 C2 HTK HLE HL he
    generalize (pgL x0 (fts es)).length = pn at *
    generalize paE x0 (fts es) = pe at *
    go_wp2_with fail
    refine KE.mono ?_
    rintro e w5 ⟨rfl, k5⟩
    have K5 := Lib.hid k5
    clear k5 KE
    go_wp2
    go_ret
    exact ⟨rfl, K5.out⟩

set_option maxRecDepth 100000 in
theorem lifted (os : Os) (started : os.Started) (H : Type) (enc : TypeId × Value → H) :
    ReturnsInHanded {} Try.checked os 6 .any (Rows.packMoreSpec.pre6 enc Try.prog Try.f6 Rows.packMoreRow.domain false) (Rows.packMoreSpec.post enc Try.prog Try.f6 false true false false) := by
  refine lift_new (C := Try.checked) (s := Rows.packMoreSpec) (tb := 4) own started (by kernel_rfl) Try.func6
    (ChangeSpec.witness6 (enc := enc) (C := Try.checked) false ⟨#[], #[.int .i64 0, .slice none 0 0, .int .u8 0], []⟩ 8 (by kernel_rfl) (by kernel_rfl) (by kernel_rfl) (by kernel_rfl))
    rfl (by kernel_rfl) Try.underlying4 ?_ laidOut (of_decide_eq_true (by kernel_rfl)) ?_
  · intro ds hd
    match ds, hd with
    | [d0, d1, d2], _ => exact ⟨rfl, rfl, rfl⟩
  · intro W base args ds hA
    have hA : Args enc Try.prog W base Try.f6.params.toList args.toList ds := hA
    rw [Try.params6] at hA
    obtain ⟨v0, vs0, d0, ds0, p0, hargs, rfl, a0, hA⟩ := hA.cons_
    obtain ⟨v1, vs1, d1, ds1, p1, rfl, rfl, a1, hA⟩ := hA.cons_
    obtain ⟨v2, vs2, d2, ds2, p2, rfl, rfl, a2, hA⟩ := hA.cons_
    obtain ⟨rfl, rfl⟩ := hA.nil_
    obtain rfl : args = #[v0, v1, v2] := by cases args; simp_all
    obtain ⟨x0, rfl, w0⟩ := a0.int_ Try.underlying3
    obtain ⟨A1, n1, c1, l1, rfl, b1⟩ := a1.facts_
    obtain ⟨y2, rfl, w2⟩ := a2.int_ Try.underlying5
    obtain ⟨x2, rfl, h2⟩ := u8_nat w2
    exact walk x0 A1 n1 c1 l1 x2 W (i64_bounds w0) b1 h2

theorem over : Rows.packMoreRow.holds Try.pinned (OpenSpec.ofChange Rows.packMoreSpec) :=
  OpenClaim.holds_of_wide 6 Try.f6 rfl rfl rfl rfl rfl rfl rfl ⟨rfl, rfl, rfl, rfl, rfl⟩ rfl rfl rfl rfl rfl (by kernel_rfl) Try.func6 (by kernel_rfl)
    (of_decide_eq_true (by kernel_rfl)) (by unfold Func.isWrapper; first | (rw [if_pos (by decide +kernel)]; kernel_rfl) | (rw [if_neg (by decide +kernel)]; exact ⟨rfl, rfl⟩))
    (fun os started H enc _ => lifted os started H enc)

theorem proved : Rows.PackMoreSaid := over
end Go.Proofs.Ytbiihjdjbknibaa.packMore
