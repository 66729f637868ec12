/-
  SealTwice: a page that is torn twice, one behind the other, is a page only if it is the one that it was; for every size, kind, body and two masks.
-/
import Derived.Test.YtpcfffbkoddkpaaSk
namespace Go.Proofs.Ytpcfffbkoddkpaa.sealTwice
open Go.ChangeShapes Go.WideShapes Go.ChangeAt Go.RowKit

theorem own : ownKnob Try.prog.godebug = none := by kernel_rfl
theorem laidOut : laidOutB Try.prog = true := by kernel_rfl

set_option maxHeartbeats 1000000 in
theorem walk (x0 : Int) (x1 : Nat) (A2 : Option Addr) (n2 c2 : Nat) (l2 : List Nat) (A3 : Option Addr) (n3 c3 : Nat) (l3 : List Nat) (A4 : Option Addr) (n4 c4 : Nat) (l4 : List Nat) (w : World)
    (b0 : -9223372036854775808 ≤ x0 ∧ x0 ≤ 9223372036854775807) (b1 : x1 < 256) (b2 : IsB w (.slice A2 n2 c2) A2 n2 c2 l2) (b3 : IsB w (.slice A3 n3 c3) A3 n3 c3 l3) (b4 : IsB w (.slice A4 n4 c4) A4 n4 c4 l4) :
    Calls Try.prog 8 #[.int .i64 x0, .int .u8 x1, .slice A2 n2 c2, .slice A3 n3 c3, .slice A4 n4 c4] w (True1 w) := by
  have h2 : n2 ≤ 140737488351232 := by have := b2.le; have := b2.cap; omega
  have h3 : n3 ≤ 140737488351232 := by have := b3.le; have := b3.cap; omega
  have H2 := Lib.hid b2.bts
  have H3 := Lib.hid b3.bts
  have h4 : n4 ≤ 140737488351232 := by have := b4.le; have := b4.cap; omega
  have H4 := Lib.hid b4.bts
  have HB4 := Lib.hid b4.bts.2.1
  have HL4 := Lib.hid b4.bts.1
  have HB2 := Lib.hid b2.bts.2.1
  have HB3 := Lib.hid b3.bts.2.1
  have HL3 := Lib.hid b3.bts.1
  have hl2 := b2.bts.1
  have K0 : Hid (New w w) := Kept.refl _ _
  clear b2 b3 b4
  by_cases hp : sPutE x0 x1 l2 = 0
  · obtain ⟨N, rfl, hpg, hkd, hlen, hpp⟩ := put_yes hp
    have hpl := page_length N x1 l2 hlen
    have HPB := Lib.hid (page_bytes N x1 l2 b1 HB2.out)
    have hN : N ≤ 256 := by unfold isPg at hpg; omega
    have hN1 : 128 ≤ N := by unfold isPg at hpg; omega
    have HG := Lib.hid (get_page N x1 l2 hpg hkd hlen)
    have HT := Lib.hid (fun q hq hu hne => get_torn q N x1 l2 hpg hkd hlen hq HB2.out hu hne)
    generalize page N x1 l2 = p at hpp hpl HPB HG HT
    have PP := Lib.hid (And.intro hpp hp)
    have PL := Lib.hid hpl
    clear hpp hp hpl hpg hkd hlen hl2
    go_enter Try.func8, Try.ntmps8
    go_wp2_with fail
    refine (sPut_k (N : Int) x1 A2 n2 c2 l2 K0 H2 h2 p 0 PP.out N PL.out).mono ?_
    rintro e w1 ⟨A1, c1, rfl, P1, rfl, N1, K1⟩
    have T1 : Hid (Bts w1 A1 c1 p) := by have := P1.out.bts; rw [PL.out] at this; exact this
    clear P1 N1 K0
    by_cases hm0 : n3 = 0
    · subst hm0
      go_wp2_with fail
      refine (works_k K1).mono ?_
      rintro e w9 ⟨rfl, Kl⟩
      go_wp2
      go_ret
      exact ⟨rfl, Kl⟩
    · have hm1 : 0 < n3 := by omega
      by_cases hm4 : n4 = 0
      · subst hm4
        have e3 : ((n3 : Int) == 0) = false := beq_eq_false_iff_ne.2 (by omega)
        go_wp2_with fail
        refine (works_k K1).mono ?_
        rintro e w9 ⟨rfl, Kl⟩
        go_wp2
        go_ret
        exact ⟨rfl, Kl⟩
      have hm4' : 0 < n4 := by omega
      have e3 : ((n3 : Int) == 0) = false := beq_eq_false_iff_ne.2 (by omega)
      have e4 : ((n4 : Int) == 0) = false := beq_eq_false_iff_ne.2 (by omega)
      go_wp2_with fail
      refine (copy_k A1 c1 c1 p K1 T1 (by omega) (by omega)).mono ?_
      rintro e w2 ⟨g, cq, sp, rfl, V2, G2, N2, K2, hcq, hcm⟩
      have T2 : Hid (Bts w2 A1 c1 p) := T1.out.new N2.out
      have Q2 : Hid (∀ a, A1 = some a → ¬ a.block = g) := by
        rintro a rfl
        obtain ⟨gg, oo, ee, hc⟩ := T1.out.2.2 (by omega)
        cases ee
        have hp0 : 0 < p.length := by rw [PL.out]; omega
        have := World.block_lt_of_cell? _ _ (hc 0 p[0] (List.getElem?_eq_getElem hp0))
        have h4 := G2.out
        simp at this ⊢
        omega
      have G2' : Hid (w.heap.size ≤ g) := Nat.le_trans K1.out.size G2.out
      clear N2 K1 T1 G2
      go_wp2
      go_loopw [14] (fun i wr => ∃ k : Nat, k ≤ c1 ∧ i = .int .i64 k ∧ Hid (Blk wr g 5 ((orUpto l3 p k).map byt ++ sp)) ∧ Hid (New w wr) ∧ Hid (Bts wr A1 c1 p)) (fun i _ => c1 - (intOf i).toNat)
      case atStart => exact ⟨0, Nat.zero_le _, rfl, by rw [orUpto_zero]; exact V2, K2, T2⟩
      case round =>
        obtain ⟨k, hk, rfl, VB, VK, VT⟩ := hrel
        clear V2 K2 T2
        by_cases hlt : k < c1
        · have hkp : k < p.length := by rw [PL.out]; exact hlt
          obtain ⟨x, hx⟩ : ∃ x, p[k]? = some x := ⟨_, List.getElem?_eq_getElem hkp⟩
          have hxb : x < 256 := HPB.out x (List.mem_of_getElem? hx)
          have hcell : wr.cell? ⟨g, k, none⟩ = some (.int .u8 (x : Int)) := by
            rw [VB.out.cell, List.getElem?_append_left (by rw [List.length_map, orUpto_length _ _ _ (by omega)]; exact hkp), List.getElem?_map, orUpto_get _ _ _ _ hx]
            rfl
          have hfree := VB.out.free k
          obtain ⟨r, hr⟩ : ∃ r, r = k % n3 := ⟨_, rfl⟩
          have hml : r < n3 := by rw [hr]; exact Nat.mod_lt _ hm1
          obtain ⟨g3, o3, y, rfl, hy, hyb, hc3⟩ := (H3.out.new VK.out).at_ (k := r) hml
          have hmod : ((k : Int) % (n3 : Int)) = (r : Int) := by rw [hr]; omega
          have HR := Lib.hid hr
          clear hr
          have HX := Lib.hid hx
          have HY := Lib.hid hy
          have hor := u8_or_nat x y hxb hyb
          clear hx hy
          go_wp2
          go_region
          all_goals go_wp2
          all_goals go_roundw
          case rel =>
            refine ⟨k + 1, by omega, by go_num, ?_, (VK.out.setCell (p := ⟨g, k, none⟩) (fun h => by have := G2'.out; simp at h; omega) _).drew, (VT.out.kept ((Kept.set1 wr g k (.int .u8 ((x ||| y : Nat) : Int)))) Q2.out).drew⟩
            have hb1 := (VB.out.put k (.int .u8 ((x ||| y : Nat) : Int))).drew
            have hyd : l3.getD (k % l3.length) 0 = y := by rw [HL3.out, ← HR.out, List.getD_eq_getElem?_getD, HY.out]; rfl
            have hst := orUpto_step l3 p k x HX.out
            rw [hyd] at hst
            rw [List.set_append_left _ _ (by rw [List.length_map, orUpto_length _ _ _ (by omega)]; rw [PL.out]; exact hlt), set_any _ k (x ||| y) (.int .u8 ((x ||| y : Nat) : Int)) rfl, hst] at hb1
            exact hb1
          case measure => simp [intOf]; omega
        · obtain rfl : k = c1 := by omega
          have hq := orUpto_all l3 p k PL.out
          have HQB := Lib.hid (orAll_bytes l3 p HB3.out HPB.out)
          have HQU := Lib.hid (orAll_under l3 p HB3.out HPB.out)
          have HQL := Lib.hid ((orAll_length l3 p).trans PL.out)
          have VQ : Hid (Blk wr g 5 ((orAll l3 p).map byt ++ sp)) := by rw [← hq]; exact VB
          clear VB hq
          generalize orAll l3 p = q at *
          have TQ : Hid (Bts wr (some ⟨g, 0, none⟩) k q) := by simpa [Hid] using Bts.of_blk (off := 0) VQ.out HQB.out HQL.out
          clear VQ hlt hk hcm
          go_wp2_with fail
          refine (copy_k (some ⟨g, 0, none⟩) k cq q VK TQ (by omega) (by omega)).mono ?_
          rintro e w5 ⟨g5, cr, sr, rfl, V5, G5, N5, K5, hcr, hcrm⟩
          have T5 : Hid (Bts w5 A1 k p) := VT.out.new N5.out
          have Q5 : Hid (∀ a, A1 = some a → ¬ a.block = g5) := by
            rintro a rfl
            obtain ⟨gg, oo, ee, hc⟩ := VT.out.2.2 (by omega)
            cases ee
            have hp0 : 0 < p.length := by rw [PL.out]; omega
            have := World.block_lt_of_cell? _ _ (hc 0 p[0] (List.getElem?_eq_getElem hp0))
            have h6 := G5.out
            simp at this ⊢
            omega
          have G5' : Hid (w.heap.size ≤ g5) := Nat.le_trans VK.out.size G5.out
          clear N5 VK VT TQ G5 Q2 G2'
          go_wp2
          go_loopw [16] (fun i wr => ∃ j : Nat, j ≤ k ∧ i = .int .i64 j ∧ Hid (Blk wr g5 5 ((orUpto l4 q j).map byt ++ sr)) ∧ Hid (New w wr) ∧ Hid (Bts wr A1 k p)) (fun i _ => k - (intOf i).toNat)
          case atStart => exact ⟨0, Nat.zero_le _, rfl, by rw [orUpto_zero]; exact V5, K5, T5⟩
          case round =>
            obtain ⟨j, hj, rfl, VB, VK, VT⟩ := hrel
            clear V5 K5 T5
            by_cases hlt : j < k
            · have hkp : j < q.length := by rw [HQL.out]; exact hlt
              obtain ⟨x, hx⟩ : ∃ x, q[j]? = some x := ⟨_, List.getElem?_eq_getElem hkp⟩
              have hxb : x < 256 := HQB.out x (List.mem_of_getElem? hx)
              have hcell : wr.cell? ⟨g5, j, none⟩ = some (.int .u8 (x : Int)) := by
                rw [VB.out.cell, List.getElem?_append_left (by rw [List.length_map, orUpto_length _ _ _ (by omega)]; exact hkp), List.getElem?_map, orUpto_get _ _ _ _ hx]
                rfl
              have hfree := VB.out.free j
              obtain ⟨r, hr⟩ : ∃ r, r = j % n4 := ⟨_, rfl⟩
              have hml : r < n4 := by rw [hr]; exact Nat.mod_lt _ hm4'
              obtain ⟨g4, o4, y, rfl, hy, hyb, hc4⟩ := (H4.out.new VK.out).at_ (k := r) hml
              have hmod : ((j : Int) % (n4 : Int)) = (r : Int) := by rw [hr]; omega
              have HR := Lib.hid hr
              clear hr
              have HX := Lib.hid hx
              have HY := Lib.hid hy
              have hor := u8_or_nat x y hxb hyb
              clear hx hy
              go_wp2
              go_region
              all_goals go_wp2
              all_goals go_roundw
              case rel =>
                refine ⟨j + 1, by omega, by go_num, ?_, (VK.out.setCell (p := ⟨g5, j, none⟩) (fun h => by have := G5'.out; simp at h; omega) _).drew, (VT.out.kept ((Kept.set1 wr g5 j (.int .u8 ((x ||| y : Nat) : Int)))) Q5.out).drew⟩
                have hb1 := (VB.out.put j (.int .u8 ((x ||| y : Nat) : Int))).drew
                have hyd : l4.getD (j % l4.length) 0 = y := by rw [HL4.out, ← HR.out, List.getD_eq_getElem?_getD, HY.out]; rfl
                have hst := orUpto_step l4 q j x HX.out
                rw [hyd] at hst
                rw [List.set_append_left _ _ (by rw [List.length_map, orUpto_length _ _ _ (by omega)]; rw [HQL.out]; exact hlt), set_any _ j (x ||| y) (.int .u8 ((x ||| y : Nat) : Int)) rfl, hst] at hb1
                exact hb1
              case measure => simp [intOf]; omega
            · obtain rfl : j = k := by omega
              have hq := orUpto_all l4 q j HQL.out
              have HRB := Lib.hid (orAll_bytes l4 q HB4.out HQB.out)
              have HRU := Lib.hid (unders_trans _ _ _ (orAll_bytes l4 q HB4.out HQB.out) HQB.out HPB.out (orAll_under l4 q HB4.out HQB.out) HQU.out)
              have HRL := Lib.hid ((orAll_length l4 q).trans HQL.out)
              have VQ : Hid (Blk wr g5 5 ((orAll l4 q).map byt ++ sr)) := by rw [← hq]; exact VB
              clear VB hq
              generalize orAll l4 q = r at *
              have TQ : Hid (Bts wr (some ⟨g5, 0, none⟩) j r) := by simpa [Hid] using Bts.of_blk (off := 0) VQ.out HRB.out HRL.out
              have hcm2 : cr ≤ 9223372036854775807 := by unfold maxLen at hcrm; omega
              clear VQ hlt hj hcrm
              by_cases hpq : p = r
              · subst hpq
                have GG := Lib.hid (And.intro HG.out.2.1 (And.intro HG.out.2.2 HG.out.1))
                generalize eM : l2.length = m2
                have EM := Lib.hid eM
                clear eM
                go_wp2_with fail
                refine (sGet_k _ j cr p VK TQ hcr hcm2 x1 l2 0 GG.out m2 EM.out).mono ?_
                rintro e w7 ⟨A7, c7, rfl, O7, N7, K7⟩
                have T7 : Hid (Bts w7 A1 j p) := VT.out.new N7.out
                have Q7 : Hid (Bts w7 (some ⟨g5, 0, none⟩) j p) := TQ.out.new N7.out
                clear O7 N7 VK VT TQ
                go_wp2_with fail
                refine (same_k A1 _ j j j cr p p K7 T7 Q7 (by omega) true (decide_eq_true rfl)).mono ?_
                rintro e w8 ⟨rfl, N8, K8⟩
                clear N8 K7 T7 Q7
                go_wp2_with fail
                refine (works_k K8).mono ?_
                rintro e w9 ⟨rfl, Kl⟩
                go_wp2
                go_ret
                exact ⟨rfl, Kl⟩
              · obtain ⟨hE, hX⟩ := HT.out r HRB.out HRU.out (fun h => hpq h.symm)
                have hE0 : sGetE r ≠ 0 := by rcases hE with h | ⟨h, _⟩ <;> rw [h] <;> decide
                have hK : sGetK r = 0 := by unfold sGetK; rw [if_neg hE0]
                have SN := Lib.hid (decide_eq_false hpq)
                have hne : (sGetE r == 0) = false := beq_eq_false_iff_ne.2 hE0
                generalize eE : sGetE r = E at hne
                have GG := Lib.hid (And.intro hK (And.intro hX eE))
                clear HT HG hE hE0 hK hX hpq eE
                go_wp2_with fail
                refine (sGet_k _ j cr r VK TQ hcr hcm2 0 [] E GG.out 0 rfl).mono ?_
                rintro e w7 ⟨A7, c7, rfl, O7, N7, K7⟩
                have T7 : Hid (Bts w7 A1 j p) := VT.out.new N7.out
                have Q7 : Hid (Bts w7 (some ⟨g5, 0, none⟩) j r) := TQ.out.new N7.out
                clear O7 N7 VK VT TQ
                go_wp2_with fail
                refine (same_k A1 _ j j j cr p r K7 T7 Q7 (by omega) false SN.out).mono ?_
                rintro e w8 ⟨rfl, N8, K8⟩
                clear N8 K7 T7 Q7
                go_wp2_with fail
                refine (works_k K8).mono ?_
                rintro e w9 ⟨rfl, Kl⟩
                go_wp2
                go_ret
                exact ⟨rfl, Kl⟩
  · have hne : (sPutE x0 x1 l2 == 0) = false := beq_eq_false_iff_ne.2 hp
    generalize eE : sPutE x0 x1 l2 = E at hne
    generalize eP : sPutL x0 x1 l2 = p
    have PP := Lib.hid (And.intro eP eE)
    generalize eQ : p.length = q
    have EQ := Lib.hid eQ
    have hne2 : (E != 0) = true := by simp only [bne, hne]; rfl
    clear eE eP eQ hp hl2
    go_enter Try.func8, Try.ntmps8
    go_wp2_with fail
    refine (sPut_k x0 x1 A2 n2 c2 l2 K0 H2 h2 p E PP.out q EQ.out).mono ?_
    rintro e w1 ⟨A1, c1, rfl, P1, rfl, N1, K1⟩
    clear P1 N1 K0
    go_wp2_with fail
    refine (works_k K1).mono ?_
    rintro e w9 ⟨rfl, Kl⟩
    go_wp2
    go_ret
    exact ⟨rfl, Kl⟩

set_option maxRecDepth 100000 in
theorem lifted (os : Os) (started : os.Started) (H : Type) (enc : TypeId × Value → H) :
    ReturnsInHanded {} Try.checked os 8 .any (Rows.sealTwiceSpec.pre6 enc Try.prog Try.f8 Rows.sealTwiceRow.domain false) (Rows.sealTwiceSpec.post enc Try.prog Try.f8 false true false false) := by
  refine lift_new (C := Try.checked) (s := Rows.sealTwiceSpec) (tb := 4) own started (by kernel_rfl) Try.func8
    (ChangeSpec.witness6 (enc := enc) (C := Try.checked) false ⟨#[], #[.int .i64 0, .int .u8 0, .slice none 0 0, .slice none 0 0, .slice none 0 0], []⟩ 8 (by kernel_rfl) (by kernel_rfl) (by kernel_rfl) (by kernel_rfl))
    rfl (by kernel_rfl) Try.underlying4 ?_ laidOut (of_decide_eq_true (by kernel_rfl)) ?_
  · intro ds hd
    match ds, hd with
    | [d0, d1, d2, d3, d4], _ => exact ⟨rfl, rfl, rfl⟩
  · intro W base args ds hA
    have hA : Args enc Try.prog W base Try.f8.params.toList args.toList ds := hA
    rw [Try.params8] at hA
    obtain ⟨v0, vs0, d0, ds0, p0, hargs, rfl, a0, hA⟩ := hA.cons_
    obtain ⟨v1, vs1, d1, ds1, p1, rfl, rfl, a1, hA⟩ := hA.cons_
    obtain ⟨v2, vs2, d2, ds2, p2, rfl, rfl, a2, hA⟩ := hA.cons_
    obtain ⟨v3, vs3, d3, ds3, p3, rfl, rfl, a3, hA⟩ := hA.cons_
    obtain ⟨v4, vs4, d4, ds4, p4, rfl, rfl, a4, hA⟩ := hA.cons_
    obtain ⟨rfl, rfl⟩ := hA.nil_
    obtain rfl : args = #[v0, v1, v2, v3, v4] := by cases args; simp_all
    obtain ⟨x0, rfl, w0⟩ := a0.int_ Try.underlying3
    obtain ⟨y1, rfl, w1⟩ := a1.int_ Try.underlying5
    obtain ⟨x1, rfl, h1⟩ := u8_nat w1
    obtain ⟨A2, n2, c2, l2, b2⟩ := a2.bytes_ Try.underlying22 Try.underlying5 (by kernel_rfl) (by kernel_rfl)
    obtain rfl := b2.val
    obtain ⟨A3, n3, c3, l3, b3⟩ := a3.bytes_ Try.underlying22 Try.underlying5 (by kernel_rfl) (by kernel_rfl)
    obtain rfl := b3.val
    obtain ⟨A4, n4, c4, l4, b4⟩ := a4.bytes_ Try.underlying22 Try.underlying5 (by kernel_rfl) (by kernel_rfl)
    obtain rfl := b4.val
    exact walk x0 x1 A2 n2 c2 l2 A3 n3 c3 l3 A4 n4 c4 l4 W (i64_bounds w0) h1 b2 b3 b4

theorem over : Rows.sealTwiceRow.holds Try.pinned (OpenSpec.ofChange Rows.sealTwiceSpec) :=
  OpenClaim.holds_of_wide 8 Try.f8 rfl rfl rfl rfl rfl rfl rfl ⟨rfl, rfl, rfl, rfl, rfl⟩ rfl rfl rfl rfl rfl (by kernel_rfl) Try.func8 (by kernel_rfl)
    (of_decide_eq_true (by kernel_rfl)) (by unfold Func.isWrapper; first | (rw [if_pos (by decide +kernel)]; kernel_rfl) | (rw [if_neg (by decide +kernel)]; exact ⟨rfl, rfl⟩))
    (fun os started H enc _ => lifted os started H enc)

theorem proved : Rows.SealTwiceSaid := over
end Go.Proofs.Ytpcfffbkoddkpaa.sealTwice
