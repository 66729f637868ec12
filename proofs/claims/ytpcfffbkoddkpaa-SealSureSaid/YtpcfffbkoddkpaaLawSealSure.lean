/-
  SealSure: whatever bits of a page are 1 that were 0, it is blank or torn, never another page; for every size, kind, body and mask.
-/
import Derived.Test.YtpcfffbkoddkpaaSk
namespace Go.Proofs.Ytpcfffbkoddkpaa.sealSure
open Go.ChangeShapes Go.WideShapes Go.ChangeAt Go.RowKit

theorem own : ownKnob Try.prog.godebug = none := by kernel_rfl
theorem laidOut : laidOutB Try.prog = true := by kernel_rfl

set_option maxHeartbeats 1000000 in
theorem walk (x0 : Int) (x1 : Nat) (A2 : Option Addr) (n2 c2 : Nat) (l2 : List Nat) (A3 : Option Addr) (n3 c3 : Nat) (l3 : List Nat) (w : World)
    (b0 : -9223372036854775808 ≤ x0 ∧ x0 ≤ 9223372036854775807) (b1 : x1 < 256) (b2 : IsB w (.slice A2 n2 c2) A2 n2 c2 l2) (b3 : IsB w (.slice A3 n3 c3) A3 n3 c3 l3) :
    Calls Try.prog 7 #[.int .i64 x0, .int .u8 x1, .slice A2 n2 c2, .slice A3 n3 c3] w (True1 w) := by
  have h2 : n2 ≤ 140737488351232 := by have := b2.le; have := b2.cap; omega
  have h3 : n3 ≤ 140737488351232 := by have := b3.le; have := b3.cap; omega
  have H2 := Lib.hid b2.bts
  have H3 := Lib.hid b3.bts
  have HB2 := Lib.hid b2.bts.2.1
  have HB3 := Lib.hid b3.bts.2.1
  have HL3 := Lib.hid b3.bts.1
  have hl2 := b2.bts.1
  have K0 : Hid (New w w) := Kept.refl _ _
  clear b2 b3
  by_cases hp : sPutE x0 x1 l2 = 0
  · obtain ⟨N, rfl, hpg, hkd, hlen, hpp⟩ := put_yes hp
    have hpl := page_length N x1 l2 hlen
    have HPB := Lib.hid (page_bytes N x1 l2 b1 HB2.out)
    have hN : N ≤ 256 := by unfold isPg at hpg; omega
    have hN1 : 128 ≤ N := by unfold isPg at hpg; omega
    have HG := Lib.hid (get_page N x1 l2 hpg hkd hlen)
    have HT := Lib.hid (fun q hq hu hne => get_torn q N x1 l2 hpg hkd hlen hq HB2.out hu hne)
    generalize page N x1 l2 = p at hpp hpl HPB HG HT
    have PP := Lib.hid (And.intro hpp hp)
    have PL := Lib.hid hpl
    clear hpp hp hpl hpg hkd hlen hl2
    go_enter Try.func7, Try.ntmps7
    go_wp2_with fail
    refine (sPut_k (N : Int) x1 A2 n2 c2 l2 K0 H2 h2 p 0 PP.out N PL.out).mono ?_
    rintro e w1 ⟨A1, c1, rfl, P1, rfl, N1, K1⟩
    have T1 : Hid (Bts w1 A1 c1 p) := by have := P1.out.bts; rw [PL.out] at this; exact this
    clear P1 N1 K0
    by_cases hm0 : n3 = 0
    · subst hm0
      go_wp2_with fail
      refine (works_k K1).mono ?_
      rintro e w9 ⟨rfl, Kl⟩
      go_wp2
      go_ret
      exact ⟨rfl, Kl⟩
    · have hm1 : 0 < n3 := by omega
      go_wp2_with fail
      refine (copy_k A1 c1 c1 p K1 T1 (by omega) (by omega)).mono ?_
      rintro e w2 ⟨g, cq, sp, rfl, V2, G2, N2, K2, hcq, hcm⟩
      have T2 : Hid (Bts w2 A1 c1 p) := T1.out.new N2.out
      have Q2 : Hid (∀ a, A1 = some a → ¬ a.block = g) := by
        rintro a rfl
        obtain ⟨gg, oo, ee, hc⟩ := T1.out.2.2 (by omega)
        cases ee
        have hp0 : 0 < p.length := by rw [PL.out]; omega
        have := World.block_lt_of_cell? _ _ (hc 0 p[0] (List.getElem?_eq_getElem hp0))
        have h4 := G2.out
        simp at this ⊢
        omega
      have G2' : Hid (w.heap.size ≤ g) := Nat.le_trans K1.out.size G2.out
      clear N2 K1 T1 G2
      go_wp2
      go_loopw [12] (fun i wr => ∃ k : Nat, k ≤ c1 ∧ i = .int .i64 k ∧ Hid (Blk wr g 5 ((orUpto l3 p k).map byt ++ sp)) ∧ Hid (New w wr) ∧ Hid (Bts wr A1 c1 p)) (fun i _ => c1 - (intOf i).toNat)
      case atStart => exact ⟨0, Nat.zero_le _, rfl, by rw [orUpto_zero]; exact V2, K2, T2⟩
      case round =>
        obtain ⟨k, hk, rfl, VB, VK, VT⟩ := hrel
        clear V2 K2 T2
        by_cases hlt : k < c1
        · have hkp : k < p.length := by rw [PL.out]; exact hlt
          obtain ⟨x, hx⟩ : ∃ x, p[k]? = some x := ⟨_, List.getElem?_eq_getElem hkp⟩
          have hxb : x < 256 := HPB.out x (List.mem_of_getElem? hx)
          have hcell : wr.cell? ⟨g, k, none⟩ = some (.int .u8 (x : Int)) := by
            rw [VB.out.cell, List.getElem?_append_left (by rw [List.length_map, orUpto_length _ _ _ (by omega)]; exact hkp), List.getElem?_map, orUpto_get _ _ _ _ hx]
            rfl
          have hfree := VB.out.free k
          obtain ⟨r, hr⟩ : ∃ r, r = k % n3 := ⟨_, rfl⟩
          have hml : r < n3 := by rw [hr]; exact Nat.mod_lt _ hm1
          obtain ⟨g3, o3, y, rfl, hy, hyb, hc3⟩ := (H3.out.new VK.out).at_ (k := r) hml
          have hmod : ((k : Int) % (n3 : Int)) = (r : Int) := by rw [hr]; omega
          have HR := Lib.hid hr
          clear hr
          have HX := Lib.hid hx
          have HY := Lib.hid hy
          have hor := u8_or_nat x y hxb hyb
          clear hx hy
          go_wp2
          go_region
          all_goals go_wp2
          all_goals go_roundw
          case rel =>
            refine ⟨k + 1, by omega, by go_num, ?_, (VK.out.setCell (p := ⟨g, k, none⟩) (fun h => by have := G2'.out; simp at h; omega) _).drew, (VT.out.kept ((Kept.set1 wr g k (.int .u8 ((x ||| y : Nat) : Int)))) Q2.out).drew⟩
            have hb1 := (VB.out.put k (.int .u8 ((x ||| y : Nat) : Int))).drew
            have hyd : l3.getD (k % l3.length) 0 = y := by rw [HL3.out, ← HR.out, List.getD_eq_getElem?_getD, HY.out]; rfl
            have hst := orUpto_step l3 p k x HX.out
            rw [hyd] at hst
            rw [List.set_append_left _ _ (by rw [List.length_map, orUpto_length _ _ _ (by omega)]; rw [PL.out]; exact hlt), set_any _ k (x ||| y) (.int .u8 ((x ||| y : Nat) : Int)) rfl, hst] at hb1
            exact hb1
          case measure => simp [intOf]; omega
        · obtain rfl : k = c1 := by omega
          have hq := orUpto_all l3 p k PL.out
          have HQB := Lib.hid (orAll_bytes l3 p HB3.out HPB.out)
          have HQU := Lib.hid (orAll_under l3 p HB3.out HPB.out)
          have HQL := Lib.hid ((orAll_length l3 p).trans PL.out)
          have VQ : Hid (Blk wr g 5 ((orAll l3 p).map byt ++ sp)) := by rw [← hq]; exact VB
          clear VB hq
          generalize orAll l3 p = q at *
          have TQ : Hid (Bts wr (some ⟨g, 0, none⟩) k q) := by simpa [Hid] using Bts.of_blk (off := 0) VQ.out HQB.out HQL.out
          have hcm' : cq ≤ 9223372036854775807 := by unfold maxLen at hcm; omega
          clear VQ hlt hk hcm
          by_cases hpq : p = q
          · subst hpq
            have GG := Lib.hid (And.intro HG.out.2.1 (And.intro HG.out.2.2 HG.out.1))
            generalize eM : l2.length = m2
            have EM := Lib.hid eM
            clear eM
            have SF := Lib.hid (less_self p)
            go_wp2_with fail
            refine (sGet_k _ k cq p VK TQ hcq hcm' x1 l2 0 GG.out m2 EM.out).mono ?_
            rintro e w5 ⟨A5, c5, rfl, O5, N5, K5⟩
            have T5 : Hid (Bts w5 A1 k p) := VT.out.new N5.out
            have Q5 : Hid (Bts w5 (some ⟨g, 0, none⟩) k p) := TQ.out.new N5.out
            clear O5 N5 VK VT TQ
            go_wp2_with fail
            refine (same_k A1 _ k k k cq p p K5 T5 Q5 (by omega) true (decide_eq_true rfl)).mono ?_
            rintro e w6 ⟨rfl, N6, K6⟩
            have T6 : Hid (Bts w6 A1 k p) := T5.out.new N6.out
            have Q6 : Hid (Bts w6 (some ⟨g, 0, none⟩) k p) := Q5.out.new N6.out
            clear N6 K5 T5 Q5
            have R6 : Hid (New w6 w6) := Kept.refl _ _
            go_wp2_with fail
            refine (sLess_k _ A1 k k cq k p p R6 Q6 T6 (by omega) false SF.out).mono ?_
            rintro e w7 ⟨rfl, N7⟩
            have K7 : Hid (New w w7) := K6.out.new N7.out
            clear N7 K6 T6 Q6 R6
            go_wp2_with fail
            refine (works_k K7).mono ?_
            rintro e w9 ⟨rfl, Kl⟩
            go_wp2
            go_ret
            exact ⟨rfl, Kl⟩
          · obtain ⟨hE, hX⟩ := HT.out q HQB.out HQU.out (fun h => hpq h.symm)
            have hE0 : sGetE q ≠ 0 := by rcases hE with h | ⟨h, _⟩ <;> rw [h] <;> decide
            have hK : sGetK q = 0 := by unfold sGetK; rw [if_neg hE0]
            have SL := Lib.hid ((less_iff q p).2 ⟨HQU.out, fun h => hpq h.symm⟩)
            have SN := Lib.hid (decide_eq_false hpq)
            have hEE : (sGetE q = 7 ∨ sGetE q = 6 ∧ blank q = true) := hE
            clear HT HG hE hE0
            rcases hEE with h7 | ⟨h6, hbq⟩
            · have GG := Lib.hid (And.intro hK (And.intro hX h7))
              clear hK hX h7 hpq
              go_wp2_with fail
              refine (sGet_k _ k cq q VK TQ hcq hcm' 0 [] 7 GG.out 0 rfl).mono ?_
              rintro e w5 ⟨A5, c5, rfl, O5, N5, K5⟩
              have T5 : Hid (Bts w5 A1 k p) := VT.out.new N5.out
              have Q5 : Hid (Bts w5 (some ⟨g, 0, none⟩) k q) := TQ.out.new N5.out
              clear O5 N5 VK VT TQ
              go_wp2_with fail
              refine (same_k A1 _ k k k cq p q K5 T5 Q5 (by omega) false SN.out).mono ?_
              rintro e w6 ⟨rfl, N6, K6⟩
              have T6 : Hid (Bts w6 A1 k p) := T5.out.new N6.out
              have Q6 : Hid (Bts w6 (some ⟨g, 0, none⟩) k q) := Q5.out.new N6.out
              clear N6 K5 T5 Q5
              have R6 : Hid (New w6 w6) := Kept.refl _ _
              go_wp2_with fail
              refine (sLess_k _ A1 k k cq k q p R6 Q6 T6 (by omega) true SL.out).mono ?_
              rintro e w7 ⟨rfl, N7⟩
              have K7 : Hid (New w w7) := K6.out.new N7.out
              clear N7 K6 T6 Q6 R6
              go_wp2_with fail
              refine (works_k K7).mono ?_
              rintro e w9 ⟨rfl, Kl⟩
              go_wp2
              go_ret
              exact ⟨rfl, Kl⟩
            · have GG := Lib.hid (And.intro hK (And.intro hX h6))
              have HBQ := Lib.hid hbq
              clear hK hX h6 hpq hbq
              go_wp2_with fail
              refine (sGet_k _ k cq q VK TQ hcq hcm' 0 [] 6 GG.out 0 rfl).mono ?_
              rintro e w5 ⟨A5, c5, rfl, O5, N5, K5⟩
              have T5 : Hid (Bts w5 A1 k p) := VT.out.new N5.out
              have Q5 : Hid (Bts w5 (some ⟨g, 0, none⟩) k q) := TQ.out.new N5.out
              clear O5 N5 VK VT TQ
              go_wp2_with fail
              refine (same_k A1 _ k k k cq p q K5 T5 Q5 (by omega) false SN.out).mono ?_
              rintro e w6 ⟨rfl, N6, K6⟩
              have T6 : Hid (Bts w6 A1 k p) := T5.out.new N6.out
              have Q6 : Hid (Bts w6 (some ⟨g, 0, none⟩) k q) := Q5.out.new N6.out
              clear N6 K5 T5 Q5
              have R6 : Hid (New w6 w6) := Kept.refl _ _
              go_wp2_with fail
              refine (sLess_k _ A1 k k cq k q p R6 Q6 T6 (by omega) true SL.out).mono ?_
              rintro e w7 ⟨rfl, N7⟩
              have K7 : Hid (New w w7) := K6.out.new N7.out
              have Q7 : Hid (Bts w7 (some ⟨g, 0, none⟩) k q) := Q6.out.new N7.out
              clear N7 K6 T6 Q6 R6
              go_wp2_with fail
              refine (sBlank_k _ k cq q K7 Q7 (by omega) true HBQ.out).mono ?_
              rintro e w8 ⟨rfl, rfl, K8⟩
              clear K7 Q7
              go_wp2_with fail
              refine (works_k K8).mono ?_
              rintro e w9 ⟨rfl, Kl⟩
              go_wp2
              go_ret
              exact ⟨rfl, Kl⟩
  · have hne : (sPutE x0 x1 l2 == 0) = false := beq_eq_false_iff_ne.2 hp
    generalize eE : sPutE x0 x1 l2 = E at hne
    generalize eP : sPutL x0 x1 l2 = p
    have PP := Lib.hid (And.intro eP eE)
    generalize eQ : p.length = q
    have EQ := Lib.hid eQ
    clear eE eP eQ hp hl2
    go_enter Try.func7, Try.ntmps7
    go_wp2_with fail
    refine (sPut_k x0 x1 A2 n2 c2 l2 K0 H2 h2 p E PP.out q EQ.out).mono ?_
    rintro e w1 ⟨A1, c1, rfl, P1, rfl, N1, K1⟩
    clear P1 N1 K0
    go_wp2_with fail
    refine (works_k K1).mono ?_
    rintro e w9 ⟨rfl, Kl⟩
    go_wp2
    go_ret
    exact ⟨rfl, Kl⟩

set_option maxRecDepth 100000 in
theorem lifted (os : Os) (started : os.Started) (H : Type) (enc : TypeId × Value → H) :
    ReturnsInHanded {} Try.checked os 7 .any (Rows.sealSureSpec.pre6 enc Try.prog Try.f7 Rows.sealSureRow.domain false) (Rows.sealSureSpec.post enc Try.prog Try.f7 false true false false) := by
  refine lift_new (C := Try.checked) (s := Rows.sealSureSpec) (tb := 4) own started (by kernel_rfl) Try.func7
    (ChangeSpec.witness6 (enc := enc) (C := Try.checked) false ⟨#[], #[.int .i64 0, .int .u8 0, .slice none 0 0, .slice none 0 0], []⟩ 8 (by kernel_rfl) (by kernel_rfl) (by kernel_rfl) (by kernel_rfl))
    rfl (by kernel_rfl) Try.underlying4 ?_ laidOut (of_decide_eq_true (by kernel_rfl)) ?_
  · intro ds hd
    match ds, hd with
    | [d0, d1, d2, d3], _ => exact ⟨rfl, rfl, rfl⟩
  · intro W base args ds hA
    have hA : Args enc Try.prog W base Try.f7.params.toList args.toList ds := hA
    rw [Try.params7] at hA
    obtain ⟨v0, vs0, d0, ds0, p0, hargs, rfl, a0, hA⟩ := hA.cons_
    obtain ⟨v1, vs1, d1, ds1, p1, rfl, rfl, a1, hA⟩ := hA.cons_
    obtain ⟨v2, vs2, d2, ds2, p2, rfl, rfl, a2, hA⟩ := hA.cons_
    obtain ⟨v3, vs3, d3, ds3, p3, rfl, rfl, a3, hA⟩ := hA.cons_
    obtain ⟨rfl, rfl⟩ := hA.nil_
    obtain rfl : args = #[v0, v1, v2, v3] := by cases args; simp_all
    obtain ⟨x0, rfl, w0⟩ := a0.int_ Try.underlying3
    obtain ⟨y1, rfl, w1⟩ := a1.int_ Try.underlying5
    obtain ⟨x1, rfl, h1⟩ := u8_nat w1
    obtain ⟨A2, n2, c2, l2, b2⟩ := a2.bytes_ Try.underlying22 Try.underlying5 (by kernel_rfl) (by kernel_rfl)
    obtain rfl := b2.val
    obtain ⟨A3, n3, c3, l3, b3⟩ := a3.bytes_ Try.underlying22 Try.underlying5 (by kernel_rfl) (by kernel_rfl)
    obtain rfl := b3.val
    exact walk x0 x1 A2 n2 c2 l2 A3 n3 c3 l3 W (i64_bounds w0) h1 b2 b3

theorem over : Rows.sealSureRow.holds Try.pinned (OpenSpec.ofChange Rows.sealSureSpec) :=
  OpenClaim.holds_of_wide 7 Try.f7 rfl rfl rfl rfl rfl rfl rfl ⟨rfl, rfl, rfl, rfl, rfl⟩ rfl rfl rfl rfl rfl (by kernel_rfl) Try.func7 (by kernel_rfl)
    (of_decide_eq_true (by kernel_rfl)) (by unfold Func.isWrapper; first | (rw [if_pos (by decide +kernel)]; kernel_rfl) | (rw [if_neg (by decide +kernel)]; exact ⟨rfl, rfl⟩))
    (fun os started H enc _ => lifted os started H enc)

theorem proved : Rows.SealSureSaid := over
end Go.Proofs.Ytpcfffbkoddkpaa.sealSure
