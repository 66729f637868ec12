/-
  SealBack: a page says what it was made of, and what a page says, put again, is the page; for every size, kind, body and bytes.
-/
import Derived.Test.YtpcfffbkoddkpaaSj
namespace Go.Proofs.Ytpcfffbkoddkpaa.sealBack
open Go.ChangeShapes Go.WideShapes Go.ChangeAt Go.RowKit

theorem own : ownKnob Try.prog.godebug = none := by kernel_rfl
theorem laidOut : laidOutB Try.prog = true := by kernel_rfl

theorem get_no {l : List Nat} (h : sGetE l ≠ 0) : sGetK l = 0 ∧ sGetL l = [] := by
  unfold sGetK sGetL
  rw [if_neg h, if_neg h]
  exact ⟨rfl, rfl⟩

set_option maxHeartbeats 1000000 in
theorem walk (x0 : Int) (x1 : Nat) (A2 : Option Addr) (n2 c2 : Nat) (l2 : List Nat) (A3 : Option Addr) (n3 c3 : Nat) (l3 : List Nat) (w : World)
    (b0 : -9223372036854775808 ≤ x0 ∧ x0 ≤ 9223372036854775807) (_b1 : x1 < 256) (b2 : IsB w (.slice A2 n2 c2) A2 n2 c2 l2) (b3 : IsB w (.slice A3 n3 c3) A3 n3 c3 l3) :
    Calls Try.prog 6 #[.int .i64 x0, .int .u8 x1, .slice A2 n2 c2, .slice A3 n3 c3] w (True1 w) := by
  have h2 : n2 ≤ 140737488351232 := by have := b2.le; have := b2.cap; omega
  have h3 : n3 ≤ 140737488351232 := by have := b3.le; have := b3.cap; omega
  have h3c : n3 ≤ c3 ∧ c3 ≤ 9223372036854775807 := ⟨b3.le, by have := b3.cap; omega⟩
  have H2 := Lib.hid b2.bts
  have H3 := Lib.hid b3.bts
  have hl2 := b2.bts.1
  have hl3 := b3.bts.1
  have HG := Lib.hid (put_get l3 b3.bts.2.1)
  have K0 : Hid (New w w) := Kept.refl _ _
  have HL3 := Lib.hid hl3
  clear b2 b3
  by_cases hp : sPutE x0 x1 l2 = 0
  · obtain ⟨N, rfl, hpg, hkd, hlen, hpp⟩ := put_yes hp
    have hpl := page_length N x1 l2 hlen
    obtain ⟨g1, g2, g3⟩ := get_page N x1 l2 hpg hkd hlen
    have hN : N ≤ 256 := by unfold isPg at hpg; omega
    have eb : pgBody (N : Int) = (N : Int) - 5 := by unfold pgBody; rw [if_pos hpg]
    generalize page N x1 l2 = p at hpp hpl g1 g2 g3
    have PP := Lib.hid (And.intro hpp hp)
    have PL := Lib.hid hpl
    have GG := Lib.hid (And.intro g2 (And.intro g3 g1))
    have HL2 := Lib.hid hl2
    rw [hl2] at hlen
    clear hpp hp hpl g1 g2 g3 hpg hkd hl2
    go_enter Try.func6, Try.ntmps6
    go_wp2_with fail
    refine (sPut_k (N : Int) x1 A2 n2 c2 l2 K0 H2 h2 p 0 PP.out N PL.out).mono ?_
    rintro e w1 ⟨A1, c1, rfl, P1, rfl, N1, K1⟩
    have T1 : Hid (Bts w1 A1 c1 p) := by have := P1.out.bts; rw [PL.out] at this; exact this
    clear P1 N1 K0
    go_wp2_with fail
    refine (sGet_k A1 c1 c1 p K1 T1 (by omega) (by omega) x1 l2 0 GG.out n2 HL2.out).mono ?_
    rintro e w2 ⟨A4, c4, rfl, O2, N2, K2⟩
    have T2 : Hid (Bts w2 A4 n2 l2) := by have := O2.out.bts; rw [HL2.out] at this; exact this
    have B2 : Hid (Bts w2 A2 n2 l2) := H2.out.new K2.out
    clear O2 N2 K1 T1
    go_wp2_with fail
    refine (same_k A4 A2 n2 n2 c4 c2 l2 l2 K2 T2 B2 h2 true (decide_eq_true rfl)).mono ?_
    rintro e w3 ⟨rfl, N3, K3⟩
    clear N3 K2 T2 B2
    go_wp2_with fail
    refine (sBody_any _ _).mono ?_
    rintro e w' ⟨rfl, rfl⟩
    rw [eb]
    have KK := K3
    clear K3
    by_cases hg : sGetE l3 = 0
    · obtain ⟨g1, g2⟩ := HG.out hg
      generalize ek : sGetK l3 = k at g1 g2
      generalize ex : sGetL l3 = x at g1 g2
      have EK := Lib.hid (And.intro ek (And.intro ex hg))
      rw [HL3.out] at g1 g2
      have GP := Lib.hid (And.intro g2 g1)
      have hxl : x.length ≤ n3 := by rw [← ex]; unfold sGetL; rw [if_pos hg, List.length_take, List.length_drop, HL3.out]; omega
      generalize em : x.length = m at hxl
      have EM := Lib.hid em
      clear g1 g2 ek ex hg em HG
      go_wp2_with fail
      refine (sGet_k A3 n3 c3 l3 KK (H3.out.new KK.out) h3c.1 h3c.2 k x 0 EK.out m EM.out).mono ?_
      rintro e w5 ⟨A5, c5, rfl, O5, N5, K5⟩
      have T5 : Hid (Bts w5 A5 m x) := by have := O5.out.bts; rw [EM.out] at this; exact this
      clear O5 N5
      go_wp2_with fail
      refine (sPut_k (n3 : Int) k A5 m c5 x K5 T5 (by omega) l3 0 GP.out n3 HL3.out).mono ?_
      rintro e w6 ⟨A6, c6, rfl, P6, rfl, N6, K6⟩
      have T6 : Hid (Bts w6 A6 c6 l3) := by have := P6.out.bts; rw [HL3.out] at this; exact this
      have B6 : Hid (Bts w6 A3 c6 l3) := H3.out.new K6.out
      clear P6 N6 K5 T5
      go_wp2_with fail
      refine (same_k A6 A3 c6 c6 c6 c3 l3 l3 K6 T6 B6 (by omega) true (decide_eq_true rfl)).mono ?_
      rintro e w7 ⟨rfl, N7, K7⟩
      clear N7 K6 T6 B6
      go_wp2_with fail
      refine (works_k K7).mono ?_
      rintro e w8 ⟨rfl, Kl⟩
      go_wp2
      go_ret
      exact ⟨rfl, Kl⟩
    · obtain ⟨g1, g2⟩ := get_no hg
      have hne : (sGetE l3 == 0) = false := beq_eq_false_iff_ne.2 hg
      generalize eE : sGetE l3 = E at hne
      have EK := Lib.hid (And.intro g1 (And.intro g2 eE))
      clear g1 g2 hg HG eE
      go_wp2_with fail
      refine (sGet_k A3 n3 c3 l3 KK (H3.out.new KK.out) h3c.1 h3c.2 0 [] E EK.out 0 rfl).mono ?_
      rintro e w5 ⟨A5, c5, rfl, O5, N5, K5⟩
      clear O5 N5
      go_wp2_with fail
      refine (works_k K5).mono ?_
      rintro e w8 ⟨rfl, Kl⟩
      go_wp2
      go_ret
      exact ⟨rfl, Kl⟩
  · have hne : (sPutE x0 x1 l2 == 0) = false := beq_eq_false_iff_ne.2 hp
    generalize eE : sPutE x0 x1 l2 = E at hne
    generalize eP : sPutL x0 x1 l2 = p
    have PP := Lib.hid (And.intro eP eE)
    generalize eQ : p.length = q
    have EQ := Lib.hid eQ
    clear eE eP eQ hp hl2
    go_enter Try.func6, Try.ntmps6
    go_wp2_with fail
    refine (sPut_k x0 x1 A2 n2 c2 l2 K0 H2 h2 p E PP.out q EQ.out).mono ?_
    rintro e w1 ⟨A1, c1, rfl, P1, rfl, N1, KK⟩
    clear P1 N1 K0
    by_cases hg : sGetE l3 = 0
    · obtain ⟨g1, g2⟩ := HG.out hg
      generalize ek : sGetK l3 = k at g1 g2
      generalize ex : sGetL l3 = x at g1 g2
      have EK := Lib.hid (And.intro ek (And.intro ex hg))
      rw [HL3.out] at g1 g2
      have GP := Lib.hid (And.intro g2 g1)
      have hxl : x.length ≤ n3 := by rw [← ex]; unfold sGetL; rw [if_pos hg, List.length_take, List.length_drop, HL3.out]; omega
      generalize em : x.length = m at hxl
      have EM := Lib.hid em
      clear g1 g2 ek ex hg em HG
      go_wp2_with fail
      refine (sGet_k A3 n3 c3 l3 KK (H3.out.new KK.out) h3c.1 h3c.2 k x 0 EK.out m EM.out).mono ?_
      rintro e w5 ⟨A5, c5, rfl, O5, N5, K5⟩
      have T5 : Hid (Bts w5 A5 m x) := by have := O5.out.bts; rw [EM.out] at this; exact this
      clear O5 N5
      go_wp2_with fail
      refine (sPut_k (n3 : Int) k A5 m c5 x K5 T5 (by omega) l3 0 GP.out n3 HL3.out).mono ?_
      rintro e w6 ⟨A6, c6, rfl, P6, rfl, N6, K6⟩
      have T6 : Hid (Bts w6 A6 c6 l3) := by have := P6.out.bts; rw [HL3.out] at this; exact this
      have B6 : Hid (Bts w6 A3 c6 l3) := H3.out.new K6.out
      clear P6 N6 K5 T5
      go_wp2_with fail
      refine (same_k A6 A3 c6 c6 c6 c3 l3 l3 K6 T6 B6 (by omega) true (decide_eq_true rfl)).mono ?_
      rintro e w7 ⟨rfl, N7, K7⟩
      clear N7 K6 T6 B6
      go_wp2_with fail
      refine (works_k K7).mono ?_
      rintro e w8 ⟨rfl, Kl⟩
      go_wp2
      go_ret
      exact ⟨rfl, Kl⟩
    · obtain ⟨g1, g2⟩ := get_no hg
      have hne : (sGetE l3 == 0) = false := beq_eq_false_iff_ne.2 hg
      generalize eE : sGetE l3 = E at hne
      have EK := Lib.hid (And.intro g1 (And.intro g2 eE))
      clear g1 g2 hg HG eE
      go_wp2_with fail
      refine (sGet_k A3 n3 c3 l3 KK (H3.out.new KK.out) h3c.1 h3c.2 0 [] E EK.out 0 rfl).mono ?_
      rintro e w5 ⟨A5, c5, rfl, O5, N5, K5⟩
      clear O5 N5
      go_wp2_with fail
      refine (works_k K5).mono ?_
      rintro e w8 ⟨rfl, Kl⟩
      go_wp2
      go_ret
      exact ⟨rfl, Kl⟩

set_option maxRecDepth 100000 in
theorem lifted (os : Os) (started : os.Started) (H : Type) (enc : TypeId × Value → H) :
    ReturnsInHanded {} Try.checked os 6 .any (Rows.sealBackSpec.pre6 enc Try.prog Try.f6 Rows.sealBackRow.domain false) (Rows.sealBackSpec.post enc Try.prog Try.f6 false true false false) := by
  refine lift_new (C := Try.checked) (s := Rows.sealBackSpec) (tb := 4) own started (by kernel_rfl) Try.func6
    (ChangeSpec.witness6 (enc := enc) (C := Try.checked) false ⟨#[], #[.int .i64 0, .int .u8 0, .slice none 0 0, .slice none 0 0], []⟩ 8 (by kernel_rfl) (by kernel_rfl) (by kernel_rfl) (by kernel_rfl))
    rfl (by kernel_rfl) Try.underlying4 ?_ laidOut (of_decide_eq_true (by kernel_rfl)) ?_
  · intro ds hd
    match ds, hd with
    | [d0, d1, d2, d3], _ => exact ⟨rfl, rfl, rfl⟩
  · intro W base args ds hA
    have hA : Args enc Try.prog W base Try.f6.params.toList args.toList ds := hA
    rw [Try.params6] at hA
    obtain ⟨v0, vs0, d0, ds0, p0, hargs, rfl, a0, hA⟩ := hA.cons_
    obtain ⟨v1, vs1, d1, ds1, p1, rfl, rfl, a1, hA⟩ := hA.cons_
    obtain ⟨v2, vs2, d2, ds2, p2, rfl, rfl, a2, hA⟩ := hA.cons_
    obtain ⟨v3, vs3, d3, ds3, p3, rfl, rfl, a3, hA⟩ := hA.cons_
    obtain ⟨rfl, rfl⟩ := hA.nil_
    obtain rfl : args = #[v0, v1, v2, v3] := by cases args; simp_all
    obtain ⟨x0, rfl, w0⟩ := a0.int_ Try.underlying3
    obtain ⟨y1, rfl, w1⟩ := a1.int_ Try.underlying5
    obtain ⟨x1, rfl, h1⟩ := u8_nat w1
    obtain ⟨A2, n2, c2, l2, b2⟩ := a2.bytes_ Try.underlying22 Try.underlying5 (by kernel_rfl) (by kernel_rfl)
    obtain rfl := b2.val
    obtain ⟨A3, n3, c3, l3, b3⟩ := a3.bytes_ Try.underlying22 Try.underlying5 (by kernel_rfl) (by kernel_rfl)
    obtain rfl := b3.val
    exact walk x0 x1 A2 n2 c2 l2 A3 n3 c3 l3 W (i64_bounds w0) h1 b2 b3

theorem over : Rows.sealBackRow.holds Try.pinned (OpenSpec.ofChange Rows.sealBackSpec) :=
  OpenClaim.holds_of_wide 6 Try.f6 rfl rfl rfl rfl rfl rfl rfl ⟨rfl, rfl, rfl, rfl, rfl⟩ rfl rfl rfl rfl rfl (by kernel_rfl) Try.func6 (by kernel_rfl)
    (of_decide_eq_true (by kernel_rfl)) (by unfold Func.isWrapper; first | (rw [if_pos (by decide +kernel)]; kernel_rfl) | (rw [if_neg (by decide +kernel)]; exact ⟨rfl, rfl⟩))
    (fun os started H enc _ => lifted os started H enc)

theorem proved : Rows.SealBackSaid := over
end Go.Proofs.Ytpcfffbkoddkpaa.sealBack
