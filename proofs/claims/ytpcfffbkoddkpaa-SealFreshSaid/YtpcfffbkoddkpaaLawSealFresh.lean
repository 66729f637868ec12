/-
  SealFresh: what is handed in stays, the room behind it, too, and what is answered is new memory; for every size, kind and body.
-/
import Derived.Test.YtpcfffbkoddkpaaSj
namespace Go.Proofs.Ytpcfffbkoddkpaa.sealFresh
open Go.ChangeShapes Go.WideShapes Go.ChangeAt Go.RowKit

theorem own : ownKnob Try.prog.godebug = none := by kernel_rfl
theorem laidOut : laidOutB Try.prog = true := by kernel_rfl

theorem get_nil_len {p : List Nat} (h : sGetE p = 0) : 0 < p.length := by
  have := (sGetE_ok h).1
  unfold isPg at this
  omega

set_option maxHeartbeats 1000000 in
theorem walk (x0 : Int) (x1 : Nat) (A2 : Option Addr) (n2 c2 : Nat) (l2 : List Nat) (w : World)
    (b0 : -9223372036854775808 ≤ x0 ∧ x0 ≤ 9223372036854775807) (b1 : x1 < 256) (b2 : IsB w (.slice A2 n2 c2) A2 n2 c2 l2) :
    Calls Try.prog 10 #[.int .i64 x0, .int .u8 x1, .slice A2 n2 c2] w (True1 w) := by
  have h2 : n2 ≤ 140737488351232 := by have := b2.le; have := b2.cap; omega
  have H2 := Lib.hid b2.bts
  have HB2 := Lib.hid b2.bts.2.1
  have HL2 := Lib.hid b2.bts.1
  have K0 : Hid (New w w) := Kept.refl _ _
  clear b2
  go_enter Try.func10, Try.ntmps10
  go_wp2_with fail
  refine (wide_k A2 n2 c2 l2 K0 H2 h2).mono ?_
  rintro e w1 ⟨g1, rfl, V1, G1, N1, K1⟩
  clear K0 N1 G1
  by_cases hp : sPutE x0 x1 l2 = 0
  · obtain ⟨N, rfl, hpg, hkd, hlen, hpp⟩ := put_yes hp
    have hpl := page_length N x1 l2 hlen
    have HPB := Lib.hid (page_bytes N x1 l2 b1 HB2.out)
    obtain ⟨g1', g2', g3'⟩ := get_page N x1 l2 hpg hkd hlen
    have hN : N ≤ 256 := by unfold isPg at hpg; omega
    generalize page N x1 l2 = p at hpp hpl g1' g2' g3' HPB
    have PP := Lib.hid (And.intro hpp hp)
    have PL := Lib.hid hpl
    have GG := Lib.hid (And.intro g2' (And.intro g3' g1'))
    clear hpp hp hpl g1' g2' g3' hpg hkd hlen
    go_wp2_with fail
    refine (sPut_k (N : Int) x1 _ n2 (n2 + 3) l2 K1 (Bts.of_wide V1.out HB2.out HL2.out) h2 p 0 PP.out N PL.out).mono ?_
    rintro e w2 ⟨Ap, cp, rfl, P2, rfl, N2, K2⟩
    have V2 : Hid (Blk w2 g1 5 ((l2 ++ [7, 7, 7]).map byt)) := V1.out.kept N2.out (fun f => f)
    have T2 : Hid (Bts w2 Ap cp p) := by have := P2.out.bts; rw [PL.out] at this; exact this
    clear V1 N2 K1 P2
    go_wp2_with fail
    refine (left_k g1 n2 c2 A2 l2 K2 V2 (H2.out.new K2.out) h2).mono ?_
    rintro e w3 ⟨rfl, N3, K3⟩
    have T3 : Hid (Bts w3 Ap cp p) := T2.out.new N3.out
    clear V2 N3 K2 T2
    go_wp2_with fail
    refine (wide_k Ap cp cp p K3 T3 (by omega)).mono ?_
    rintro e w4 ⟨g2, rfl, V4, G4, N4, K4⟩
    have T4 : Hid (Bts w4 Ap cp p) := T3.out.new N4.out
    clear N4 K3 T3 G4
    have R4 : Hid (New w4 w4) := Kept.refl _ _
    go_wp2_with fail
    refine (sGet_k _ cp (cp + 3) p R4 (Bts.of_wide V4.out HPB.out PL.out) (by omega) (by omega) x1 l2 0 GG.out n2 HL2.out).mono ?_
    rintro e w5 ⟨A5, c5, rfl, O5, N5, N5'⟩
    have V5 : Hid (Blk w5 g2 5 ((p ++ [7, 7, 7]).map byt)) := V4.out.kept N5.out (fun f => f)
    have T5 : Hid (Bts w5 Ap cp p) := T4.out.new N5.out
    have K5 : Hid (New w w5) := K4.out.new N5.out
    have S5 : Hid (w.heap.size ≤ w4.heap.size) := K4.out.size
    have L5 : Hid (g2 < w4.heap.size) := V4.out.lt
    have Q5 : Hid (∀ a, Ap = some a → ¬ w4.heap.size ≤ a.block) := by
      rintro a rfl
      have hp0 : 0 < p.length := get_nil_len GG.out.2.2
      obtain ⟨gg, oo, ee, hc⟩ := T4.out.2.2 (by rw [← PL.out]; exact hp0)
      cases ee
      have := World.block_lt_of_cell? _ _ (hc 0 p[0] (List.getElem?_eq_getElem hp0))
      simp at this ⊢
      exact this
    clear V4 T4 K4 N5 N5' R4
    go_wp2_with fail
    refine (spoil_k A5 c5 w4.heap.size n2 1 l2 K5 O5 S5.out HL2.out).mono ?_
    rintro e w6 ⟨rfl, N6, K6⟩
    have V6 : Hid (Blk w6 g2 5 ((p ++ [7, 7, 7]).map byt)) := V5.out.kept N6.out (by have := L5.out; omega)
    have T6 : Hid (Bts w6 Ap cp p) := T5.out.kept N6.out Q5.out
    clear V5 T5 K5 N6 O5 S5 L5 Q5
    have R6 : Hid (New w6 w6) := Kept.refl _ _
    generalize eL : less p p = bL
    have EL := Lib.hid eL
    clear eL
    go_wp2_with fail
    refine (sLess_k _ Ap cp cp (cp + 3) cp p p R6 (Bts.of_wide V6.out HPB.out PL.out) T6 (by omega) bL EL.out).mono ?_
    rintro e w7 ⟨rfl, N7⟩
    have V7 : Hid (Blk w7 g2 5 ((p ++ [7, 7, 7]).map byt)) := V6.out.kept N7.out (fun f => f)
    have T7 : Hid (Bts w7 Ap cp p) := T6.out.new N7.out
    have K7 : Hid (New w w7) := K6.out.new N7.out
    clear V6 T6 K6 N7 R6
    generalize eN : noughts p = bN
    have EN := Lib.hid eN
    clear eN
    go_wp2_with fail
    refine (sNoughts_v _ cp (cp + 3) p _ (Bts.of_wide V7.out HPB.out PL.out) (by omega) bN EN.out).mono ?_
    rintro e w' ⟨rfl, rfl⟩
    go_wp2_with fail
    refine (left_k g2 cp cp Ap p K7 V7 T7 (by omega)).mono ?_
    rintro e w8 ⟨rfl, N8, K8⟩
    clear V7 T7 K7 N8
    go_wp2_with fail
    refine (works_k K8).mono ?_
    rintro e w9 ⟨rfl, Kl⟩
    go_wp2
    go_ret
    exact ⟨rfl, Kl⟩
  · have hne : (sPutE x0 x1 l2 == 0) = false := beq_eq_false_iff_ne.2 hp
    generalize eE : sPutE x0 x1 l2 = E at hne
    generalize eP : sPutL x0 x1 l2 = p
    have PP := Lib.hid (And.intro eP eE)
    generalize eQ : p.length = q
    have EQ := Lib.hid eQ
    clear eE eP eQ hp
    go_wp2_with fail
    refine (sPut_k x0 x1 _ n2 (n2 + 3) l2 K1 (Bts.of_wide V1.out HB2.out HL2.out) h2 p E PP.out q EQ.out).mono ?_
    rintro e w2 ⟨Ap, cp, rfl, P2, rfl, N2, K2⟩
    have V2 : Hid (Blk w2 g1 5 ((l2 ++ [7, 7, 7]).map byt)) := V1.out.kept N2.out (fun f => f)
    clear V1 N2 K1 P2
    go_wp2_with fail
    refine (left_k g1 n2 c2 A2 l2 K2 V2 (H2.out.new K2.out) h2).mono ?_
    rintro e w3 ⟨rfl, N3, K3⟩
    clear V2 N3 K2
    go_wp2_with fail
    refine (works_k K3).mono ?_
    rintro e w9 ⟨rfl, Kl⟩
    go_wp2
    go_ret
    exact ⟨rfl, Kl⟩

set_option maxRecDepth 100000 in
theorem lifted (os : Os) (started : os.Started) (H : Type) (enc : TypeId × Value → H) :
    ReturnsInHanded {} Try.checked os 10 .any (Rows.sealFreshSpec.pre6 enc Try.prog Try.f10 Rows.sealFreshRow.domain false) (Rows.sealFreshSpec.post enc Try.prog Try.f10 false true false false) := by
  refine lift_new (C := Try.checked) (s := Rows.sealFreshSpec) (tb := 4) own started (by kernel_rfl) Try.func10
    (ChangeSpec.witness6 (enc := enc) (C := Try.checked) false ⟨#[], #[.int .i64 0, .int .u8 0, .slice none 0 0], []⟩ 8 (by kernel_rfl) (by kernel_rfl) (by kernel_rfl) (by kernel_rfl))
    rfl (by kernel_rfl) Try.underlying4 ?_ laidOut (of_decide_eq_true (by kernel_rfl)) ?_
  · intro ds hd
    match ds, hd with
    | [d0, d1, d2], _ => exact ⟨rfl, rfl, rfl⟩
  · intro W base args ds hA
    have hA : Args enc Try.prog W base Try.f10.params.toList args.toList ds := hA
    rw [Try.params10] at hA
    obtain ⟨v0, vs0, d0, ds0, p0, hargs, rfl, a0, hA⟩ := hA.cons_
    obtain ⟨v1, vs1, d1, ds1, p1, rfl, rfl, a1, hA⟩ := hA.cons_
    obtain ⟨v2, vs2, d2, ds2, p2, rfl, rfl, a2, hA⟩ := hA.cons_
    obtain ⟨rfl, rfl⟩ := hA.nil_
    obtain rfl : args = #[v0, v1, v2] := by cases args; simp_all
    obtain ⟨x0, rfl, w0⟩ := a0.int_ Try.underlying3
    obtain ⟨y1, rfl, w1⟩ := a1.int_ Try.underlying5
    obtain ⟨x1, rfl, h1⟩ := u8_nat w1
    obtain ⟨A2, n2, c2, l2, b2⟩ := a2.bytes_ Try.underlying22 Try.underlying5 (by kernel_rfl) (by kernel_rfl)
    obtain rfl := b2.val
    exact walk x0 x1 A2 n2 c2 l2 W (i64_bounds w0) h1 b2

theorem over : Rows.sealFreshRow.holds Try.pinned (OpenSpec.ofChange Rows.sealFreshSpec) :=
  OpenClaim.holds_of_wide 10 Try.f10 rfl rfl rfl rfl rfl rfl rfl ⟨rfl, rfl, rfl, rfl, rfl⟩ rfl rfl rfl rfl rfl (by kernel_rfl) Try.func10 (by kernel_rfl)
    (of_decide_eq_true (by kernel_rfl)) (by unfold Func.isWrapper; first | (rw [if_pos (by decide +kernel)]; kernel_rfl) | (rw [if_neg (by decide +kernel)]; exact ⟨rfl, rfl⟩))
    (fun os started H enc _ => lifted os started H enc)

theorem proved : Rows.SealFreshSaid := over
end Go.Proofs.Ytpcfffbkoddkpaa.sealFresh
