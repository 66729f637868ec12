/-
  FactApplies: changes that are done to whatever facts, and what is found then, are the document's; for every list of facts, list of changes and key, of bulk at most 1048576.
-/
import Derived.Test.YtgdhbnhdmhogkaaOd
import Derived.Test.YtgdhbnhdmhogkaaOe
namespace Go.Proofs.Ytgdhbnhdmhogkaa.factApplies
open Go.ChangeShapes Go.WideShapes Go.ChangeAt Go.RowKit

theorem own : ownKnob Try.prog.godebug = none := by kernel_rfl
theorem laidOut : laidOutB Try.prog = true := by kernel_rfl

theorem Fn1.of {u w' : World} {l : List FT} {k : KY} {e : Ending} (h : FndP u l k e w') : Fn1 u (findR l k) e w' := by
  obtain ⟨A, c, he, ho, hk⟩ := h
  exact ⟨A, c, he, ho.bts, hk, Nat.le_trans ho.le.1 ho.le.2⟩

set_option maxRecDepth 100000 in
set_option maxHeartbeats 6400000 in
theorem walk (A : Option Addr) (n c : Nat) (es : List FE) (A' : Option Addr) (n' c' : Nat) (cs : List CE) (k : KY) (w : World) (h : FsIn w A n c es) (hc : CsIn w A' n' c' cs) (_hk : KyIn k) (hs : n ≤ 1048576 ∧ n' ≤ 1048576) :
    Calls Try.prog 3 #[.slice A n c, .slice A' n' c', .agg #[.int .i64 k.i, .int .u8 (k.t : Nat), .string k.n, .int .i64 k.c]] w (True1 w) := by
  obtain ⟨w1, hw1⟩ : ∃ w1, w1 = w.alloc (.cells #[.int .i64 k.i, .int .u8 (k.t : Nat), .string k.n, .int .i64 k.c] 25) := ⟨_, rfl⟩
  have K1 : Hid (New w w1) := by rw [hw1]; exact (Kept.refl _ _).alloc _
  have BK : Hid (∀ u, New w u → New w1 u → Blk u w.heap.size 25 [.int .i64 k.i, .int .u8 (k.t : Nat), .string k.n, .int .i64 k.c]) := fun u _ hu => by rw [hw1] at hu; exact (Blk.made w _ _).kept hu id
  have HW := Lib.hid hw1
  have H := Lib.hid (h.1.new K1.out)
  have HC := Lib.hid (hc.1.new K1.out)
  have HM : Hid (n ≤ c ∧ c ≤ maxLen ∧ n ≤ maxLen) := ⟨h.2.2.1, h.2.2.2.1, Nat.le_trans h.2.2.1 h.2.2.2.1⟩
  have HM2 : Hid (A' = none → c' = 0 ∧ n' = 0) := hc.2.1
  have hb1 : (n + n') * 64 ≤ 140737488355328 := by omega
  have hb2 : n' * 72 ≤ 140737488351232 := by omega
  have AP := Lib.hid (apply_any A n c es A' n' c' cs w1 H.out ⟨HM.out.1, HM.out.2.1⟩ HC.out HM2.out hb1 hb2 (sort_all (by omega)))
  have HLEN : Hid (∀ es1 : List FE, fts es1 = (if ordF (fts es) = true then apF (fts es) (cts cs) else []) → es1.length ≤ maxLen) := fun es1 he => by
    have h1 := apF_len (fts es) (cts cs)
    have h2 : (cts cs).length = n' := by unfold cts; rw [List.length_map, HC.out.len]
    have h3 : (fts es).length = n := by rw [fts_lenE, H.out.len]
    rw [← fts_lenE, he]
    unfold maxLen
    split
    · omega
    · simp
  clear hw1 h hc hs
  go_enter Try.func3, Try.ntmps3
  go_wp2_with fail
  rw [← HW.out]
  clear HW
  refine AP.out.mono ?_
  rintro e w2 ⟨A1, c1, es1, rfl, e1, o1, k2⟩
  have E1 := Lib.hid e1
  have I1 := Lib.hid o1.in_
  have K2 := Lib.hid k2
  have LN1 := Lib.hid (HLEN.out es1 e1)
  clear e1 o1 k2 AP
  go_wp2_with fail
  refine (rapply_any A n c es A' n' c' cs w2 (H.out.new K2.out) HM.out.2.2 (HC.out.new K2.out) hb1).mono ?_
  rintro e w3 ⟨A2, c2, es2, rfl, i2, e2, k3, l2, m2⟩
  have EE : Hid (fts es2 = fts es1) := e2.trans E1.out.symm
  have I2 := Lib.hid i2
  have K3 := Lib.hid (K2.out.new k3)
  have J1 := Lib.hid (I1.out.new k3)
  have LN2 : Hid (es2.length ≤ maxLen) := Nat.le_trans l2 m2
  clear i2 e2 k3 l2 m2 K2 I1 HLEN E1
  generalize es1.length = n1 at *
  generalize es2.length = n2 at *
  obtain ⟨x0, x1, x2, x3⟩ := cells4 (BK.out w3 (K1.out.new K3.out) K3.out)
  go_wp2_with fail
  refine ((find_any A1 n1 c1 es1 k w3 J1.out LN1.out).mono fun _ _ hh => Fn1.of hh).mono ?_
  obtain ⟨r1, hr1⟩ : ∃ r, findR (fts es1) k = r := ⟨_, rfl⟩
  rw [hr1]
  rintro e w4 ⟨A3, c3, rfl, b3, k4, l3⟩
  have R1 := Lib.hid hr1
  have K4 := Lib.hid (K3.out.new k4)
  have B3 := Lib.hid b3
  have L3 := Lib.hid l3
  have J14 := Lib.hid (J1.out.new k4)
  have J24 := Lib.hid (I2.out.new k4)
  clear b3 k4 l3 J1 I2 K3 x0 x1 x2 x3 hr1
  obtain ⟨x0, x1, x2, x3⟩ := cells4 (BK.out w4 (K1.out.new K4.out) K4.out)
  go_wp2_with fail
  refine ((rfind_any A2 n2 c2 es2 k w4 J24.out LN2.out).mono fun _ _ hh => Fn1.of hh).mono ?_
  rw [EE.out, R1.out]
  rintro e w5 ⟨A4, c4, rfl, b4, k5, _⟩
  have K5 := Lib.hid (K4.out.new k5)
  have B4 := Lib.hid b4
  have B35 := Lib.hid (B3.out.new k5)
  have J15 := Lib.hid (J14.out.new k5)
  have J25 := Lib.hid (J24.out.new k5)
  clear b4 k5 J14 J24 K4 B3 x0 x1 x2 x3 R1
  obtain ⟨x0, x1, x2, x3⟩ := cells4 (BK.out w5 (K1.out.new K5.out) K5.out)
  go_wp2_with fail
  refine ((find_any A n c es k w5 (H.out.new K5.out) HM.out.2.2).mono fun _ _ hh => Fn1.of hh).mono ?_
  obtain ⟨r2, hr2⟩ : ∃ r, findR (fts es) k = r := ⟨_, rfl⟩
  rw [hr2]
  rintro e w6 ⟨A5, c5, rfl, b5, k6, l5⟩
  have R2 := Lib.hid hr2
  have K6 := Lib.hid (K5.out.new k6)
  have B5 := Lib.hid b5
  have L5 := Lib.hid l5
  have B36 := Lib.hid (B35.out.new k6)
  have B46 := Lib.hid (B4.out.new k6)
  have J16 := Lib.hid (J15.out.new k6)
  have J26 := Lib.hid (J25.out.new k6)
  clear b5 k6 l5 J15 J25 K5 B35 B4 x0 x1 x2 x3 hr2
  obtain ⟨x0, x1, x2, x3⟩ := cells4 (BK.out w6 (K1.out.new K6.out) K6.out)
  go_wp2_with fail
  refine ((rfind_any A n c es k w6 (H.out.new K6.out) HM.out.2.2).mono fun _ _ hh => Fn1.of hh).mono ?_
  rw [R2.out]
  rintro e w7 ⟨A6, c6, rfl, b6, k7, _⟩
  have K7 := Lib.hid (K6.out.new k7)
  have B6 := Lib.hid b6
  have B37 := Lib.hid (B36.out.new k7)
  have B47 := Lib.hid (B46.out.new k7)
  have B57 := Lib.hid (B5.out.new k7)
  have J17 := Lib.hid (J16.out.new k7)
  have J27 := Lib.hid (J26.out.new k7)
  clear b6 k7 J16 J26 K6 B36 B46 B5 x0 x1 x2 x3 R2
  go_wp2_with fail
  refine (facts0_any A1 A2 n1 n2 c1 c2 es1 es2 w7 J17.out J27.out LN1.out).mono ?_
  rw [EE.out, decide_eq_true rfl]
  rintro e w8 ⟨rfl, k8⟩
  have K8 := Lib.hid (K7.out.new k8)
  have B38 := Lib.hid (B37.out.new k8)
  have B48 := Lib.hid (B47.out.new k8)
  have B58 := Lib.hid (B57.out.new k8)
  have B68 := Lib.hid (B6.out.new k8)
  have J18 := Lib.hid (J17.out.new k8)
  clear k8 J17 J27 K7 B37 B47 B57 B6
  go_wp2_with fail
  refine (same_yes A3 A4 _ _ c3 c4 (r1.getD []) w8 B38.out B48.out L3.out).mono ?_
  rintro e w9 ⟨rfl, k9⟩
  have K9 := Lib.hid (K8.out.new k9)
  have B59 := Lib.hid (B58.out.new k9)
  have B69 := Lib.hid (B68.out.new k9)
  have J19 := Lib.hid (J18.out.new k9)
  clear k9 J18 K8 B38 B48 B58 B68
  go_wp2_with fail
  refine (same_yes A5 A6 _ _ c5 c6 (r2.getD []) w9 B59.out B69.out L5.out).mono ?_
  rintro e w10 ⟨rfl, k10⟩
  have K10 := Lib.hid (K9.out.new k10)
  have J110 := Lib.hid (J19.out.new k10)
  clear k10 J19 K9 B59 B69
  go_wp2_with fail
  refine (sameF_any A1 A n1 n c1 c es1 es w10 J110.out (H.out.new K10.out) LN1.out).mono ?_
  rintro e w11 ⟨rfl, k11⟩
  have K11 := Lib.hid (K10.out.new k11)
  have J111 := Lib.hid (J110.out.new k11)
  clear k11 K10 J110
  go_wp2_with fail
  refine (facts0_any A1 A n1 n c1 c es1 es w11 J111.out (H.out.new K11.out) LN1.out).mono ?_
  rintro e w12 ⟨rfl, k12⟩
  have K12 := Lib.hid (K1.out.new (K11.out.new k12))
  clear k12 K11 J111
  go_wp2_with fail
  refine (works6_any _).mono ?_
  rintro e w13 ⟨rfl, k13⟩
  have K13 := Lib.hid (K12.out.new k13)
  clear k13 K12
  go_wp2
  go_ret
  exact ⟨rfl, K13.out⟩

set_option maxRecDepth 100000 in
theorem lifted (os : Os) (started : os.Started) (H : Type) (enc : TypeId × Value → H) (F : Stop.Interp) :
    ReturnsInHanded {} Try.checked os 3 .any ((Rows.OpenSpec.upto Rows.factAppliesSpec).pre6 enc Try.prog Try.f3 Rows.factAppliesUptoRow.domain false) (((Rows.OpenSpec.upto Rows.factAppliesSpec).at F).post enc Try.prog Try.f3 false true false false) := by
  refine lift_upto (C := Try.checked) (s := Rows.factAppliesSpec) (tb := 4) own started (by kernel_rfl) Try.func3
    (OpenSpec.witness (enc := enc) (C := Try.checked) (s := Rows.OpenSpec.upto Rows.factAppliesSpec) (k := Rows.uptoSmall) rfl false ⟨#[], #[.slice none 0 0, .slice none 0 0, .agg #[.int .i64 0, .int .u8 0, .string .empty, .int .i64 0]], []⟩ 8 (by kernel_rfl) (by kernel_rfl) (by kernel_rfl)
      (x := ([.nil, .nil, .agg [.lit (.int .i64 0), .lit (.int .u8 0), .lit (.string []), .lit (.int .i64 0)]], [], [])) (by kernel_rfl) rfl (by kernel_rfl))
    rfl (by kernel_rfl) Try.underlying4 ?_ laidOut (of_decide_eq_true (by kernel_rfl)) ?_
  · intro ds hd
    match ds, hd with
    | [d0, d1, d2], _ => exact ⟨rfl, rfl, rfl⟩
  · intro W base args ds hA hk
    have hA : Args enc Try.prog W base Try.f3.params.toList args.toList ds := hA
    rw [Try.params3] at hA
    obtain ⟨v0, vs0, d0, ds0, p0, hargs, rfl, a0, hA⟩ := hA.cons_
    obtain ⟨v1, vs1, d1, ds1, p1, rfl, rfl, a1, hA⟩ := hA.cons_
    obtain ⟨v2, vs2, d2, ds2, p2, rfl, rfl, a2, hA⟩ := hA.cons_
    obtain ⟨rfl, rfl⟩ := hA.nil_
    obtain rfl : args = #[v0, v1, v2] := by cases args; simp_all
    obtain ⟨A0, n0, c0, l0, rfl, b0⟩ := a0.facts_
    obtain ⟨A1, n1, c1, l1, rfl, b1⟩ := a1.changes_
    obtain ⟨k2, rfl, b2⟩ := a2.key_
    exact walk A0 n0 c0 l0 A1 n1 c1 l1 k2 W b0 b1 b2 (smallF a0 Try.underlying22 a1 Try.underlying23 hk)

theorem proved : Rows.FactAppliesUptoSaid :=
  OpenClaim.holds_of_cond 3 Try.f3 rfl rfl rfl rfl rfl rfl rfl ⟨rfl, rfl, rfl, rfl, rfl⟩ rfl rfl rfl rfl rfl (by kernel_rfl) Try.func3 (by kernel_rfl)
    (of_decide_eq_true (by kernel_rfl)) (by unfold Func.isWrapper; first | (rw [if_pos (by decide +kernel)]; kernel_rfl) | (rw [if_neg (by decide +kernel)]; exact ⟨rfl, rfl⟩))
    (fun os started H enc _ F => lifted os started H enc F)
end Go.Proofs.Ytgdhbnhdmhogkaa.factApplies
