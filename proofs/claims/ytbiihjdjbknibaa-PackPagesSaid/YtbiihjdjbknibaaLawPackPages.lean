/-
  PackPages: the pages of whatever facts, how many, and what one takes, are the document's, or its error; for every size, list of facts and fact.
-/
import Derived.Test.YtbiihjdjbknibaaBg
namespace Go.Proofs.Ytbiihjdjbknibaa.packPages
open Go.ChangeShapes Go.WideShapes Go.ChangeAt Go.RowKit

theorem own : ownKnob Try.prog.godebug = none := by kernel_rfl
theorem laidOut : laidOutB Try.prog = true := by kernel_rfl

set_option maxRecDepth 100000 in
set_option maxHeartbeats 6400000 in
theorem walk (x0 : Int) (A : Option Addr) (n c : Nat) (es : List FE) (x : FE) (w : World)
    (_b0 : -9223372036854775808 ≤ x0 ∧ x0 ≤ 9223372036854775807) (b1 : FsIn w A n c es) (b2 : EOk w x ∧ KyIn x.f.k) :
    Calls Try.prog 3 #[.int .i64 x0, .slice A n c, .agg #[.int .i64 x.f.k.i, .int .u8 (x.f.k.t : Nat), .string x.f.k.n, .int .i64 x.f.k.c, .slice x.A x.f.v.length x.c]] w (True1 w) := by
  have h64 : n * 64 ≤ 140737488355328 := by have := b1.2.2.2.2.1; omega
  have H := Lib.hid b1.1
  have C1 := fun u hu => Lib.hid (pPages_any x0 A n c es u (b1.1.new hu) h64 b1.2.2.1)
  have C2 := fun u hu => Lib.hid (rPages_any x0 A n c es u (b1.1.new hu) h64)
  have C3 := fun u hu => Lib.hid (pMany_any x0 A n c es u (b1.1.new hu) h64)
  have C4 := fun u hu => Lib.hid (rMany_any x0 A n c es u (b1.1.new hu) h64)
  have C5 := Lib.hid (pcost_new x.f x.A x.c (costF x.f) rfl b2.1.2.2.2 b2.1.2.2.1)
  have C6 := Lib.hid (rcost_new x.f x.A x.c (costF x.f) rfl b2.1.2.2.2 b2.1.2.2.1)
  have HLE : Hid (∀ p ∈ pgL x0 (fts es), p.length ≤ maxLen) := fun p hp => by have := pgL_le hp; unfold maxLen; omega
  have hpb : (pgL x0 (fts es)).length ≤ 2199023255552 := by
    rw [pgL_len]
    refine Nat.le_trans paP_len ?_
    rw [fts_lenE, b1.1.len]
    omega
  clear b1 b2 h64
  obtain ⟨xf, xA, xc⟩ := x
  dsimp only at *
  generalize costF xf = cf at *
  obtain ⟨xk, xv⟩ := xf
  dsimp only at *
  generalize xv.length = vn at *
  go_enter Try.func3, Try.ntmps3
  have K0 : Hid (New w (w.alloc (.cells #[.int .i64 xk.i, .int .u8 (xk.t : Nat), .string xk.n, .int .i64 xk.c, .slice xA vn xc] 27))) := (Kept.refl _ _).alloc _
  have B0 : Hid (Blk (w.alloc (.cells #[.int .i64 xk.i, .int .u8 (xk.t : Nat), .string xk.n, .int .i64 xk.c, .slice xA vn xc] 27)) w.heap.size 27 [.int .i64 xk.i, .int .u8 (xk.t : Nat), .string xk.n, .int .i64 xk.c, .slice xA vn xc]) := Blk.made w _ _
  go_wp2_with fail
  refine (C1 _ K0.out).out.mono ?_
  rintro e w1 ⟨A1, c1, g1, rfl, e1, o1, _, k1⟩
  have G1 := Lib.hid (GOwn.in_ pr_page o1 e1)
  have L1 : Hid (g1.length = (pgL x0 (fts es)).length) := by rw [Hid, ← e1]; unfold gls; rw [List.length_map]
  have K1 := Lib.hid (K0.out.new k1)
  have B1 := Lib.hid (B0.out.kept k1 id)
  clear e1 o1 k1 C1 K0 B0
  rw [L1.out]
  clear L1
  go_wp2_with fail
  refine (C2 _ K1.out).out.mono ?_
  rintro e w2 ⟨A2, c2, g2, rfl, e2, o2, _, k2⟩
  have G2 := Lib.hid (GOwn.in_ pr_own o2 e2)
  have L2 : Hid (g2.length = (pgL x0 (fts es)).length) := by rw [Hid, ← e2]; unfold gls; rw [List.length_map]
  have K2 := Lib.hid (K1.out.new k2)
  have B2 := Lib.hid (B1.out.kept k2 id)
  have G1 := Lib.hid (G1.out.new k2)
  clear e2 o2 k2 C2 K1 B1
  rw [L2.out]
  clear L2
  go_wp2_with fail
  refine (C3 _ K2.out).out.mono ?_
  rintro e w3 ⟨rfl, k3⟩
  have K3 := Lib.hid (K2.out.new k3)
  have B3 := Lib.hid (B2.out.kept k3 id)
  have G13 := Lib.hid (G1.out.new k3)
  have G23 := Lib.hid (G2.out.new k3)
  clear k3 C3 K2 B2 G1 G2
  go_wp2_with fail
  refine (C4 _ K3.out).out.mono ?_
  rintro e w4 ⟨rfl, k4⟩
  have K4 := Lib.hid (K3.out.new k4)
  have B4 := Lib.hid (B3.out.kept k4 id)
  have G14 := Lib.hid (G13.out.new k4)
  have G24 := Lib.hid (G23.out.new k4)
  clear k4 C4 K3 B3 G13 G23
  generalize paE x0 (fts es) = pe at *
  generalize (paP x0 (fts es)).length = pm at *
  generalize hpl : pgL x0 (fts es) = pl at *
  clear hpl
  generalize hpn : pl.length = pn at *
  have HPN := Lib.hid hpn
  clear hpn H
  have a0 : w4.cell? ⟨w.heap.size, 0, none⟩ = some (.int .i64 xk.i) := B4.out.cell 0
  have a1 : w4.cell? ⟨w.heap.size, 1, none⟩ = some (.int .u8 (xk.t : Nat)) := B4.out.cell 1
  have a2 : w4.cell? ⟨w.heap.size, 2, none⟩ = some (.string xk.n) := B4.out.cell 2
  have a3 : w4.cell? ⟨w.heap.size, 3, none⟩ = some (.int .i64 xk.c) := B4.out.cell 3
  have a4 : w4.cell? ⟨w.heap.size, 4, none⟩ = some (.slice xA vn xc) := B4.out.cell 4
  have p0 := fun d os => cell_regrown a0 d os
  have p1 := fun d os => cell_regrown a1 d os
  have p2 := fun d os => cell_regrown a2 d os
  have p3 := fun d os => cell_regrown a3 d os
  have p4 := fun d os => cell_regrown a4 d os
  have c5 := Lib.hid (fun (d : Nat) (os : Array Obj) => Calls.regrown_of (d := d) (os := os) (C5.out (Go.Sort.grow (redrawn w4 d) os)))
  have c6 := Lib.hid (fun (d : Nat) (os : Array Obj) => Calls.regrown_of (d := d) (os := os) (C6.out (Go.Sort.grow (redrawn w4 d) os)))
  clear a0 a1 a2 a3 a4 C5 C6
  generalize w.heap.size = gx at *
  go_wp2_with fail
  refine wp_region_quiet_below (by kernel_rfl) (by kernel_rfl) ?_
  repeat (quiet_step (first
    | (go_at_call 12; exact c5.out _ _)
    | (go_at_call 13; exact c6.out _ _)))
  refine wpQuiet_nil ?_
  intro _ hw'
  obtain ⟨⟨dq, osq⟩, hw''⟩ := hw'
  subst hw''
  have K9 : Hid (New w (Go.Sort.grow (redrawn w4 dq) osq)) := new_regrown K4.out dq osq
  have M9 : New w4 (Go.Sort.grow (redrawn w4 dq) osq) := new_regrown (Kept.refl _ _) dq osq
  have G19 := Lib.hid (G14.out.new M9)
  have G29 := Lib.hid (G24.out.new M9)
  clear M9 G14 G24 K4 B4 c5 c6 p0 p1 p2 p3 p4
  generalize Go.Sort.grow (redrawn w4 dq) osq = w9 at *
  go_wp2_with fail
  go_loopw [15] (fun i wr => ∃ k : Nat, k ≤ pn ∧ i = .int .i64 k ∧ Hid (New w9 wr)) (fun i _ => pn - (intOf i).toNat)
  case atStart => exact ⟨0, Nat.zero_le _, rfl, Kept.refl _ _⟩
  case round =>
    obtain ⟨k, hk, rfl, HN⟩ := hrel
    by_cases hlt : k < pn
    · obtain ⟨l, hl⟩ : ∃ l, pl[k]? = some l := ⟨_, List.getElem?_eq_getElem (by rw [HPN.out]; exact hlt)⟩
      obtain ⟨ga, X, d1, eA, x0, b1, _⟩ := G19.out _ HN.out k l hl
      obtain ⟨gb, Y, d2, eB, y0, b2, _⟩ := G29.out _ HN.out k l hl
      have hle := HLE.out l (List.mem_of_getElem? hl)
      have HNr := HN.out
      subst eA eB
      have s1 : (0 : Int) ≤ (k : Int) := by omega
      have s3 : (k : Int) < (pn : Int) := by omega
      have q0 := fun d os => cell_regrown x0 d os
      have q1 := fun d os => cell_regrown y0 d os
      go_wp2_with fail
      have cS := Lib.hid (fun (d : Nat) (os : Array Obj) => Calls.regrown_of (d := d) (os := os) (same_new X Y l.length l.length d1 d2 l l true (decide_eq_true rfl) hle (Go.Sort.grow (redrawn wr d) os) (b1.new (new_regrown (Kept.refl _ _) d os)) (b2.new (new_regrown (Kept.refl _ _) d os))))
      clear x0 y0 b1 b2 hl hle
      generalize l.length = ln at *
      refine wp_region_quiet_below (by kernel_rfl) (by kernel_rfl) ?_
      repeat (quiet_step (first
        | (go_at_call 14; exact cS.out _ _)))
      refine wpQuiet_nil ?_
      intro _ hw'
      obtain ⟨⟨dq, osq⟩, hw''⟩ := hw'
      subst hw''
      have N9 : Hid (New w9 (Go.Sort.grow (redrawn wr dq) osq)) := new_regrown HNr dq osq
      clear cS q0 q1 HN HNr
      go_wp2
      go_roundw
      case rel => exact ⟨k + 1, by omega, by go_num, N9⟩
      case measure => simp [intOf]; omega
    · have KE := works13_k (wc := wr) (K9.out.new HN.out)
      clear HN K9 G19 G29
      go_wp2_with fail
      refine KE.mono ?_
      rintro e w5 ⟨rfl, k5⟩
      have K5 := Lib.hid k5
      clear k5 KE
      go_wp2
      go_ret
      exact ⟨rfl, K5.out⟩

set_option maxRecDepth 100000 in
theorem lifted (os : Os) (started : os.Started) (H : Type) (enc : TypeId × Value → H) :
    ReturnsInHanded {} Try.checked os 3 .any (Rows.packPagesSpec.pre6 enc Try.prog Try.f3 Rows.packPagesRow.domain false) (Rows.packPagesSpec.post enc Try.prog Try.f3 false true false false) := by
  refine lift_new (C := Try.checked) (s := Rows.packPagesSpec) (tb := 4) own started (by kernel_rfl) Try.func3
    (ChangeSpec.witness6 (enc := enc) (C := Try.checked) false ⟨#[], #[.int .i64 0, .slice none 0 0, .agg #[.int .i64 0, .int .u8 0, .string .empty, .int .i64 0, .slice none 0 0]], []⟩ 8 (by kernel_rfl) (by kernel_rfl) (by kernel_rfl) (by kernel_rfl))
    rfl (by kernel_rfl) Try.underlying4 ?_ laidOut (of_decide_eq_true (by kernel_rfl)) ?_
  · intro ds hd
    match ds, hd with
    | [d0, d1, d2], _ => exact ⟨rfl, rfl, rfl⟩
  · intro W base args ds hA
    have hA : Args enc Try.prog W base Try.f3.params.toList args.toList ds := hA
    rw [Try.params3] at hA
    obtain ⟨v0, vs0, d0, ds0, p0, hargs, rfl, a0, hA⟩ := hA.cons_
    obtain ⟨v1, vs1, d1, ds1, p1, rfl, rfl, a1, hA⟩ := hA.cons_
    obtain ⟨v2, vs2, d2, ds2, p2, rfl, rfl, a2, hA⟩ := hA.cons_
    obtain ⟨rfl, rfl⟩ := hA.nil_
    obtain rfl : args = #[v0, v1, v2] := by cases args; simp_all
    obtain ⟨x0, rfl, w0⟩ := a0.int_ Try.underlying3
    obtain ⟨A1, n1, c1, l1, rfl, b1⟩ := a1.facts_
    obtain ⟨x2, rfl, b2⟩ := a2.fact_
    exact walk x0 A1 n1 c1 l1 x2 W (i64_bounds w0) b1 b2

theorem over : Rows.packPagesRow.holds Try.pinned (OpenSpec.ofChange Rows.packPagesSpec) :=
  OpenClaim.holds_of_wide 3 Try.f3 rfl rfl rfl rfl rfl rfl rfl ⟨rfl, rfl, rfl, rfl, rfl⟩ rfl rfl rfl rfl rfl (by kernel_rfl) Try.func3 (by kernel_rfl)
    (of_decide_eq_true (by kernel_rfl)) (by unfold Func.isWrapper; first | (rw [if_pos (by decide +kernel)]; kernel_rfl) | (rw [if_neg (by decide +kernel)]; exact ⟨rfl, rfl⟩))
    (fun os started H enc _ => lifted os started H enc)

theorem proved : Rows.PackPagesSaid := over
end Go.Proofs.Ytbiihjdjbknibaa.packPages
