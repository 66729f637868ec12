/-
  FactBack: a key comes back of its bytes, whatever stands behind, and two keys have two rows of bytes; for every two keys and every slice of bytes.
-/
import Derived.Test.YtgjipcoobadipaaFl
namespace Go.Proofs.Ytgjipcoobadipaa.factBack
open Go.ChangeShapes Go.WideShapes Go.ChangeAt Go.RowKit

theorem own : ownKnob Try.prog.godebug = none := by kernel_rfl
theorem laidOut : laidOutB Try.prog = true := by kernel_rfl

theorem key_same (k : KY) (w : World) : Sem.run Try.prog (binOp .neq 23 (.agg #[.int .i64 k.i, .int .u8 (k.t : Nat), .string k.n, .int .i64 k.c]) (.agg #[.int .i64 k.i, .int .u8 (k.t : Nat), .string k.n, .int .i64 k.c])) w = .ok (.bool false) w := by
  rw [key_neq, decide_eq_true rfl]
  rfl
set_option maxRecDepth 100000 in
set_option maxHeartbeats 3200000 in
theorem walk (a b : KY) (A : Option Addr) (n c : Nat) (l : List Nat) (w : World) (ha : KyIn a) (hb : KyIn b) (h : IsB w (.slice A n c) A n c l) :
    Calls Try.prog 7 #[.agg #[.int .i64 a.i, .int .u8 (a.t : Nat), .string a.n, .int .i64 a.c], .agg #[.int .i64 b.i, .int .u8 (b.t : Nat), .string b.n, .int .i64 b.c], .slice A n c] w (True1 w) := by
  obtain ⟨i0, hi, hz0, hz1, hz2⟩ := info_parts info_u8
  have HA := Lib.hid ha.2.2.1
  have HB := Lib.hid hb.2.2.1
  have hcap := h.cap
  have hle := h.le
  have HL := Lib.hid h.bts
  have HLL := Lib.hid h.bts.1
  clear ha hb h
  obtain ⟨wb, hwb⟩ : ∃ wb, wb = (w.alloc (.cells #[.int .i64 a.i, .int .u8 (a.t : Nat), .string a.n, .int .i64 a.c] 23)).alloc (.cells #[.int .i64 b.i, .int .u8 (b.t : Nat), .string b.n, .int .i64 b.c] 23) := ⟨_, rfl⟩
  have K0 : Hid (New w wb) := by rw [hwb]; exact ((Kept.refl _ _).alloc _).alloc _
  have BA : Hid (∀ u, New wb u → Blk u w.heap.size 23 [.int .i64 a.i, .int .u8 (a.t : Nat), .string a.n, .int .i64 a.c]) := fun u hu => by rw [hwb] at hu; exact ((Blk.made w _ _).alloc _).kept hu id
  have BB : Hid (∀ u, New wb u → Blk u (w.heap.size + 1) 23 [.int .i64 b.i, .int .u8 (b.t : Nat), .string b.n, .int .i64 b.c]) := fun u hu => by
    rw [hwb] at hu
    have := Blk.made (w.alloc (.cells #[.int .i64 a.i, .int .u8 (a.t : Nat), .string a.n, .int .i64 a.c] 23)) 23 #[.int .i64 b.i, .int .u8 (b.t : Nat), .string b.n, .int .i64 b.c]
    rw [World.size_alloc] at this
    exact this.kept hu id
  have HW := Lib.hid hwb
  clear hwb
  go_enter Try.func7, Try.ntmps7
  go_wp2_with fail
  rw [← HW.out]
  clear HW
  refine (putKey_any a _ HA.out).mono ?_
  rintro e w1 ⟨A1, c1, rfl, o1, k1⟩
  have O1 := Lib.hid o1
  have K1 := Lib.hid k1
  clear o1 k1
  obtain ⟨b0, b1, b2, b3⟩ := cells4 (BB.out w1 K1.out)
  go_wp2_with fail
  refine (putKey_any b _ HB.out).mono ?_
  rintro e w2 ⟨A2, c2, rfl, o2, k2⟩
  have O2 := Lib.hid o2
  have P2 := Lib.hid (O1.out.new k2)
  have K2 := Lib.hid (K1.out.new k2)
  have L2 := Lib.hid (HL.out.new (K0.out.new K2.out))
  have HLN := Lib.hid (pkL_len a)
  have HLB := Lib.hid (pkL_len b)
  clear o2 k2 K1 O1 b0 b1 b2 b3 HL
  obtain ⟨a0, a1, a2, a3⟩ := cells4 (BA.out w2 K2.out)
  by_cases he : pkE a = 0
  · obtain ⟨hm, hpl⟩ := pk_ok he
    obtain ⟨g1, g2, g3⟩ := key_back hm l
    rw [← hpl] at g1 g2 g3
    have G := Lib.hid (And.intro g1 (And.intro g2 g3))
    have HPL := Lib.hid hpl
    have HM := Lib.hid hm
    rw [he]
    clear he g1 g2 g3 hm hpl
    go_wp2_with fail
    refine (copy_any A1 _ c1 _ _ P2.out.bts (by have := HLN.out; omega)).mono ?_
    rintro e w3 ⟨A3, c3, rfl, o3, k3⟩
    have O3 := Lib.hid o3
    have L3 := Lib.hid (L2.out.new k3)
    have N3 := Lib.hid k3
    clear o3 k3 L2 a0 a1 a2 a3
    go_wp2_with (at_builtin; refine wpList_append_bytes _ rfl _ _ _ rfl 5 i0 Try.underlying24 hi hz0 hz1 hz2 w2.heap.size A3 _ c3 (pkL a) rfl O3.out rfl A n c l rfl L3.out ?_ ?_ ?_)
    · have := HLN.out; omega
    · exact N3.out.size
    intro A4 c4 w4 o4 g4 _
    have N4 : Hid (New w2 w4) := Kept.of_own N3.out O3.out g4
    have K4 := Lib.hid (K2.out.new N4.out)
    have P4 := Lib.hid (P2.out.new N4.out)
    have Q4 := Lib.hid (O2.out.new N4.out)
    have hlen : (pkL a ++ l).length = (pkL a).length + n := by rw [List.length_append, L3.out.1]
    have O4 : Hid (Bts w4 A4 ((pkL a).length + n) (pkL a ++ l)) := by have := o4.bts; rwa [hlen] at this
    have HNL : Hid (A4 = none → c4 = 0 ∧ (pkL a).length + n = 0) := by
      intro hA
      rcases o4.2 with ⟨_, h1, h2⟩ | ⟨g, sp, h1, _⟩
      · exact ⟨h1, by rw [← hlen, h2]; rfl⟩
      · rw [hA] at h1; cases h1
    clear o4 g4 O3 L3 N3 N4 K2 P2 O2 hlen
    go_wp2_with fail
    refine (new_big A4 _ c4 _ _ O4.out (by have := HLN.out; omega) HNL.out).mono ?_
    rintro e w5 ⟨g, rfl, r5, hg5, k5⟩
    have R5 := Lib.hid r5.any
    have K5 := Lib.hid (K4.out.new k5)
    have P5 := Lib.hid (P4.out.new k5)
    have Q5 := Lib.hid (Q4.out.new k5)
    have hgb : wb.heap.size ≤ g := Nat.le_trans K4.out.size hg5
    clear r5 k5 hg5 K4 P4 Q4 O4 HNL
    go_wp2_with fail
    have HG2 : Hid (gkK (pkL a ++ l) = a) := G.out.2.1
    refine (getKey_any g _ _ R5.out).mono ?_
    rw [show GkP Any w5 g (pkL a ++ l) = fun e w' => e = .returned (.tuple #[.agg #[.int .i64 a.i, .int .u8 (a.t : Nat), .string a.n, .int .i64 a.c], .int .i64 0]) ∧ Rdr Any w' g l ∧ Kept (· = g) w5 w' from by
      funext e w'
      unfold GkP
      rw [G.out.2.1, G.out.1, G.out.2.2]]
    rintro e w6 ⟨rfl, r6, k6⟩
    obtain ⟨w7, hw7⟩ : ∃ w7, w7 = w6.alloc (.cells #[.int .i64 a.i, .int .u8 (a.t : Nat), .string a.n, .int .i64 a.c] 23) := ⟨_, rfl⟩
    have n7 : New w6 w7 := by rw [hw7]; exact (Kept.refl _ _).alloc _
    have R7 := Lib.hid (r6.new n7)
    have K6 : Hid (New wb w6) := K5.out.trans k6 fun i hi e => by omega
    have K7 := Lib.hid (K6.out.new n7)
    have P7 := Lib.hid (((P5.out.keptR k6 R5.out.at_).new n7).bts)
    have Q7 := Lib.hid (((Q5.out.keptR k6 R5.out.at_).new n7).bts)
    have HW7 := Lib.hid hw7
    have HQ := key_same a
    obtain ⟨a0, a1, a2, a3⟩ := cells4 (BA.out w6 K6.out)
    have hwb : w.heap.size < w6.heap.size := (BA.out w6 K6.out).lt
    clear hw7 n7 r6 k6 R5 K5 P5 Q5 G HG2
    have hln := HLN.out
    have hlb := HLB.out
    generalize hpa : pkL a = pa at *
    generalize hpb : pkL b = pb at *
    generalize hna : pa.length = na at *
    generalize hnb : pb.length = nb at *
    have HPA := Lib.hid hpa
    have HPB := Lib.hid hpb
    clear hpa hpb hna hnb HLN HLB
    go_wp2_with fail
    rw [← HW7.out]
    refine (eleft_any g l _ R7.out).mono ?_
    rintro e w8 ⟨rfl, rfl⟩
    clear HW7 a0 a1 a2 a3
    have hll : l.length = n := HLL.out
    rw [hll]
    clear hll hwb
    obtain ⟨a0, a1, a2, a3⟩ := cells4 (BA.out w7 K7.out)
    obtain ⟨b0, b1, b2, b3⟩ := cells4 (BB.out w7 K7.out)
    have HEQ := fun u => key_eql a b u
    have cW := Lib.hid (fun (d : Nat) (os : Array Obj) => Calls.regrown_of (d := d) (os := os) ((works6_any (Go.Sort.grow (redrawn w7 d) os)).mono fun e w' h => ⟨h.1, h.2.below⟩))
    have cS := Lib.hid (fun (d : Nat) (os : Array Obj) => Calls.regrown_of (d := d) (os := os) ((same_any A1 A2 na nb c1 c2 pa pb (Go.Sort.grow (redrawn w7 d) os) (P7.out.new (New.of_below (below_regrown w7 d os))) (Q7.out.new (New.of_below (below_regrown w7 d os))) (by unfold maxLen; omega)).mono fun e w' h => by
      obtain ⟨q, h1, rfl⟩ := h
      exact ⟨h1, ((Kept.refl (fun _ => False) _).drewN q).below⟩))
    have x0 := fun d os => cell_regrown a0 d os
    have x1 := fun d os => cell_regrown a1 d os
    have x2 := fun d os => cell_regrown a2 d os
    have x3 := fun d os => cell_regrown a3 d os
    have y0 := fun d os => cell_regrown b0 d os
    have y1 := fun d os => cell_regrown b1 d os
    have y2 := fun d os => cell_regrown b2 d os
    have y3 := fun d os => cell_regrown b3 d os
    clear a0 a1 a2 a3 b0 b1 b2 b3 P7 Q7 R7
    by_cases hf : pkE b = 0
    · have HD : Hid (decide (pa = pb) = decide (a = b)) := by
        obtain ⟨hm2, hp2⟩ := pk_ok hf
        show _ = _
        rw [decide_eq_decide, HPL.out, ← HPB.out, hp2]
        exact ⟨keyB_inj HM.out hm2, fun e => by rw [e]⟩
      rw [hf]
      rw [HD.out] at cS
      clear hf HPA HPB HPL HD
      generalize decide (a = b) = r at *
      go_wp2
      refine wp_region_quiet_below (by kernel_rfl) (by kernel_rfl) ?_
      repeat (quiet_step (first
        | (go_at_call 18; exact cS.out _ _)
        | (go_at_call 19; exact cW.out _ _)))
      refine wpQuiet_nil ?_
      intro _ hw'
      obtain ⟨⟨dq, osq⟩, hw''⟩ := hw'
      subst hw''
      have K9 : Hid (New w (Go.Sort.grow (redrawn w7 dq) osq)) := (K0.out.new K7.out).new (New.of_below (below_regrown w7 dq osq))
      go_wp2
      go_ret
      exact ⟨rfl, K9.out⟩
    · have d : (pkE b != 0) = true := bne_iff_ne.2 hf
      clear hf HPA HPB HPL
      generalize pkE b = eb at *
      go_wp2
      refine wp_region_quiet_below (by kernel_rfl) (by kernel_rfl) ?_
      repeat (quiet_step (first
        | (go_at_call 18; exact cS.out _ _)
        | (go_at_call 19; exact cW.out _ _)))
      refine wpQuiet_nil ?_
      intro _ hw'
      obtain ⟨⟨dq, osq⟩, hw''⟩ := hw'
      subst hw''
      have K9 : Hid (New w (Go.Sort.grow (redrawn w7 dq) osq)) := (K0.out.new K7.out).new (New.of_below (below_regrown w7 dq osq))
      go_wp2
      go_ret
      exact ⟨rfl, K9.out⟩
  · obtain ⟨hm, hpe⟩ := pk_bad he
    have HM : Hid (∀ u, Calls Try.prog 14 #[.agg #[.int .i64 a.i, .int .u8 (a.t : Nat), .string a.n, .int .i64 a.c]] u (NewBool u false)) := fun u => by
      have := may_any a u HA.out
      rw [hm] at this
      exact this
    rw [hpe]
    clear he hm hpe
    go_wp2_with fail
    refine (HM.out _).mono ?_
    rintro e w3 ⟨rfl, k3⟩
    have K3 := Lib.hid (K2.out.new k3)
    clear k3
    go_wp2_with fail
    refine (works6_any _).mono ?_
    rintro e w4 ⟨rfl, k4⟩
    have K9 : Hid (New w w4) := K0.out.new (K3.out.new k4)
    clear k4
    go_wp2
    go_ret
    exact ⟨rfl, K9.out⟩

set_option maxRecDepth 100000 in
theorem lifted (os : Os) (started : os.Started) (H : Type) (enc : TypeId × Value → H) :
    ReturnsInHanded {} Try.checked os 7 .any (Rows.factBackSpec.pre6 enc Try.prog Try.f7 Rows.factBackRow.domain false) (Rows.factBackSpec.post enc Try.prog Try.f7 false true false false) := by
  refine lift_new (C := Try.checked) (s := Rows.factBackSpec) (tb := 4) own started (by kernel_rfl) Try.func7
    (ChangeSpec.witness6 (enc := enc) (C := Try.checked) false ⟨#[], #[.agg #[.int .i64 0, .int .u8 0, .string .empty, .int .i64 0], .agg #[.int .i64 0, .int .u8 0, .string .empty, .int .i64 0], .slice none 0 0], []⟩ 8 (by kernel_rfl) (by kernel_rfl) (by kernel_rfl) (by kernel_rfl))
    rfl (by kernel_rfl) Try.underlying4 ?_ laidOut (of_decide_eq_true (by kernel_rfl)) ?_
  · intro ds hd
    match ds, hd with
    | [d0, d1, d2], _ => exact ⟨rfl, rfl, rfl⟩
  · intro W base args ds hA
    have hA : Args enc Try.prog W base Try.f7.params.toList args.toList ds := hA
    rw [Try.params7] at hA
    obtain ⟨v0, vs0, d0, ds0, p0, hargs, rfl, a0, hA⟩ := hA.cons_
    obtain ⟨v1, vs1, d1, ds1, p1, rfl, rfl, a1, hA⟩ := hA.cons_
    obtain ⟨v2, vs2, d2, ds2, p2, rfl, rfl, a2, hA⟩ := hA.cons_
    obtain ⟨rfl, rfl⟩ := hA.nil_
    obtain rfl : args = #[v0, v1, v2] := by cases args; simp_all
    obtain ⟨k0, rfl, b0⟩ := a0.key_
    obtain ⟨k1, rfl, b1⟩ := a1.key_
    obtain ⟨A2, n2, c2, l2, b2⟩ := a2.bytes_ Try.underlying24 Try.underlying5 (by kernel_rfl) (by kernel_rfl)
    obtain rfl := b2.val
    exact walk k0 k1 A2 n2 c2 l2 W b0 b1 b2

theorem over : Rows.factBackRow.holds Try.pinned (OpenSpec.ofChange Rows.factBackSpec) :=
  OpenClaim.holds_of_wide 7 Try.f7 rfl rfl rfl rfl rfl rfl rfl ⟨rfl, rfl, rfl, rfl, rfl⟩ rfl rfl rfl rfl rfl (by kernel_rfl) Try.func7 (by kernel_rfl)
    (of_decide_eq_true (by kernel_rfl)) (by unfold Func.isWrapper; first | (rw [if_pos (by decide +kernel)]; kernel_rfl) | (rw [if_neg (by decide +kernel)]; exact ⟨rfl, rfl⟩))
    (fun os started H enc _ => lifted os started H enc)

theorem proved : Rows.FactBackSaid := over
end Go.Proofs.Ytgjipcoobadipaa.factBack
