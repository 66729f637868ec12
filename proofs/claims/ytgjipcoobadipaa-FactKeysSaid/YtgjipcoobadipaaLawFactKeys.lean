/-
  FactKeys: what may be, what stands ahead of what, and a key's bytes are the document's, or its error; for every two keys.
-/
import Derived.Test.YtgjipcoobadipaaFh
namespace Go.Proofs.Ytgjipcoobadipaa.factKeys
open Go.ChangeShapes Go.WideShapes Go.ChangeAt Go.RowKit

theorem own : ownKnob Try.prog.godebug = none := by kernel_rfl
theorem laidOut : laidOutB Try.prog = true := by kernel_rfl

set_option maxRecDepth 100000 in
set_option maxHeartbeats 3200000 in
theorem walk (a b : KY) (w : World) (ha : KyIn a) (hb : KyIn b) :
    Calls Try.prog 3 #[.agg #[.int .i64 a.i, .int .u8 (a.t : Nat), .string a.n, .int .i64 a.c], .agg #[.int .i64 b.i, .int .u8 (b.t : Nat), .string b.n, .int .i64 b.c]] w (True1 w) := by
  have HA := Lib.hid ha.2.2.1
  have HB := Lib.hid hb.2.2.1
  clear ha hb
  obtain ⟨wb, hwb⟩ : ∃ wb, wb = (w.alloc (.cells #[.int .i64 a.i, .int .u8 (a.t : Nat), .string a.n, .int .i64 a.c] 23)).alloc (.cells #[.int .i64 b.i, .int .u8 (b.t : Nat), .string b.n, .int .i64 b.c] 23) := ⟨_, rfl⟩
  have K0 : Hid (New w wb) := by rw [hwb]; exact ((Kept.refl _ _).alloc _).alloc _
  have BA : Hid (∀ u, New wb u → Blk u w.heap.size 23 [.int .i64 a.i, .int .u8 (a.t : Nat), .string a.n, .int .i64 a.c]) := fun u hu => by rw [hwb] at hu; exact ((Blk.made w _ _).alloc _).kept hu id
  have BB : Hid (∀ u, New wb u → Blk u (w.heap.size + 1) 23 [.int .i64 b.i, .int .u8 (b.t : Nat), .string b.n, .int .i64 b.c]) := fun u hu => by
    rw [hwb] at hu
    have := Blk.made (w.alloc (.cells #[.int .i64 a.i, .int .u8 (a.t : Nat), .string a.n, .int .i64 a.c] 23)) 23 #[.int .i64 b.i, .int .u8 (b.t : Nat), .string b.n, .int .i64 b.c]
    rw [World.size_alloc] at this
    exact this.kept hu id
  have HW := Lib.hid hwb
  clear hwb
  go_enter Try.func3, Try.ntmps3
  go_wp2_with fail
  rw [← HW.out]
  clear HW
  refine (putKey_any a _ HA.out).mono ?_
  rintro e w1 ⟨A1, c1, rfl, o1, k1⟩
  have O1 := Lib.hid o1.bts
  have K1 := Lib.hid k1
  clear o1 k1
  obtain ⟨a0, a1, a2, a3⟩ := cells4 (BA.out w1 K1.out)
  go_wp2_with fail
  refine (rputKey_any a _ HA.out).mono ?_
  rintro e w2 ⟨A2, c2, rfl, o2, k2⟩
  have HLN := Lib.hid (pkL_len a)
  have O2 := Lib.hid o2.bts
  have P2 := Lib.hid (O1.out.new k2)
  have K2 := Lib.hid (K1.out.new k2)
  clear o2 k2 K1 O1 a0 a1 a2 a3
  generalize pkL a = pl at *
  generalize pkE a = pe at *
  generalize hn : pl.length = n at *
  have hn16 := HLN.out
  clear hn
  obtain ⟨a0, a1, a2, a3⟩ := cells4 (BA.out w2 K2.out)
  obtain ⟨b0, b1, b2, b3⟩ := cells4 (BB.out w2 K2.out)
  have x0 := fun d os => cell_regrown a0 d os
  have x1 := fun d os => cell_regrown a1 d os
  have x2 := fun d os => cell_regrown a2 d os
  have x3 := fun d os => cell_regrown a3 d os
  have y0 := fun d os => cell_regrown b0 d os
  have y1 := fun d os => cell_regrown b1 d os
  have y2 := fun d os => cell_regrown b2 d os
  have y3 := fun d os => cell_regrown b3 d os
  have cM := Lib.hid (fun (d : Nat) (os : Array Obj) => Calls.regrown_of (d := d) (os := os) ((may_any a (Go.Sort.grow (redrawn w2 d) os) HA.out).mono fun e w' h => ⟨h.1, h.2.below⟩))
  have cN := Lib.hid (fun (d : Nat) (os : Array Obj) => Calls.regrown_of (d := d) (os := os) ((rmay_any a (Go.Sort.grow (redrawn w2 d) os) HA.out).mono fun e w' h => ⟨h.1, h.2.below⟩))
  have cB := Lib.hid (fun (d : Nat) (os : Array Obj) => Calls.regrown_of (d := d) (os := os) ((before_any a b (Go.Sort.grow (redrawn w2 d) os)).mono fun e w' h => ⟨h.1, h.2.below⟩))
  have cR := Lib.hid (fun (d : Nat) (os : Array Obj) => Calls.regrown_of (d := d) (os := os) ((rbefore_any a b (Go.Sort.grow (redrawn w2 d) os) HA.out HB.out).mono fun e w' h => ⟨h.1, h.2.below⟩))
  have cS := Lib.hid (fun (d : Nat) (os : Array Obj) => Calls.regrown_of (d := d) (os := os) ((same_eq A1 A2 n c1 c2 pl (Go.Sort.grow (redrawn w2 d) os) (P2.out.new (New.of_below (below_regrown w2 d os))) (O2.out.new (New.of_below (below_regrown w2 d os))) (by unfold maxLen; omega)).mono fun e w' h => by
    obtain ⟨q, h1, rfl⟩ := h
    exact ⟨h1, ((Kept.refl (fun _ => False) _).drewN q).below⟩))
  have cW := Lib.hid (fun (d : Nat) (os : Array Obj) => Calls.regrown_of (d := d) (os := os) ((works6_any (Go.Sort.grow (redrawn w2 d) os)).mono fun e w' h => ⟨h.1, h.2.below⟩))
  clear a0 a1 a2 a3 b0 b1 b2 b3 HLN
  generalize mayK a = r1 at *
  generalize befK a b = r2 at *
  go_wp2
  refine wp_region_quiet_below (by kernel_rfl) (by kernel_rfl) ?_
  repeat (quiet_step (first
    | (go_at_call 14; exact cM.out _ _)
    | (go_at_call 15; exact cN.out _ _)
    | (go_at_call 16; exact cB.out _ _)
    | (go_at_call 17; exact cR.out _ _)
    | (go_at_call 18; exact cS.out _ _)
    | (go_at_call 19; exact cW.out _ _)))
  refine wpQuiet_nil ?_
  intro _ hw'
  obtain ⟨⟨dq, osq⟩, hw''⟩ := hw'
  subst hw''
  have K9 : Hid (New w (Go.Sort.grow (redrawn w2 dq) osq)) := (K0.out.new K2.out).new (New.of_below (below_regrown w2 dq osq))
  go_wp2
  go_ret
  exact ⟨rfl, K9.out⟩

set_option maxRecDepth 100000 in
theorem lifted (os : Os) (started : os.Started) (H : Type) (enc : TypeId × Value → H) :
    ReturnsInHanded {} Try.checked os 3 .any (Rows.factKeysSpec.pre6 enc Try.prog Try.f3 Rows.factKeysRow.domain false) (Rows.factKeysSpec.post enc Try.prog Try.f3 false true false false) := by
  refine lift_new (C := Try.checked) (s := Rows.factKeysSpec) (tb := 4) own started (by kernel_rfl) Try.func3
    (ChangeSpec.witness6 (enc := enc) (C := Try.checked) false ⟨#[], #[.agg #[.int .i64 0, .int .u8 0, .string .empty, .int .i64 0], .agg #[.int .i64 0, .int .u8 0, .string .empty, .int .i64 0]], []⟩ 8 (by kernel_rfl) (by kernel_rfl) (by kernel_rfl) (by kernel_rfl))
    rfl (by kernel_rfl) Try.underlying4 ?_ laidOut (of_decide_eq_true (by kernel_rfl)) ?_
  · intro ds hd
    match ds, hd with
    | [d0, d1], _ => exact ⟨rfl, rfl, rfl⟩
  · intro W base args ds hA
    have hA : Args enc Try.prog W base Try.f3.params.toList args.toList ds := hA
    rw [Try.params3] at hA
    obtain ⟨v0, vs0, d0, ds0, p0, hargs, rfl, a0, hA⟩ := hA.cons_
    obtain ⟨v1, vs1, d1, ds1, p1, rfl, rfl, a1, hA⟩ := hA.cons_
    obtain ⟨rfl, rfl⟩ := hA.nil_
    obtain rfl : args = #[v0, v1] := by cases args; simp_all
    obtain ⟨k0, rfl, b0⟩ := a0.key_
    obtain ⟨k1, rfl, b1⟩ := a1.key_
    exact walk k0 k1 W b0 b1

theorem over : Rows.factKeysRow.holds Try.pinned (OpenSpec.ofChange Rows.factKeysSpec) :=
  OpenClaim.holds_of_wide 3 Try.f3 rfl rfl rfl rfl rfl rfl rfl ⟨rfl, rfl, rfl, rfl, rfl⟩ rfl rfl rfl rfl rfl (by kernel_rfl) Try.func3 (by kernel_rfl)
    (of_decide_eq_true (by kernel_rfl)) (by unfold Func.isWrapper; first | (rw [if_pos (by decide +kernel)]; kernel_rfl) | (rw [if_neg (by decide +kernel)]; exact ⟨rfl, rfl⟩))
    (fun os started H enc _ => lifted os started H enc)

theorem proved : Rows.FactKeysSaid := over
end Go.Proofs.Ytgjipcoobadipaa.factKeys
