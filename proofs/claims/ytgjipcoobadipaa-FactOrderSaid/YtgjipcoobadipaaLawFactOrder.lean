/-
  FactOrder: of two keys just one stands ahead, or they are one, and what is ahead of one that is ahead is ahead; for every three keys.
-/
import Derived.Test.YtgjipcoobadipaaFh
namespace Go.Proofs.Ytgjipcoobadipaa.factOrder
open Go.ChangeShapes Go.WideShapes Go.ChangeAt Go.RowKit

theorem own : ownKnob Try.prog.godebug = none := by kernel_rfl
theorem laidOut : laidOutB Try.prog = true := by kernel_rfl

/-- Before answers r of these two keys. -/
def BfA (a b : KY) (r : Bool) : Prop :=
  ∀ u : World, Calls Try.prog 16 #[.agg #[.int .i64 a.i, .int .u8 (a.t : Nat), .string a.n, .int .i64 a.c], .agg #[.int .i64 b.i, .int .u8 (b.t : Nat), .string b.n, .int .i64 b.c]] u (NewBool u r)
theorem bfA (a b : KY) (r : Bool) (h : befK a b = r) : BfA a b r := fun u => h ▸ before_any a b u

set_option maxRecDepth 100000 in
set_option maxHeartbeats 3200000 in
theorem walk (a b c : KY) (w : World) (_b0 : KyIn a) (_b1 : KyIn b) (_b2 : KyIn c) :
    Calls Try.prog 8 #[.agg #[.int .i64 a.i, .int .u8 (a.t : Nat), .string a.n, .int .i64 a.c], .agg #[.int .i64 b.i, .int .u8 (b.t : Nat), .string b.n, .int .i64 b.c], .agg #[.int .i64 c.i, .int .u8 (c.t : Nat), .string c.n, .int .i64 c.c]] w (True1 w) := by
  clear _b0 _b1 _b2
  obtain ⟨wb, hwb⟩ : ∃ wb, wb = ((w.alloc (.cells #[.int .i64 a.i, .int .u8 (a.t : Nat), .string a.n, .int .i64 a.c] 23)).alloc (.cells #[.int .i64 b.i, .int .u8 (b.t : Nat), .string b.n, .int .i64 b.c] 23)).alloc (.cells #[.int .i64 c.i, .int .u8 (c.t : Nat), .string c.n, .int .i64 c.c] 23) := ⟨_, rfl⟩
  have K0 : Hid (New w wb) := by rw [hwb]; exact (((Kept.refl _ _).alloc _).alloc _).alloc _
  have BA : Hid (∀ u, New wb u → Blk u w.heap.size 23 [.int .i64 a.i, .int .u8 (a.t : Nat), .string a.n, .int .i64 a.c]) := fun u hu => by rw [hwb] at hu; exact (((Blk.made w _ _).alloc _).alloc _).kept hu id
  have BB : Hid (∀ u, New wb u → Blk u (w.heap.size + 1) 23 [.int .i64 b.i, .int .u8 (b.t : Nat), .string b.n, .int .i64 b.c]) := fun u hu => by
    rw [hwb] at hu
    have := Blk.made (w.alloc (.cells #[.int .i64 a.i, .int .u8 (a.t : Nat), .string a.n, .int .i64 a.c] 23)) 23 #[.int .i64 b.i, .int .u8 (b.t : Nat), .string b.n, .int .i64 b.c]
    rw [World.size_alloc] at this
    exact (this.alloc _).kept hu id
  have BC : Hid (∀ u, New wb u → Blk u (w.heap.size + 2) 23 [.int .i64 c.i, .int .u8 (c.t : Nat), .string c.n, .int .i64 c.c]) := fun u hu => by
    rw [hwb] at hu
    have := Blk.made ((w.alloc (.cells #[.int .i64 a.i, .int .u8 (a.t : Nat), .string a.n, .int .i64 a.c] 23)).alloc (.cells #[.int .i64 b.i, .int .u8 (b.t : Nat), .string b.n, .int .i64 b.c] 23)) 23 #[.int .i64 c.i, .int .u8 (c.t : Nat), .string c.n, .int .i64 c.c]
    rw [World.size_alloc, World.size_alloc] at this
    exact this.kept hu id
  have HQ := fun u => key_eql a b u
  have HW := Lib.hid hwb
  clear hwb
  rcases befK_tri a b with h | h | h
  · have F1 := Lib.hid (bfA a b true h)
    have F2 := Lib.hid (bfA b a false (befK_anti h))
    have hne : decide (a = b) = false := decide_eq_false (by rintro rfl; rw [befK_irr] at h; cases h)
    rw [hne] at HQ
    go_enter Try.func8, Try.ntmps8
    go_wp2_with fail
    rw [← HW.out]
    clear HW
    refine (F1.out _).mono ?_
    rintro e w1 ⟨rfl, k1⟩
    have K1 := Lib.hid k1
    clear k1
    obtain ⟨a0, a1, a2, a3⟩ := cells4 (BA.out w1 K1.out)
    obtain ⟨b0, b1, b2, b3⟩ := cells4 (BB.out w1 K1.out)
    go_wp2_with fail
    refine (F2.out _).mono ?_
    rintro e w2 ⟨rfl, k2⟩
    have K2 := Lib.hid (K1.out.new k2)
    clear k2 K1 a0 a1 a2 a3 b0 b1 b2 b3
    obtain ⟨a0, a1, a2, a3⟩ := cells4 (BA.out w2 K2.out)
    obtain ⟨b0, b1, b2, b3⟩ := cells4 (BB.out w2 K2.out)
    go_wp2_with fail
    refine (F1.out _).mono ?_
    rintro e w3 ⟨rfl, k3⟩
    have K3 := Lib.hid (K2.out.new k3)
    clear k3 K2 a0 a1 a2 a3 b0 b1 b2 b3
    obtain ⟨b0, b1, b2, b3⟩ := cells4 (BB.out w3 K3.out)
    obtain ⟨c0, c1, c2, c3⟩ := cells4 (BC.out w3 K3.out)
    cases hbc : befK b c with
    | true =>
      have F3 := Lib.hid (bfA b c true hbc)
      have F4 := Lib.hid (bfA a c true (befK_trans h hbc))
      clear hbc
      go_wp2_with fail
      refine (F3.out _).mono ?_
      rintro e w4 ⟨rfl, k4⟩
      have K4 := Lib.hid (K3.out.new k4)
      clear k4 K3 b0 b1 b2 b3 c0 c1 c2 c3
      obtain ⟨a0, a1, a2, a3⟩ := cells4 (BA.out w4 K4.out)
      obtain ⟨c0, c1, c2, c3⟩ := cells4 (BC.out w4 K4.out)
      go_wp2_with fail
      refine (F4.out _).mono ?_
      rintro e w5 ⟨rfl, k5⟩
      have K5 := Lib.hid (K4.out.new k5)
      clear k5 K4 a0 a1 a2 a3 c0 c1 c2 c3
      go_wp2_with fail
      refine (works6_any _).mono ?_
      rintro e w9 ⟨rfl, k9⟩
      have KE : Hid (New w w9) := K0.out.new (K5.out.new k9)
      clear k9
      go_wp2
      go_ret
      exact ⟨rfl, KE.out⟩
    | false =>
      have F3 := Lib.hid (bfA b c false hbc)
      clear hbc
      go_wp2_with fail
      refine (F3.out _).mono ?_
      rintro e w4 ⟨rfl, k4⟩
      have K4 := Lib.hid (K3.out.new k4)
      clear k4 K3 b0 b1 b2 b3 c0 c1 c2 c3
      go_wp2_with fail
      refine (works6_any _).mono ?_
      rintro e w9 ⟨rfl, k9⟩
      have KE : Hid (New w w9) := K0.out.new (K4.out.new k9)
      clear k9
      go_wp2
      go_ret
      exact ⟨rfl, KE.out⟩
  · subst h
    have F1 := Lib.hid (bfA a a false (befK_irr a))
    have F2 := F1
    rw [decide_eq_true rfl] at HQ
    go_enter Try.func8, Try.ntmps8
    go_wp2_with fail
    rw [← HW.out]
    clear HW
    refine (F1.out _).mono ?_
    rintro e w1 ⟨rfl, k1⟩
    have K1 := Lib.hid k1
    clear k1
    obtain ⟨a0, a1, a2, a3⟩ := cells4 (BA.out w1 K1.out)
    obtain ⟨b0, b1, b2, b3⟩ := cells4 (BB.out w1 K1.out)
    go_wp2_with fail
    refine (F2.out _).mono ?_
    rintro e w2 ⟨rfl, k2⟩
    have K2 := Lib.hid (K1.out.new k2)
    clear k2 K1 a0 a1 a2 a3 b0 b1 b2 b3
    obtain ⟨a0, a1, a2, a3⟩ := cells4 (BA.out w2 K2.out)
    obtain ⟨b0, b1, b2, b3⟩ := cells4 (BB.out w2 K2.out)
    go_wp2_with fail
    refine (F1.out _).mono ?_
    rintro e w3 ⟨rfl, k3⟩
    have K3 := Lib.hid (K2.out.new k3)
    clear k3 K2 a0 a1 a2 a3 b0 b1 b2 b3
    go_wp2_with fail
    refine (works6_any _).mono ?_
    rintro e w9 ⟨rfl, k9⟩
    have KE : Hid (New w w9) := K0.out.new (K3.out.new k9)
    clear k9
    go_wp2
    go_ret
    exact ⟨rfl, KE.out⟩
  · have F1 := Lib.hid (bfA a b false (befK_anti h))
    have F2 := Lib.hid (bfA b a true h)
    have hne : decide (a = b) = false := decide_eq_false (by rintro rfl; rw [befK_irr] at h; cases h)
    rw [hne] at HQ
    go_enter Try.func8, Try.ntmps8
    go_wp2_with fail
    rw [← HW.out]
    clear HW
    refine (F1.out _).mono ?_
    rintro e w1 ⟨rfl, k1⟩
    have K1 := Lib.hid k1
    clear k1
    obtain ⟨a0, a1, a2, a3⟩ := cells4 (BA.out w1 K1.out)
    obtain ⟨b0, b1, b2, b3⟩ := cells4 (BB.out w1 K1.out)
    go_wp2_with fail
    refine (F2.out _).mono ?_
    rintro e w2 ⟨rfl, k2⟩
    have K2 := Lib.hid (K1.out.new k2)
    clear k2 K1 a0 a1 a2 a3 b0 b1 b2 b3
    obtain ⟨a0, a1, a2, a3⟩ := cells4 (BA.out w2 K2.out)
    obtain ⟨b0, b1, b2, b3⟩ := cells4 (BB.out w2 K2.out)
    go_wp2_with fail
    refine (F1.out _).mono ?_
    rintro e w3 ⟨rfl, k3⟩
    have K3 := Lib.hid (K2.out.new k3)
    clear k3 K2 a0 a1 a2 a3 b0 b1 b2 b3
    go_wp2_with fail
    refine (works6_any _).mono ?_
    rintro e w9 ⟨rfl, k9⟩
    have KE : Hid (New w w9) := K0.out.new (K3.out.new k9)
    clear k9
    go_wp2
    go_ret
    exact ⟨rfl, KE.out⟩

set_option maxRecDepth 100000 in
theorem lifted (os : Os) (started : os.Started) (H : Type) (enc : TypeId × Value → H) :
    ReturnsInHanded {} Try.checked os 8 .any (Rows.factOrderSpec.pre6 enc Try.prog Try.f8 Rows.factOrderRow.domain false) (Rows.factOrderSpec.post enc Try.prog Try.f8 false true false false) := by
  refine lift_new (C := Try.checked) (s := Rows.factOrderSpec) (tb := 4) own started (by kernel_rfl) Try.func8
    (ChangeSpec.witness6 (enc := enc) (C := Try.checked) false ⟨#[], #[.agg #[.int .i64 0, .int .u8 0, .string .empty, .int .i64 0], .agg #[.int .i64 0, .int .u8 0, .string .empty, .int .i64 0], .agg #[.int .i64 0, .int .u8 0, .string .empty, .int .i64 0]], []⟩ 8 (by kernel_rfl) (by kernel_rfl) (by kernel_rfl) (by kernel_rfl))
    rfl (by kernel_rfl) Try.underlying4 ?_ laidOut (of_decide_eq_true (by kernel_rfl)) ?_
  · intro ds hd
    match ds, hd with
    | [d0, d1, d2], _ => exact ⟨rfl, rfl, rfl⟩
  · intro W base args ds hA
    have hA : Args enc Try.prog W base Try.f8.params.toList args.toList ds := hA
    rw [Try.params8] at hA
    obtain ⟨v0, vs0, d0, ds0, p0, hargs, rfl, a0, hA⟩ := hA.cons_
    obtain ⟨v1, vs1, d1, ds1, p1, rfl, rfl, a1, hA⟩ := hA.cons_
    obtain ⟨v2, vs2, d2, ds2, p2, rfl, rfl, a2, hA⟩ := hA.cons_
    obtain ⟨rfl, rfl⟩ := hA.nil_
    obtain rfl : args = #[v0, v1, v2] := by cases args; simp_all
    obtain ⟨k0, rfl, b0⟩ := a0.key_
    obtain ⟨k1, rfl, b1⟩ := a1.key_
    obtain ⟨k2, rfl, b2⟩ := a2.key_
    exact walk k0 k1 k2 W b0 b1 b2

theorem over : Rows.factOrderRow.holds Try.pinned (OpenSpec.ofChange Rows.factOrderSpec) :=
  OpenClaim.holds_of_wide 8 Try.f8 rfl rfl rfl rfl rfl rfl rfl ⟨rfl, rfl, rfl, rfl, rfl⟩ rfl rfl rfl rfl rfl (by kernel_rfl) Try.func8 (by kernel_rfl)
    (of_decide_eq_true (by kernel_rfl)) (by unfold Func.isWrapper; first | (rw [if_pos (by decide +kernel)]; kernel_rfl) | (rw [if_neg (by decide +kernel)]; exact ⟨rfl, rfl⟩))
    (fun os started H enc _ => lifted os started H enc)

theorem proved : Rows.FactOrderSaid := over
end Go.Proofs.Ytgjipcoobadipaa.factOrder
