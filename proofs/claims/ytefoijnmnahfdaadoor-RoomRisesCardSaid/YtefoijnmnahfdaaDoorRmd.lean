/-
  Layer 10: Cap, Turn and May, over numbers; and the law's own example.
-/
import Derived.Test.YtefoijnmnahfdaaDoorRmc
namespace Go.Proofs.YtefoijnmnahfdaaDoor
open Go.RowKit

set_option maxHeartbeats 1600000 in
theorem cap_any (a b c d : Int) (w : World) (hB : Bd w) :
    Calls Tryd.prog 9 #[.agg #[.int .i64 a, .int .i64 b, .int .i64 c, .int .i64 d]] w (IntN w (capI a b c d)) := by
  obtain ⟨w1, hw1⟩ : ∃ w1, w1 = w.alloc (.cells #[.int .i64 a, .int .i64 b, .int .i64 c, .int .i64 d] 23) := ⟨_, rfl⟩
  have N1 : Hid (New w w1) := by rw [hw1]; exact (Kept.refl _ _).alloc _
  have X1 : Hid (Box w1 w.heap.size a b c d) := by rw [hw1]; exact box_made _ _ _ _ _ _
  have HW := Lib.hid hw1
  have B1 := Lib.hid (hB.new N1.out)
  clear hw1 hB
  cases hx : wiB a b c d
  · have e : capI a b c d = 0 := by rw [capI, hx]; rfl
    rw [e]
    obtain ⟨x0, x1, x2, x3⟩ := X1.out
    go_enter Tryd.func9, Tryd.ntmps9
    go_upto_region 1 with fail
    rw [← HW.out]
    clear HW
    go_wp2_with (go_at_call 12; refine (isWithin_any _ _ _ _ _ B1.out).mono ?_; rintro e w2 ⟨rfl, k2⟩; rw [hx])
    go_ret
    exact ⟨rfl, N1.out.new k2⟩
  · obtain ⟨h1, h2, h3, h4⟩ := wiB_yes hx
    have e : capI a b c d = max 0 (((a - d - 4 - d) * (b - 1) - 8).tdiv 8) := by rw [capI, hx]; rfl
    have hp := prod_bd (x := a - d - 4 - d) (y := b - 1) (by omega) (by omega) (by omega) (by omega)
    have ht : -64 ≤ ((a - d - 4 - d) * (b - 1) - 8).tdiv 8 ∧ ((a - d - 4 - d) * (b - 1) - 8).tdiv 8 ≤ 2048 := by
      rw [tdiv8]
      generalize (a - d - 4 - d) * (b - 1) = P at *
      omega
    have q0 := wrapI (x := a - d - 4) (by omega) (by omega)
    have m0 := wrapJ (x := a - d - 4) (by omega) (by omega)
    have q1 := wrapI (x := a - d - 4 - d) (by omega) (by omega)
    have m1 := wrapJ (x := a - d - 4 - d) (by omega) (by omega)
    have q2 := wrapI (x := b - 1) (by omega) (by omega)
    have m2 := wrapJ (x := b - 1) (by omega) (by omega)
    have q3 := wrapI (x := (a - d - 4 - d) * (b - 1)) (by omega) (by omega)
    have m3 := wrapJ (x := (a - d - 4 - d) * (b - 1)) (by omega) (by omega)
    have q4 := wrapI (x := (a - d - 4 - d) * (b - 1) - 8) (by omega) (by omega)
    have m4 := wrapJ (x := (a - d - 4 - d) * (b - 1) - 8) (by omega) (by omega)
    have q5 := wrapI (x := ((a - d - 4 - d) * (b - 1) - 8).tdiv 8) (by omega) (by omega)
    have m5 := wrapJ (x := ((a - d - 4 - d) * (b - 1) - 8).tdiv 8) (by omega) (by omega)
    have cU0 : Hid (∀ u : World, Calls Tryd.prog 14 #[.agg #[.int .i64 a, .int .i64 b, .int .i64 c, .int .i64 d]] u (IntN u (a - d))) := fun u => usable_any a b c d u (by omega) (by omega)
    rw [e]
    clear h1 h2 h3 h4 e
    generalize hP : (a - d - 4 - d) * (b - 1) = P at *
    have HP := hP
    clear hP hp ht
    obtain ⟨x0, x1, x2, x3⟩ := X1.out
    go_enter Tryd.func9, Tryd.ntmps9
    go_upto_region 1 with fail
    rw [← HW.out]
    clear HW
    go_wp2_with fail
    refine (isWithin_any _ _ _ _ _ B1.out).mono ?_
    rintro e w2 ⟨rfl, k2⟩
    rw [hx]
    clear x0 x1 x2 x3
    have X2 := Lib.hid (X1.out.new k2)
    have B2 := Lib.hid (B1.out.new k2)
    have N2 := Lib.hid (N1.out.new k2)
    clear k2 X1 B1 N1
    obtain ⟨x0, x1, x2, x3⟩ := X2.out
    have cU := Lib.hid (fun (p : Nat) (os : Array Obj) => Calls.regrown_of (d := p) (os := os) ((cU0.out (Go.Sort.grow (redrawn w2 p) os)).mono fun e w' h => ⟨h.1, h.2.below⟩))
    have g0 := fun p os => cell_regrown x0 p os
    have g1 := fun p os => cell_regrown x1 p os
    have g2 := fun p os => cell_regrown x2 p os
    have g3 := fun p os => cell_regrown x3 p os
    clear x0 x1 x2 x3 X2 B2
    go_wp2
    refine wp_region_quiet_below (by kernel_rfl) (by kernel_rfl) ?_
    repeat (quiet_step (first
      | (go_at_call 14; exact cU.out _ _)))
    refine wpQuiet_nil ?_
    intro _ hw'
    obtain ⟨⟨dq, osq⟩, hw''⟩ := hw'
    subst hw''
    have N3 : Hid (New w (Go.Sort.grow (redrawn w2 dq) osq)) := N2.out.new (New.of_below (below_regrown w2 dq osq))
    go_wp2
    · go_ret
      refine ⟨?_, N3.out⟩
      show Ending.returned (.int .i64 ((P - 8).tdiv 8)) = _
      rw [show max 0 ((P - 8).tdiv 8) = (P - 8).tdiv 8 by omega]
    · go_ret
      refine ⟨?_, N3.out⟩
      show Ending.returned (.int .i64 0) = _
      rw [show max 0 ((P - 8).tdiv 8) = 0 by omega]

set_option maxHeartbeats 1600000 in
theorem may_any (a b c d : Int) (w : World) (hB : Bd w) :
    Calls Tryd.prog 6 #[.agg #[.int .i64 a, .int .i64 b, .int .i64 c, .int .i64 d]] w (BoolN w (mayB a b c d)) := by
  obtain ⟨w1, hw1⟩ : ∃ w1, w1 = w.alloc (.cells #[.int .i64 a, .int .i64 b, .int .i64 c, .int .i64 d] 23) := ⟨_, rfl⟩
  have N1 : Hid (New w w1) := by rw [hw1]; exact (Kept.refl _ _).alloc _
  have X1 : Hid (Box w1 w.heap.size a b c d) := by rw [hw1]; exact box_made _ _ _ _ _ _
  have HW := Lib.hid hw1
  have B1 := Lib.hid (hB.new N1.out)
  clear hw1 hB
  cases hx : wiB a b c d
  · have e : mayB a b c d = false := by rw [mayB, hx]; rfl
    rw [e]
    obtain ⟨x0, x1, x2, x3⟩ := X1.out
    go_enter Tryd.func6, Tryd.ntmps6
    go_upto_region 1 with fail
    rw [← HW.out]
    clear HW
    go_wp2_with (go_at_call 12; refine (isWithin_any _ _ _ _ _ B1.out).mono ?_; rintro e w2 ⟨rfl, k2⟩; rw [hx])
    go_ret
    exact ⟨rfl, N1.out.new k2⟩
  · have e : mayB a b c d = decide (4 ≤ capI a b c d) := by rw [mayB, hx]; rfl
    rw [e]
    clear e
    obtain ⟨x0, x1, x2, x3⟩ := X1.out
    go_enter Tryd.func6, Tryd.ntmps6
    go_upto_region 1 with fail
    rw [← HW.out]
    clear HW
    go_wp2_with fail
    refine (isWithin_any _ _ _ _ _ B1.out).mono ?_
    rintro e w2 ⟨rfl, k2⟩
    rw [hx]
    clear x0 x1 x2 x3
    have X2 := Lib.hid (X1.out.new k2)
    have B2 := Lib.hid (B1.out.new k2)
    have N2 := Lib.hid (N1.out.new k2)
    clear k2 X1 B1 N1
    obtain ⟨x0, x1, x2, x3⟩ := X2.out
    go_wp2_with (go_at_call 9; refine (cap_any _ _ _ _ _ B2.out).mono ?_; rintro e w3 ⟨rfl, k3⟩)
    go_ret
    exact ⟨rfl, N2.out.new k3⟩

set_option maxHeartbeats 1600000 in
theorem turn_any (a b c d f : Int) (w : World) (hB : Bd w) :
    Calls Tryd.prog 10 #[.agg #[.int .i64 a, .int .i64 b, .int .i64 c, .int .i64 d], .int .i64 f] w (BoolN w (turnB a b c d f)) := by
  obtain ⟨w1, hw1⟩ : ∃ w1, w1 = w.alloc (.cells #[.int .i64 a, .int .i64 b, .int .i64 c, .int .i64 d] 23) := ⟨_, rfl⟩
  have N1 : Hid (New w w1) := by rw [hw1]; exact (Kept.refl _ _).alloc _
  have X1 : Hid (Box w1 w.heap.size a b c d) := by rw [hw1]; exact box_made _ _ _ _ _ _
  have HW := Lib.hid hw1
  have B1 := Lib.hid (hB.new N1.out)
  clear hw1 hB
  cases hx : wiB a b c d
  · have e : turnB a b c d f = false := by rw [turnB, hx]; rfl
    rw [e]
    obtain ⟨x0, x1, x2, x3⟩ := X1.out
    go_enter Tryd.func10, Tryd.ntmps10
    go_upto_region 1 with fail
    rw [← HW.out]
    clear HW
    go_wp2_with (go_at_call 12; refine (isWithin_any _ _ _ _ _ B1.out).mono ?_; rintro e w2 ⟨rfl, k2⟩; rw [hx])
    go_ret
    exact ⟨rfl, N1.out.new k2⟩
  · by_cases hf : 0 ≤ f
    · obtain ⟨h1, h2, h3, h4⟩ := wiB_yes hx
      have e : turnB a b c d f = decide (2 * wantI a b c d f + 2 ≤ a - d) := by rw [turnB, hx, decide_eq_true hf]; rfl
      rw [e]
      have hw := want_le a b c d f
      have d0 : decide (f < 0) = false := decide_eq_false (by omega)
      have q1 := wrapI (x := 2 * wantI a b c d f) (by omega) (by omega)
      have m1 := wrapJ (x := 2 * wantI a b c d f) (by omega) (by omega)
      have q2 := wrapI (x := 2 * wantI a b c d f + 2) (by omega) (by omega)
      have m2 := wrapJ (x := 2 * wantI a b c d f + 2) (by omega) (by omega)
      have cU0 : Hid (∀ u : World, Calls Tryd.prog 14 #[.agg #[.int .i64 a, .int .i64 b, .int .i64 c, .int .i64 d]] u (IntN u (a - d))) := fun u => usable_any a b c d u (by omega) (by omega)
      have cW0 : Hid (∀ u : World, Bd u → Calls Tryd.prog 8 #[.agg #[.int .i64 a, .int .i64 b, .int .i64 c, .int .i64 d], .int .i64 f] u (IntN u (wantI a b c d f))) := fun u hu => want_any a b c d f u hu
      clear h1 h2 h3 h4 e hw hf
      generalize wantI a b c d f = v at *
      obtain ⟨x0, x1, x2, x3⟩ := X1.out
      go_enter Tryd.func10, Tryd.ntmps10
      go_upto_region 1 with fail
      rw [← HW.out]
      clear HW
      go_wp2_with fail
      refine (isWithin_any _ _ _ _ _ B1.out).mono ?_
      rintro e w2 ⟨rfl, k2⟩
      rw [hx]
      clear x0 x1 x2 x3
      have X2 := Lib.hid (X1.out.new k2)
      have B2 := Lib.hid (B1.out.new k2)
      have N2 := Lib.hid (N1.out.new k2)
      clear k2 X1 B1 N1
      obtain ⟨x0, x1, x2, x3⟩ := X2.out
      have cU := Lib.hid (fun (p : Nat) (os : Array Obj) => Calls.regrown_of (d := p) (os := os) ((cU0.out (Go.Sort.grow (redrawn w2 p) os)).mono fun e w' h => ⟨h.1, h.2.below⟩))
      have cW := Lib.hid (fun (p : Nat) (os : Array Obj) => Calls.regrown_of (d := p) (os := os) ((cW0.out (Go.Sort.grow (redrawn w2 p) os) (B2.out.new (New.of_below (below_regrown w2 p os)))).mono fun e w' h => ⟨h.1, h.2.below⟩))
      have g0 := fun p os => cell_regrown x0 p os
      have g1 := fun p os => cell_regrown x1 p os
      have g2 := fun p os => cell_regrown x2 p os
      have g3 := fun p os => cell_regrown x3 p os
      clear x0 x1 x2 x3 X2 B2
      go_wp2
      refine wp_region_quiet_below (by kernel_rfl) (by kernel_rfl) ?_
      repeat (quiet_step (first
        | (go_at_call 8; exact cW.out _ _)
        | (go_at_call 14; exact cU.out _ _)))
      refine wpQuiet_nil ?_
      intro _ hw'
      obtain ⟨⟨dq, osq⟩, hw''⟩ := hw'
      subst hw''
      have N3 : Hid (New w (Go.Sort.grow (redrawn w2 dq) osq)) := N2.out.new (New.of_below (below_regrown w2 dq osq))
      go_wp2
      go_ret
      exact ⟨rfl, N3.out⟩
    · have e : turnB a b c d f = false := by rw [turnB, hx, decide_eq_false hf]; rfl
      rw [e]
      have d0 : decide (f < 0) = true := decide_eq_true (by omega)
      clear e hf
      obtain ⟨x0, x1, x2, x3⟩ := X1.out
      go_enter Tryd.func10, Tryd.ntmps10
      go_upto_region 1 with fail
      rw [← HW.out]
      clear HW
      go_wp2_with (go_at_call 12; refine (isWithin_any _ _ _ _ _ B1.out).mono ?_; rintro e w2 ⟨rfl, k2⟩; rw [hx])
      go_ret
      exact ⟨rfl, N1.out.new k2⟩

set_option maxHeartbeats 1600000 in
theorem works_any (w : World) (hB : Bd w) :
    Calls Tryd.prog 7 #[] w (BoolN w true) := by
  have e1 : wantI 16 8 128 0 5 = 11 := by decide
  have e2 : capI 16 8 128 2 = 6 := by decide
  have e3 : pieceI 128 = 72 := by decide
  have e4 : turnB 16 8 128 0 1 = true := by decide
  have e5 : turnB 16 8 128 0 3 = false := by decide
  obtain ⟨w1, hw1⟩ : ∃ w1, w1 = w.alloc (.cells #[.int .i64 16, .int .i64 8, .int .i64 128, .int .i64 0] 23) := ⟨_, rfl⟩
  have N1 : Hid (New w w1) := by rw [hw1]; exact (Kept.refl _ _).alloc _
  have X1 : Hid (Box w1 w.heap.size 16 8 128 0) := by rw [hw1]; exact box_made _ _ _ _ _ _
  have HW := Lib.hid hw1
  have B1 := Lib.hid (hB.new N1.out)
  clear hw1 hB
  obtain ⟨x0, x1, x2, x3⟩ := X1.out
  go_enter Tryd.func7, Tryd.ntmps7
  go_upto_region 2 with fail
  rw [← HW.out]
  clear HW
  go_wp2_with fail
  refine (want_any _ _ _ _ _ _ B1.out).mono ?_
  rintro e w2 ⟨rfl, k2⟩
  rw [e1]
  have B2 := Lib.hid (B1.out.new k2)
  have X2 := Lib.hid (X1.out.new k2)
  have N2 := Lib.hid (N1.out.new k2)
  clear k2 B1 X1 N1 x0 x1 x2 x3
  go_wp2_with fail
  refine (cap_any _ _ _ _ _ B2.out).mono ?_
  rintro e w3 ⟨rfl, k3⟩
  rw [e2]
  have B3 := Lib.hid (B2.out.new k3)
  have X3 := Lib.hid (X2.out.new k3)
  have N3 := Lib.hid (N2.out.new k3)
  clear k3 B2 X2 N2
  go_wp2_with fail
  refine (piece_any _ _ B3.out).mono ?_
  rintro e w4 ⟨rfl, k4⟩
  rw [e3]
  have B4 := Lib.hid (B3.out.new k4)
  have X4 := Lib.hid (X3.out.new k4)
  have N4 := Lib.hid (N3.out.new k4)
  clear k4 B3 X3 N3
  obtain ⟨x0, x1, x2, x3⟩ := X4.out
  go_wp2_with fail
  refine (turn_any _ _ _ _ _ _ B4.out).mono ?_
  rintro e w5 ⟨rfl, k5⟩
  rw [e4]
  have B5 := Lib.hid (B4.out.new k5)
  have X5 := Lib.hid (X4.out.new k5)
  have N5 := Lib.hid (N4.out.new k5)
  clear k5 B4 X4 N4 x0 x1 x2 x3
  obtain ⟨x0, x1, x2, x3⟩ := X5.out
  go_wp2_with fail
  refine (turn_any _ _ _ _ _ _ B5.out).mono ?_
  rintro e w6 ⟨rfl, k6⟩
  rw [e5]
  have N6 := Lib.hid (N5.out.new k6)
  clear k6 B5 X5 N5 x0 x1 x2 x3
  go_wp2
  go_ret
  exact ⟨rfl, N6.out⟩

end Go.Proofs.YtefoijnmnahfdaaDoor
