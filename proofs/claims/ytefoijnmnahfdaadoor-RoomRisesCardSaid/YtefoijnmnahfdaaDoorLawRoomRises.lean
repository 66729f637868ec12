/-
  RoomRises: more facts ask for no fewer blocks, more blocks have room for no fewer facts, more spares for no more; for every geometry, every two numbers.
-/
import Derived.Test.YtefoijnmnahfdaaDoorCards
import Derived.Test.YtefoijnmnahfdaaDoorTie
import Derived.Test.YtefoijnmnahfdaaDoorRme
namespace Go.Proofs.YtefoijnmnahfdaaDoor.roomRises
open Go.ChangeShapes Go.WideShapes Go.ChangeAt Go.RowKit

theorem own : ownKnob Tryd.prog.godebug = none := by kernel_rfl
theorem laidOut : laidOutB Tryd.prog = true := by kernel_rfl

set_option maxHeartbeats 6400000 in
theorem main (a b c d f m : Int) (w : World) (hB : Bd w) (hx : mayB a b c d = true) (hr : ¬ (f < 0 ∨ 1000 < f ∨ m < 0 ∨ 1000 < m)) :
    Calls Tryd.prog 3 #[.agg #[.int .i64 a, .int .i64 b, .int .i64 c, .int .i64 d], .int .i64 f, .int .i64 m] w (True1 w) := by
  obtain ⟨w1, hw1⟩ : ∃ w1, w1 = w.alloc (.cells #[.int .i64 a, .int .i64 b, .int .i64 c, .int .i64 d] 23) := ⟨_, rfl⟩
  have N1 : Hid (New w w1) := by rw [hw1]; exact (Kept.refl _ _).alloc _
  have X1 : Hid (Box w1 w.heap.size a b c d) := by rw [hw1]; exact box_made _ _ _ _ _ _
  have HW := Lib.hid hw1
  have B1 := Lib.hid (hB.new N1.out)
  clear hw1 hB
  have d0 : decide (f < 0) = false := decide_eq_false (by omega)
  have d1 : decide (1000 < f) = false := decide_eq_false (by omega)
  have d2 : decide (m < 0) = false := decide_eq_false (by omega)
  have d3 : decide (1000 < m) = false := decide_eq_false (by omega)
  have hwi := may_yes hx
  obtain ⟨h1, h2, h3, h4⟩ := wiB_yes hwi
  obtain ⟨g, hg⟩ : ∃ g, g = f + m := ⟨_, rfl⟩
  have q1 : IntKind.i64.wrap (f + m) = g := by rw [hg]; exact wrapI (by omega) (by omega)
  have m1 : wrap64 (f + m) = g := by rw [hg]; exact wrapJ (by omega) (by omega)
  have q2 := wrapI (x := 5 + d) (by omega) (by omega)
  have m2 := wrapJ (x := 5 + d) (by omega) (by omega)
  have q3 := wrapI (x := a + 1) (by omega) (by omega)
  have m3 := wrapJ (x := a + 1) (by omega) (by omega)
  have q4 := wrapI (x := d - 1) (by omega) (by omega)
  have m4 := wrapJ (x := d - 1) (by omega) (by omega)
  have hwm := want_mono (f := f) (g := g) hwi (by omega) (by omega)
  have hwp := want_pos (f := f) hwi (by omega)
  have d4 : decide (wantI a b c d g < wantI a b c d f) = false := decide_eq_false (by omega)
  have d5 : decide (wantI a b c d f < 5 + d) = false := decide_eq_false (by omega)
  have HCM : Hid (a < 64 → capI a b c d ≤ capI (a + 1) b c d) := cap_more hwi
  have HCL : Hid (d ≠ 0 → capI a b c d ≤ capI a b c (d - 1)) := cap_less hwi
  have cW0 : Hid (∀ u : World, Bd u → Calls Tryd.prog 8 #[.agg #[.int .i64 a, .int .i64 b, .int .i64 c, .int .i64 d], .int .i64 f] u (IntN u (wantI a b c d f))) := fun u hu => want_any a b c d f u hu
  have cV0 : Hid (∀ u : World, Bd u → Calls Tryd.prog 8 #[.agg #[.int .i64 a, .int .i64 b, .int .i64 c, .int .i64 d], .int .i64 g] u (IntN u (wantI a b c d g))) := fun u hu => want_any a b c d g u hu
  have cG0 : Hid (∀ u : World, Bd u → Calls Tryd.prog 9 #[.agg #[.int .i64 a, .int .i64 b, .int .i64 c, .int .i64 d]] u (IntN u (capI a b c d))) := fun u hu => cap_any a b c d u hu
  have cH0 : Hid (∀ u : World, Bd u → Calls Tryd.prog 9 #[.agg #[.int .i64 (a + 1), .int .i64 b, .int .i64 c, .int .i64 d]] u (IntN u (capI (a + 1) b c d))) := fun u hu => cap_any (a + 1) b c d u hu
  have cL0 : Hid (∀ u : World, Bd u → Calls Tryd.prog 9 #[.agg #[.int .i64 a, .int .i64 b, .int .i64 c, .int .i64 (d - 1)]] u (IntN u (capI a b c (d - 1)))) := fun u hu => cap_any a b c (d - 1) u hu
  clear hwi h1 h2 h3 h4 hr hwm hwp hg
  generalize capI (a + 1) b c d = ch at *
  generalize capI a b c (d - 1) = cl at *
  generalize capI a b c d = cg at *
  generalize wantI a b c d g = v at *
  generalize wantI a b c d f = u at *
  obtain ⟨x0, x1, x2, x3⟩ := X1.out
  go_enter Tryd.func3, Tryd.ntmps3
  go_upto_region 1 with fail
  rw [← HW.out]
  clear HW
  go_wp2_with fail
  refine (may_any _ _ _ _ _ B1.out).mono ?_
  rintro e w2 ⟨rfl, k2⟩
  rw [hx]
  clear x0 x1 x2 x3
  have X2 := Lib.hid (X1.out.new k2)
  have B2 := Lib.hid (B1.out.new k2)
  have N2 := Lib.hid (N1.out.new k2)
  clear k2 X1 B1 N1
  obtain ⟨x0, x1, x2, x3⟩ := X2.out
  have cW := Lib.hid (fun (p : Nat) (os : Array Obj) => Calls.regrown_of (d := p) (os := os) ((cW0.out (Go.Sort.grow (redrawn w2 p) os) (B2.out.new (New.of_below (below_regrown w2 p os)))).mono fun e w' h => ⟨h.1, h.2.below⟩))
  have cV := Lib.hid (fun (p : Nat) (os : Array Obj) => Calls.regrown_of (d := p) (os := os) ((cV0.out (Go.Sort.grow (redrawn w2 p) os) (B2.out.new (New.of_below (below_regrown w2 p os)))).mono fun e w' h => ⟨h.1, h.2.below⟩))
  clear hx cW0 cV0
  go_wp2
  have g0 := fun p os => cell_regrown x0 p os
  have g1 := fun p os => cell_regrown x1 p os
  have g2 := fun p os => cell_regrown x2 p os
  have g3 := fun p os => cell_regrown x3 p os
  refine wp_region_quiet_below (by kernel_rfl) (by kernel_rfl) ?_
  repeat (quiet_step (fail))
  quiet_step ((go_at_call 8; exact cW.out _ _))
  repeat (quiet_step (fail))
  quiet_step ((go_at_call 8; exact cV.out _ _))
  repeat (quiet_step (fail))
  quiet_step ((go_at_call 8; exact cW.out _ _))
  repeat (quiet_step (fail))
  refine wpQuiet_nil ?_
  intro _ hw'
  obtain ⟨⟨dq, osq⟩, hw''⟩ := hw'
  subst hw''
  have N3 : Hid (New w (Go.Sort.grow (redrawn w2 dq) osq)) := N2.out.new (New.of_below (below_regrown w2 dq osq))
  obtain ⟨w3, hw3⟩ : ∃ w3, w3 = Go.Sort.grow (redrawn w2 dq) osq := ⟨_, rfl⟩
  rw [← hw3] at N3 ⊢
  have k3 : New w2 w3 := by rw [hw3]; exact New.of_below (below_regrown w2 dq osq)
  clear hw3 cW cV g0 g1 g2 g3 x0 x1 x2 x3 dq osq
  have X3 := Lib.hid (X2.out.new k3)
  have B3 := Lib.hid (B2.out.new k3)
  have H3 : Hid (w.heap.size < w3.heap.size) := World.block_lt_of_cell? w3 _ X3.out.c0
  clear k3 N2 X2 B2
  obtain ⟨x0, x1, x2, x3⟩ := X3.out
  go_wp2
  obtain ⟨w4, hw4⟩ : ∃ w4, w4 = w3.alloc (.cells #[.int .i64 (a + 1), .int .i64 b, .int .i64 c, .int .i64 d] 23) := ⟨_, rfl⟩
  rw [← hw4]
  have k4 : New w3 w4 := by rw [hw4]; exact (Kept.refl _ _).alloc _
  have Y4 : Hid (Blk w4 w3.heap.size 23 [.int .i64 (a + 1), .int .i64 b, .int .i64 c, .int .i64 d]) := by rw [hw4]; exact Blk.made w3 _ _
  have N4 := Lib.hid (N3.out.new k4)
  have X4 := Lib.hid (X3.out.new k4)
  have B4 := Lib.hid (B3.out.new k4)
  obtain ⟨gh, hgh⟩ : ∃ gh, gh = w3.heap.size := ⟨_, rfl⟩
  rw [← hgh] at Y4 H3 ⊢
  have HG : Hid (w.heap.size < gh ∧ w.heap.size ≤ gh) := ⟨H3.out, Nat.le_of_lt H3.out⟩
  clear hgh hw4 k4 N3 X3 B3 H3 x0 x1 x2 x3
  obtain ⟨x0, x1, x2, x3⟩ := X4.out
  have y0 := Y4.out.cell 0
  have y1 := Y4.out.cell 1
  have y2 := Y4.out.cell 2
  have y3 := Y4.out.cell 3
  simp only [List.getElem?_cons_zero, List.getElem?_cons_succ] at y0 y1 y2 y3
  by_cases ha : a < 64
  · have d6 : decide (a < 64) = true := decide_eq_true ha
    have d7 : decide (ch < cg) = false := decide_eq_false (by have := HCM.out ha; omega)
    have cH := Lib.hid (fun (p : Nat) (os : Array Obj) => Calls.regrown_of (d := p) (os := os) ((cH0.out (Go.Sort.grow (redrawn w4 p) os) (B4.out.new (New.of_below (below_regrown w4 p os)))).mono fun e w' h => ⟨h.1, h.2.below⟩))
    have cG := Lib.hid (fun (p : Nat) (os : Array Obj) => Calls.regrown_of (d := p) (os := os) ((cG0.out (Go.Sort.grow (redrawn w4 p) os) (B4.out.new (New.of_below (below_regrown w4 p os)))).mono fun e w' h => ⟨h.1, h.2.below⟩))
    have g0 := fun p os => cell_regrown x0 p os
    have g1 := fun p os => cell_regrown x1 p os
    have g2 := fun p os => cell_regrown x2 p os
    have g3 := fun p os => cell_regrown x3 p os
    have z0 := fun p os => cell_regrown y0 p os
    have z1 := fun p os => cell_regrown y1 p os
    have z2 := fun p os => cell_regrown y2 p os
    have z3 := fun p os => cell_regrown y3 p os
    clear x0 x1 x2 x3 y0 y1 y2 y3 HCM ha
    refine wp_region_quiet_below (by kernel_rfl) (by kernel_rfl) ?_
    repeat (quiet_step (fail))
    quiet_step ((go_at_call 9; exact cH.out _ _))
    repeat (quiet_step (fail))
    quiet_step ((go_at_call 9; exact cG.out _ _))
    repeat (quiet_step (fail))
    refine wpQuiet_nil ?_
    intro _ hw'
    obtain ⟨⟨dq, osq⟩, hw''⟩ := hw'
    subst hw''
    obtain ⟨w5, hw5⟩ : ∃ w5, w5 = Go.Sort.grow (redrawn w4 dq) osq := ⟨_, rfl⟩
    rw [← hw5]
    have k5 : New w4 w5 := by rw [hw5]; exact New.of_below (below_regrown w4 dq osq)
    have N5 := Lib.hid (N4.out.new k5)
    have X5 := Lib.hid (X4.out.new k5)
    have B5 := Lib.hid (B4.out.new k5)
    have Y5 := Lib.hid (Y4.out.kept k5 id)
    clear hw5 cH cG g0 g1 g2 g3 z0 z1 z2 z3 dq osq k5 N4 X4 B4 Y4
    obtain ⟨x0, x1, x2, x3⟩ := X5.out
    have y0 := Y5.out.cell 0
    have y1 := Y5.out.cell 1
    have y2 := Y5.out.cell 2
    have y3 := Y5.out.cell 3
    simp only [List.getElem?_cons_zero, List.getElem?_cons_succ] at y0 y1 y2 y3
    have f0 := Y5.out.free 0
    have f1 := Y5.out.free 1
    have f2 := Y5.out.free 2
    have f3 := Y5.out.free 3
    have hne : ¬ gh = w.heap.size := by have := HG.out; omega
    have hne2 : ¬ w.heap.size = gh := by have := HG.out; omega
    go_wp2
    obtain ⟨w6, hw6⟩ : ∃ w6, w6 = ((((w5.setCell ⟨gh, 0, none⟩ (.int .i64 a)).setCell ⟨gh, 1, none⟩ (.int .i64 b)).setCell ⟨gh, 2, none⟩ (.int .i64 c)).setCell ⟨gh, 3, none⟩ (.int .i64 d)).setCell ⟨gh, 3, none⟩ (.int .i64 (d - 1)) := ⟨_, rfl⟩
    rw [← hw6]
    have Y6 : Hid (Blk w6 gh 23 [.int .i64 a, .int .i64 b, .int .i64 c, .int .i64 (d - 1)]) := by rw [hw6]; exact ((((Y5.out.put 0 _).put 1 _).put 2 _).put 3 _).put 3 _
    have k6 : Kept (· = gh) w5 w6 := by rw [hw6]; exact kept_sets5 w5 gh _ _ _ _ _
    have hg0 : ¬ 0 = gh := by have := HG.out; omega
    have N6 : Hid (New w w6) := N5.out.trans k6 (fun i hi e => by have := HG.out; have : i = gh := e; omega)
    have X6 : Hid (Box w6 w.heap.size a b c d) := ⟨k6.cell x0 hne2, k6.cell x1 hne2, k6.cell x2 hne2, k6.cell x3 hne2⟩
    have B6 : Hid (Bd w6) := by
      obtain ⟨c0, c1, c2, c3, c4, c5, c6, c7⟩ := B5.out
      exact ⟨k6.cell c0 hg0, k6.cell c1 hg0, k6.cell c2 hg0, k6.cell c3 hg0, k6.cell c4 hg0, k6.cell c5 hg0, k6.cell c6 hg0, k6.cell c7 hg0⟩
    clear hw6 k6 N5 X5 B5 Y5 x0 x1 x2 x3 y0 y1 y2 y3 f0 f1 f2 f3 hg0 hne hne2 HG
    obtain ⟨x0, x1, x2, x3⟩ := X6.out
    have y0 := Y6.out.cell 0
    have y1 := Y6.out.cell 1
    have y2 := Y6.out.cell 2
    have y3 := Y6.out.cell 3
    simp only [List.getElem?_cons_zero, List.getElem?_cons_succ] at y0 y1 y2 y3
    have g0 := fun p os => cell_regrown x0 p os
    have g1 := fun p os => cell_regrown x1 p os
    have g2 := fun p os => cell_regrown x2 p os
    have g3 := fun p os => cell_regrown x3 p os
    have z0 := fun p os => cell_regrown y0 p os
    have z1 := fun p os => cell_regrown y1 p os
    have z2 := fun p os => cell_regrown y2 p os
    have z3 := fun p os => cell_regrown y3 p os
    have cK := Lib.hid (fun (p : Nat) (os : Array Obj) => Calls.regrown_of (d := p) (os := os) ((works_any (Go.Sort.grow (redrawn w6 p) os) (B6.out.new (New.of_below (below_regrown w6 p os)))).mono fun e w' h => ⟨h.1, h.2.below⟩))
    by_cases hd : d = 0
    · have d8 : (d == 0) = true := by simpa using hd
      have d9 : decide (d = 0) = true := by simpa using hd
      clear x0 x1 x2 x3 y0 y1 y2 y3 hd
      refine wp_region_quiet_below (by kernel_rfl) (by kernel_rfl) ?_
      repeat (quiet_step (fail))
      quiet_step ((go_at_call 7; exact cK.out _ _))
      repeat (quiet_step (fail))
      refine wpQuiet_nil ?_
      intro _ hw'
      obtain ⟨⟨dq, osq⟩, hw''⟩ := hw'
      subst hw''
      have N7 : Hid (New w (Go.Sort.grow (redrawn w6 dq) osq)) := N6.out.new (New.of_below (below_regrown w6 dq osq))
      go_wp2
      go_ret
      exact ⟨rfl, N7.out⟩
    · have d8 : (d == 0) = false := by simpa using hd
      have d9 : decide (d = 0) = false := by simpa using hd
      have hcl := HCL.out hd
      have cL := Lib.hid (fun (p : Nat) (os : Array Obj) => Calls.regrown_of (d := p) (os := os) ((cL0.out (Go.Sort.grow (redrawn w6 p) os) (B6.out.new (New.of_below (below_regrown w6 p os)))).mono fun e w' h => ⟨h.1, h.2.below⟩))
      have cM := Lib.hid (fun (p : Nat) (os : Array Obj) => Calls.regrown_of (d := p) (os := os) ((cG0.out (Go.Sort.grow (redrawn w6 p) os) (B6.out.new (New.of_below (below_regrown w6 p os)))).mono fun e w' h => ⟨h.1, h.2.below⟩))
      have d10 : decide (cg ≤ cl) = true := decide_eq_true hcl
      clear x0 x1 x2 x3 y0 y1 y2 y3 hd hcl HCL cL0 cG0 cH0
      refine wp_region_quiet_below (by kernel_rfl) (by kernel_rfl) ?_
      repeat (quiet_step (fail))
      quiet_step ((go_at_call 9; exact cL.out _ _))
      repeat (quiet_step (fail))
      quiet_step ((go_at_call 9; exact cM.out _ _))
      repeat (quiet_step (fail))
      quiet_step ((go_at_call 7; exact cK.out _ _))
      repeat (quiet_step (fail))
      refine wpQuiet_nil ?_
      intro _ hw'
      obtain ⟨⟨dq, osq⟩, hw''⟩ := hw'
      subst hw''
      have N7 : Hid (New w (Go.Sort.grow (redrawn w6 dq) osq)) := N6.out.new (New.of_below (below_regrown w6 dq osq))
      go_wp2
      go_ret
      exact ⟨rfl, N7.out⟩
  · have d6 : decide (a < 64) = false := decide_eq_false ha
    have g0 := fun p os => cell_regrown x0 p os
    have g1 := fun p os => cell_regrown x1 p os
    have g2 := fun p os => cell_regrown x2 p os
    have g3 := fun p os => cell_regrown x3 p os
    have z0 := fun p os => cell_regrown y0 p os
    have z1 := fun p os => cell_regrown y1 p os
    have z2 := fun p os => cell_regrown y2 p os
    have z3 := fun p os => cell_regrown y3 p os
    clear x0 x1 x2 x3 y0 y1 y2 y3 HCM ha
    refine wp_region_quiet_below (by kernel_rfl) (by kernel_rfl) ?_
    repeat (quiet_step (fail))
    refine wpQuiet_nil ?_
    intro _ hw'
    obtain ⟨⟨dq, osq⟩, hw''⟩ := hw'
    subst hw''
    obtain ⟨w5, hw5⟩ : ∃ w5, w5 = Go.Sort.grow (redrawn w4 dq) osq := ⟨_, rfl⟩
    rw [← hw5]
    have k5 : New w4 w5 := by rw [hw5]; exact New.of_below (below_regrown w4 dq osq)
    have N5 := Lib.hid (N4.out.new k5)
    have X5 := Lib.hid (X4.out.new k5)
    have B5 := Lib.hid (B4.out.new k5)
    have Y5 := Lib.hid (Y4.out.kept k5 id)
    clear hw5 g0 g1 g2 g3 z0 z1 z2 z3 dq osq k5 N4 X4 B4 Y4
    obtain ⟨x0, x1, x2, x3⟩ := X5.out
    have y0 := Y5.out.cell 0
    have y1 := Y5.out.cell 1
    have y2 := Y5.out.cell 2
    have y3 := Y5.out.cell 3
    simp only [List.getElem?_cons_zero, List.getElem?_cons_succ] at y0 y1 y2 y3
    have f0 := Y5.out.free 0
    have f1 := Y5.out.free 1
    have f2 := Y5.out.free 2
    have f3 := Y5.out.free 3
    have hne : ¬ gh = w.heap.size := by have := HG.out; omega
    have hne2 : ¬ w.heap.size = gh := by have := HG.out; omega
    go_wp2
    obtain ⟨w6, hw6⟩ : ∃ w6, w6 = ((((w5.setCell ⟨gh, 0, none⟩ (.int .i64 a)).setCell ⟨gh, 1, none⟩ (.int .i64 b)).setCell ⟨gh, 2, none⟩ (.int .i64 c)).setCell ⟨gh, 3, none⟩ (.int .i64 d)).setCell ⟨gh, 3, none⟩ (.int .i64 (d - 1)) := ⟨_, rfl⟩
    rw [← hw6]
    have Y6 : Hid (Blk w6 gh 23 [.int .i64 a, .int .i64 b, .int .i64 c, .int .i64 (d - 1)]) := by rw [hw6]; exact ((((Y5.out.put 0 _).put 1 _).put 2 _).put 3 _).put 3 _
    have k6 : Kept (· = gh) w5 w6 := by rw [hw6]; exact kept_sets5 w5 gh _ _ _ _ _
    have hg0 : ¬ 0 = gh := by have := HG.out; omega
    have N6 : Hid (New w w6) := N5.out.trans k6 (fun i hi e => by have := HG.out; have : i = gh := e; omega)
    have X6 : Hid (Box w6 w.heap.size a b c d) := ⟨k6.cell x0 hne2, k6.cell x1 hne2, k6.cell x2 hne2, k6.cell x3 hne2⟩
    have B6 : Hid (Bd w6) := by
      obtain ⟨c0, c1, c2, c3, c4, c5, c6, c7⟩ := B5.out
      exact ⟨k6.cell c0 hg0, k6.cell c1 hg0, k6.cell c2 hg0, k6.cell c3 hg0, k6.cell c4 hg0, k6.cell c5 hg0, k6.cell c6 hg0, k6.cell c7 hg0⟩
    clear hw6 k6 N5 X5 B5 Y5 x0 x1 x2 x3 y0 y1 y2 y3 f0 f1 f2 f3 hg0 hne hne2 HG
    obtain ⟨x0, x1, x2, x3⟩ := X6.out
    have y0 := Y6.out.cell 0
    have y1 := Y6.out.cell 1
    have y2 := Y6.out.cell 2
    have y3 := Y6.out.cell 3
    simp only [List.getElem?_cons_zero, List.getElem?_cons_succ] at y0 y1 y2 y3
    have g0 := fun p os => cell_regrown x0 p os
    have g1 := fun p os => cell_regrown x1 p os
    have g2 := fun p os => cell_regrown x2 p os
    have g3 := fun p os => cell_regrown x3 p os
    have z0 := fun p os => cell_regrown y0 p os
    have z1 := fun p os => cell_regrown y1 p os
    have z2 := fun p os => cell_regrown y2 p os
    have z3 := fun p os => cell_regrown y3 p os
    have cK := Lib.hid (fun (p : Nat) (os : Array Obj) => Calls.regrown_of (d := p) (os := os) ((works_any (Go.Sort.grow (redrawn w6 p) os) (B6.out.new (New.of_below (below_regrown w6 p os)))).mono fun e w' h => ⟨h.1, h.2.below⟩))
    by_cases hd : d = 0
    · have d8 : (d == 0) = true := by simpa using hd
      have d9 : decide (d = 0) = true := by simpa using hd
      clear x0 x1 x2 x3 y0 y1 y2 y3 hd
      refine wp_region_quiet_below (by kernel_rfl) (by kernel_rfl) ?_
      repeat (quiet_step (fail))
      quiet_step ((go_at_call 7; exact cK.out _ _))
      repeat (quiet_step (fail))
      refine wpQuiet_nil ?_
      intro _ hw'
      obtain ⟨⟨dq, osq⟩, hw''⟩ := hw'
      subst hw''
      have N7 : Hid (New w (Go.Sort.grow (redrawn w6 dq) osq)) := N6.out.new (New.of_below (below_regrown w6 dq osq))
      go_wp2
      go_ret
      exact ⟨rfl, N7.out⟩
    · have d8 : (d == 0) = false := by simpa using hd
      have d9 : decide (d = 0) = false := by simpa using hd
      have hcl := HCL.out hd
      have cL := Lib.hid (fun (p : Nat) (os : Array Obj) => Calls.regrown_of (d := p) (os := os) ((cL0.out (Go.Sort.grow (redrawn w6 p) os) (B6.out.new (New.of_below (below_regrown w6 p os)))).mono fun e w' h => ⟨h.1, h.2.below⟩))
      have cM := Lib.hid (fun (p : Nat) (os : Array Obj) => Calls.regrown_of (d := p) (os := os) ((cG0.out (Go.Sort.grow (redrawn w6 p) os) (B6.out.new (New.of_below (below_regrown w6 p os)))).mono fun e w' h => ⟨h.1, h.2.below⟩))
      have d10 : decide (cg ≤ cl) = true := decide_eq_true hcl
      clear x0 x1 x2 x3 y0 y1 y2 y3 hd hcl HCL cL0 cG0 cH0
      refine wp_region_quiet_below (by kernel_rfl) (by kernel_rfl) ?_
      repeat (quiet_step (fail))
      quiet_step ((go_at_call 9; exact cL.out _ _))
      repeat (quiet_step (fail))
      quiet_step ((go_at_call 9; exact cM.out _ _))
      repeat (quiet_step (fail))
      quiet_step ((go_at_call 7; exact cK.out _ _))
      repeat (quiet_step (fail))
      refine wpQuiet_nil ?_
      intro _ hw'
      obtain ⟨⟨dq, osq⟩, hw''⟩ := hw'
      subst hw''
      have N7 : Hid (New w (Go.Sort.grow (redrawn w6 dq) osq)) := N6.out.new (New.of_below (below_regrown w6 dq osq))
      go_wp2
      go_ret
      exact ⟨rfl, N7.out⟩

set_option maxHeartbeats 3200000 in
theorem walk (a b c d f m : Int) (w : World) (hB : Bd w) (_ : -9223372036854775808 ≤ f ∧ f ≤ 9223372036854775807) (_ : -9223372036854775808 ≤ m ∧ m ≤ 9223372036854775807) :
    Calls Tryd.prog 3 #[.agg #[.int .i64 a, .int .i64 b, .int .i64 c, .int .i64 d], .int .i64 f, .int .i64 m] w (True1 w) := by
  have HB := Lib.hid hB
  obtain ⟨w1, hw1⟩ : ∃ w1, w1 = w.alloc (.cells #[.int .i64 a, .int .i64 b, .int .i64 c, .int .i64 d] 23) := ⟨_, rfl⟩
  have N1 : Hid (New w w1) := by rw [hw1]; exact (Kept.refl _ _).alloc _
  have X1 : Hid (Box w1 w.heap.size a b c d) := by rw [hw1]; exact box_made _ _ _ _ _ _
  have HW := Lib.hid hw1
  have B1 := Lib.hid (hB.new N1.out)
  clear hw1 hB
  cases hx : mayB a b c d
  · obtain ⟨x0, x1, x2, x3⟩ := X1.out
    go_enter Tryd.func3, Tryd.ntmps3
    go_upto_region 1 with fail
    rw [← HW.out]
    clear HW
    go_wp2_with fail
    refine (may_any _ _ _ _ _ B1.out).mono ?_
    rintro e w2 ⟨rfl, k2⟩
    rw [hx]
    go_wp2_with (go_at_call 7; refine (works_any _ (B1.out.new k2)).mono ?_; rintro e w9 ⟨rfl, k9⟩)
    go_ret
    exact ⟨rfl, (N1.out.new k2).new k9⟩
  · by_cases hr : f < 0 ∨ 1000 < f ∨ m < 0 ∨ 1000 < m
    · rcases (by omega : f < 0 ∨ (0 ≤ f ∧ 1000 < f) ∨ (0 ≤ f ∧ f ≤ 1000 ∧ m < 0) ∨ (0 ≤ f ∧ f ≤ 1000 ∧ 0 ≤ m ∧ 1000 < m)) with h | ⟨h, h1⟩ | ⟨h, h1, h2⟩ | ⟨h, h1, h2, h3⟩
      · have d0 : decide (f < 0) = true := decide_eq_true h
        clear h hr
        obtain ⟨x0, x1, x2, x3⟩ := X1.out
        go_enter Tryd.func3, Tryd.ntmps3
        go_upto_region 1 with fail
        rw [← HW.out]
        clear HW
        go_wp2_with fail
        refine (may_any _ _ _ _ _ B1.out).mono ?_
        rintro e w2 ⟨rfl, k2⟩
        rw [hx]
        go_wp2_with (go_at_call 7; refine (works_any _ (B1.out.new k2)).mono ?_; rintro e w9 ⟨rfl, k9⟩)
        go_ret
        exact ⟨rfl, (N1.out.new k2).new k9⟩
      · have d0 : decide (f < 0) = false := decide_eq_false (by omega)
        have d1 : decide (1000 < f) = true := decide_eq_true h1
        clear h h1 hr
        obtain ⟨x0, x1, x2, x3⟩ := X1.out
        go_enter Tryd.func3, Tryd.ntmps3
        go_upto_region 1 with fail
        rw [← HW.out]
        clear HW
        go_wp2_with fail
        refine (may_any _ _ _ _ _ B1.out).mono ?_
        rintro e w2 ⟨rfl, k2⟩
        rw [hx]
        go_wp2_with (go_at_call 7; refine (works_any _ (B1.out.new k2)).mono ?_; rintro e w9 ⟨rfl, k9⟩)
        go_ret
        exact ⟨rfl, (N1.out.new k2).new k9⟩
      · have d0 : decide (f < 0) = false := decide_eq_false (by omega)
        have d1 : decide (1000 < f) = false := decide_eq_false (by omega)
        have d2 : decide (m < 0) = true := decide_eq_true h2
        clear h h1 h2 hr
        obtain ⟨x0, x1, x2, x3⟩ := X1.out
        go_enter Tryd.func3, Tryd.ntmps3
        go_upto_region 1 with fail
        rw [← HW.out]
        clear HW
        go_wp2_with fail
        refine (may_any _ _ _ _ _ B1.out).mono ?_
        rintro e w2 ⟨rfl, k2⟩
        rw [hx]
        go_wp2_with (go_at_call 7; refine (works_any _ (B1.out.new k2)).mono ?_; rintro e w9 ⟨rfl, k9⟩)
        go_ret
        exact ⟨rfl, (N1.out.new k2).new k9⟩
      · have d0 : decide (f < 0) = false := decide_eq_false (by omega)
        have d1 : decide (1000 < f) = false := decide_eq_false (by omega)
        have d2 : decide (m < 0) = false := decide_eq_false (by omega)
        have d3 : decide (1000 < m) = true := decide_eq_true h3
        clear h h1 h2 h3 hr
        obtain ⟨x0, x1, x2, x3⟩ := X1.out
        go_enter Tryd.func3, Tryd.ntmps3
        go_upto_region 1 with fail
        rw [← HW.out]
        clear HW
        go_wp2_with fail
        refine (may_any _ _ _ _ _ B1.out).mono ?_
        rintro e w2 ⟨rfl, k2⟩
        rw [hx]
        go_wp2_with (go_at_call 7; refine (works_any _ (B1.out.new k2)).mono ?_; rintro e w9 ⟨rfl, k9⟩)
        go_ret
        exact ⟨rfl, (N1.out.new k2).new k9⟩
    · exact main a b c d f m w HB.out hx hr

/-- A world for the witness: the settled one, with the variable as its initialiser lays it. -/
noncomputable def laidWorld (os : Os) : World :=
  { World.holding Tryd.prog os ⟨#[], #[], []⟩ with heap := (World.holding Tryd.prog os ⟨#[], #[], []⟩).heap.modify 0 fun
      | .cells _ t frozen => .cells #[.int .i64 8, .int .i64 64, .int .i64 4, .int .i64 32, .int .i64 128, .int .i64 256, .int .i64 0, .int .i64 4] t frozen
      | o => o }
theorem laid_met (os : Os) : laidMet Tryd.prog Rows.roomRisesRow.laid ((laidWorld os).forCall (fun _ _ => 0) ⟨#[], #[.agg #[.int .i64 0, .int .i64 0, .int .i64 0, .int .i64 0], .int .i64 0, .int .i64 0], []⟩).memory :=
  laidMet_of_run' 8 (by kernel_rfl) (by kernel_rfl)
theorem reads (os : Os) {H : Type} (enc : TypeId × Value → H) : ∃ places, DataW.whole enc Tryd.prog ((laidWorld os).forCall (fun _ _ => 0) ⟨#[], #[.agg #[.int .i64 0, .int .i64 0, .int .i64 0, .int .i64 0], .int .i64 0, .int .i64 0], []⟩).memory Tryd.f3.params.toList Rows.roomRisesSpec.vars false (#[.agg #[.int .i64 0, .int .i64 0, .int .i64 0, .int .i64 0], .int .i64 0, .int .i64 0] : Array Value).toList 8 = some ([.agg [.lit (.int .i64 0), .lit (.int .i64 0), .lit (.int .i64 0), .lit (.int .i64 0)], .lit (.int .i64 0), .lit (.int .i64 0)], [], places) :=
  ⟨[], by kernel_rfl⟩

set_option maxRecDepth 100000 in
theorem lifted (os : Os) (started : os.Started) (H : Type) (enc : TypeId × Value → H) (F : Stop.Interp) :
    ReturnsInHanded {} Tryd.checked os 3 .any ((OpenSpec.ofChange Rows.roomRisesSpec).preRow enc Tryd.prog Tryd.f3 Rows.roomRisesRow.domain false Rows.roomRisesRow.laid) (((OpenSpec.ofChange Rows.roomRisesSpec).at F).post enc Tryd.prog Tryd.f3 false true false false) := by
  obtain ⟨places, hx⟩ := reads os enc
  refine lift_row (C := Tryd.checked) (s := Rows.roomRisesSpec) (tb := 4) own started (by kernel_rfl) Tryd.func3
    (witness_row_at (enc := enc) (C := Tryd.checked) false (laidWorld os) #[.agg #[.int .i64 0, .int .i64 0, .int .i64 0, .int .i64 0], .int .i64 0, .int .i64 0] rfl (by kernel_rfl) (by kernel_rfl) (by kernel_rfl)
      (OpenSpec.preRow_of_cond 8 hx (by kernel_rfl) (fun k hk => by cases hk) (by kernel_rfl) (laid_met os)))
    rfl (by kernel_rfl) Tryd.underlying4 ?_ laidOut (of_decide_eq_true (by kernel_rfl)) ?_
  · intro ds hd
    match ds, hd with
    | [d0, d1, d2], _ => exact ⟨rfl, rfl, rfl⟩
  · intro W base args ds hA hL
    have hA : Args enc Tryd.prog W base Tryd.f3.params.toList args.toList ds := hA
    rw [Tryd.params3] at hA
    obtain ⟨v0, vs0, d0, ds0, p0, hargs, rfl, a0, hA⟩ := hA.cons_
    obtain ⟨v1, vs1, d1, ds1, p1, rfl, rfl, a1, hA⟩ := hA.cons_
    obtain ⟨v2, vs2, d2, ds2, p2, rfl, rfl, a2, hA⟩ := hA.cons_
    obtain ⟨rfl, rfl⟩ := hA.nil_
    obtain rfl : args = #[v0, v1, v2] := by cases args; simp_all
    obtain ⟨x0, y0, z0, u0, rfl⟩ := a0.geo10
    obtain ⟨x1, rfl, w1⟩ := a1.int_ Tryd.underlying3
    obtain ⟨x2, rfl, w2⟩ := a2.int_ Tryd.underlying3
    exact walk x0 y0 z0 u0 x1 x2 W (bd_of hL) (i64_bounds w1) (i64_bounds w2)

theorem said : Rows.RoomRisesSaid :=
  OpenClaim.holds_of_cond 3 Tryd.f3 rfl rfl rfl rfl rfl rfl rfl ⟨rfl, rfl, rfl, rfl, rfl⟩ rfl rfl rfl rfl rfl (by kernel_rfl) Tryd.func3 (by kernel_rfl)
    (of_decide_eq_true (by kernel_rfl)) (by unfold Func.isWrapper; first | (rw [if_pos (by decide +kernel)]; kernel_rfl) | (rw [if_neg (by decide +kernel)]; exact ⟨rfl, rfl⟩))
    (fun os started H enc _ F => by rw [OpenClaim.pre_eq_preRow]; exact lifted os started H enc F)

/-- No parameter wants a stand-in; the program's own looks are off. -/
theorem plain (f : FuncId) (fn : Func) (hf : Tryd.pinned.checked.prog.funcNamed "carrack/carracklaw10.RoomRises" = some f) (hfn : Tryd.pinned.checked.prog.funcs[f]? = some fn) :
    false = Tryd.pinned.checked.prog.looks [] ∧ ∀ (j : Nat) t, fn.params[j]? = some t → Tryd.pinned.checked.prog.wantsStandIn t = false := by
  obtain rfl : f = 3 := Option.some.inj ((show Tryd.prog.funcNamed "carrack/carracklaw10.RoomRises" = some 3 by kernel_rfl).symm.trans hf) |>.symm
  obtain rfl : fn = Tryd.f3 := (Option.some.inj (Tryd.func3.symm.trans hfn)).symm
  refine ⟨by kernel_rfl, fun j t ht => ?_⟩
  rw [Tryd.params3] at ht
  have hm : t ∈ [23, 3, 3] := by simpa using Array.mem_of_getElem? ht
  have hall : ([23, 3, 3].all fun u => !Tryd.prog.wantsStandIn u) = true := by kernel_rfl
  exact (show Tryd.prog.wantsStandIn t = false by simpa using List.all_eq_true.1 hall t hm)

theorem card : Rows.RoomRisesCardSaid :=
  Claim7.holds_tied_plain_at .later [] _ _ _ _ said (fun _ h => by cases h) (by kernel_rfl) (fun _ h => by cases h) roomRises_row_tie rfl ⟨rfl, rfl⟩ (by kernel_rfl) rfl plain (by kernel_rfl)
end Go.Proofs.YtefoijnmnahfdaaDoor.roomRises
