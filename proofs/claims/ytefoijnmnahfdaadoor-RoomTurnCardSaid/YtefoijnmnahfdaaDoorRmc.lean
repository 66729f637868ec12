/-
  Layer 10: Want, Cap, Turn and May, over numbers.
-/
import Derived.Test.YtefoijnmnahfdaaDoorRmb
namespace Go.Proofs.YtefoijnmnahfdaaDoor
open Go.RowKit

/-- A geometry in a box. -/
structure Box (w : World) (g : Nat) (a b c d : Int) : Prop where
  c0 : w.cell? ⟨g, 0, none⟩ = some (.int .i64 a)
  c1 : w.cell? ⟨g, 1, none⟩ = some (.int .i64 b)
  c2 : w.cell? ⟨g, 2, none⟩ = some (.int .i64 c)
  c3 : w.cell? ⟨g, 3, none⟩ = some (.int .i64 d)
theorem Box.new {w w' : World} {g : Nat} {a b c d : Int} (h : Box w g a b c d) (k : New w w') : Box w' g a b c d := ⟨k.cell h.c0 id, k.cell h.c1 id, k.cell h.c2 id, k.cell h.c3 id⟩
theorem box_made (w : World) (t : TypeId) (a b c d : Int) : Box (w.alloc (.cells #[.int .i64 a, .int .i64 b, .int .i64 c, .int .i64 d] t)) w.heap.size a b c d := by
  have h := Blk.made w t #[.int .i64 a, .int .i64 b, .int .i64 c, .int .i64 d]
  exact ⟨h.cell 0, h.cell 1, h.cell 2, h.cell 3⟩

/-- How many blocks are asked for. -/
def wantI (a b c d f : Int) : Int := if wiB a b c d && decide (0 ≤ f) then upI (8 * min f 1048576 + 8) (b - 1) + 4 + d else 0
/-- How many facts there is room for. -/
def capI (a b c d : Int) : Int := if wiB a b c d then max 0 (((a - d - 4 - d) * (b - 1) - 8).tdiv 8) else 0
def turnB (a b c d f : Int) : Bool := wiB a b c d && (decide (0 ≤ f) && decide (2 * wantI a b c d f + 2 ≤ a - d))
def mayB (a b c d : Int) : Bool := wiB a b c d && decide (4 ≤ capI a b c d)

theorem upI_le {n k : Int} (hn : 0 ≤ n) (hk : 1 ≤ k) : 0 ≤ upI n k ∧ upI n k ≤ n + k - 1 := by
  unfold upI
  exact ⟨Int.tdiv_nonneg (by omega) (by omega), Int.tdiv_le_self _ (by omega)⟩

theorem want_le (a b c d f : Int) : 0 ≤ wantI a b c d f ∧ wantI a b c d f ≤ 9000000 := by
  unfold wantI
  split
  · rename_i h
    simp at h
    obtain ⟨h1, h2, h3, h4⟩ := wiB_yes h.1
    have := upI_le (n := 8 * min f 1048576 + 8) (k := b - 1) (by omega) (by omega)
    omega
  · omega

theorem prod_bd {x y : Int} (h1 : -8 ≤ x) (h2 : x ≤ 64) (h3 : 0 ≤ y) (h4 : y ≤ 32) : -256 ≤ x * y ∧ x * y ≤ 2048 := by
  have e1 : x * y ≤ 64 * y := Int.mul_le_mul_of_nonneg_right h2 h3
  have e2 : -8 * y ≤ x * y := Int.mul_le_mul_of_nonneg_right h1 h3
  omega

theorem tdiv8 (x : Int) : x.tdiv 8 = if 0 ≤ x then x / 8 else -((-x) / 8) := by
  split
  · exact Int.tdiv_eq_ediv_of_nonneg (by assumption)
  · rw [← Int.tdiv_eq_ediv_of_nonneg (by omega : 0 ≤ -x), Int.neg_tdiv]; omega

theorem cap_le (a b c d : Int) : 0 ≤ capI a b c d ∧ capI a b c d ≤ 2048 := by
  unfold capI
  split
  · rename_i h
    obtain ⟨h1, h2, h3, h4⟩ := wiB_yes h
    have := prod_bd (x := a - d - 4 - d) (y := b - 1) (by omega) (by omega) (by omega) (by omega)
    rw [tdiv8]
    generalize (a - d - 4 - d) * (b - 1) = P at *
    omega
  · omega

set_option maxHeartbeats 1600000 in
theorem want_any (a b c d f : Int) (w : World) (hB : Bd w) :
    Calls Tryd.prog 8 #[.agg #[.int .i64 a, .int .i64 b, .int .i64 c, .int .i64 d], .int .i64 f] w (IntN w (wantI a b c d f)) := by
  obtain ⟨w1, hw1⟩ : ∃ w1, w1 = w.alloc (.cells #[.int .i64 a, .int .i64 b, .int .i64 c, .int .i64 d] 23) := ⟨_, rfl⟩
  have N1 : Hid (New w w1) := by rw [hw1]; exact (Kept.refl _ _).alloc _
  have X1 : Hid (Box w1 w.heap.size a b c d) := by rw [hw1]; exact box_made _ _ _ _ _ _
  have HW := Lib.hid hw1
  have B1 := Lib.hid (hB.new N1.out)
  clear hw1 hB
  cases hx : wiB a b c d
  · have e : wantI a b c d f = 0 := by rw [wantI, hx]; rfl
    rw [e]
    obtain ⟨x0, x1, x2, x3⟩ := X1.out
    go_enter Tryd.func8, Tryd.ntmps8
    go_upto_region 1 with fail
    rw [← HW.out]
    clear HW
    go_wp2_with (go_at_call 12; refine (isWithin_any _ _ _ _ _ B1.out).mono ?_; rintro e w2 ⟨rfl, k2⟩; rw [hx])
    go_ret
    exact ⟨rfl, N1.out.new k2⟩
  · obtain ⟨h1, h2, h3, h4⟩ := wiB_yes hx
    by_cases hf : 0 ≤ f
    · by_cases hm : 1048576 < f
      · have hu := upI_le (n := 8388616) (k := b - 1) (by omega) (by omega)
        have q1 := wrapI (x := 8388608) (by omega) (by omega)
        have m1 := wrapJ (x := 8388608) (by omega) (by omega)
        have q2 := wrapI (x := 8388616) (by omega) (by omega)
        have m2 := wrapJ (x := 8388616) (by omega) (by omega)
        have q3 := wrapI (x := b - 1) (by omega) (by omega)
        have m3 := wrapJ (x := b - 1) (by omega) (by omega)
        have HD : Hid (∀ u : World, Calls Tryd.prog 13 #[.int .i64 (8388616), .int .i64 (b - 1)] u fun e w' => e = .returned (.int .i64 (upI (8388616) (b - 1))) ∧ w' = u) := fun u => dividedUp_any _ _ u (by omega) (by omega)
        have q4 := wrapI (x := upI (8388616) (b - 1) + 4) (by omega) (by omega)
        have m4 := wrapJ (x := upI (8388616) (b - 1) + 4) (by omega) (by omega)
        have q5 := wrapI (x := upI (8388616) (b - 1) + 4 + d) (by omega) (by omega)
        have m5 := wrapJ (x := upI (8388616) (b - 1) + 4 + d) (by omega) (by omega)
        have e : wantI a b c d f = upI (8388616) (b - 1) + 4 + d := by rw [wantI, hx, decide_eq_true hf, show min f 1048576 = 1048576 by omega]; rfl
        rw [e]
        have d0 : decide (f < 0) = false := decide_eq_false (by omega)
        generalize upI (8388616) (b - 1) = u at *
        clear hu e h1 h2 h3 h4 hf
        obtain ⟨x0, x1, x2, x3⟩ := X1.out
        go_enter Tryd.func8, Tryd.ntmps8
        go_upto_region 1 with fail
        rw [← HW.out]
        clear HW
        go_wp2_with fail
        refine (isWithin_any _ _ _ _ _ B1.out).mono ?_
        rintro e w2 ⟨rfl, k2⟩
        rw [hx]
        clear x0 x1 x2 x3
        obtain ⟨x0, x1, x2, x3⟩ := X1.out.new k2
        have N2 := Lib.hid (N1.out.new k2)
        clear k2
        go_wp2
        go_quiet ((go_at_call 13; exact Calls.quiet_of_same (HD.out _)))
        go_wp2
        go_ret
        exact ⟨rfl, N2.out.drewN _⟩
      · have hu := upI_le (n := 8 * f + 8) (k := b - 1) (by omega) (by omega)
        have q1 := wrapI (x := 8 * f) (by omega) (by omega)
        have m1 := wrapJ (x := 8 * f) (by omega) (by omega)
        have q2 := wrapI (x := 8 * f + 8) (by omega) (by omega)
        have m2 := wrapJ (x := 8 * f + 8) (by omega) (by omega)
        have q3 := wrapI (x := b - 1) (by omega) (by omega)
        have m3 := wrapJ (x := b - 1) (by omega) (by omega)
        have HD : Hid (∀ u : World, Calls Tryd.prog 13 #[.int .i64 (8 * f + 8), .int .i64 (b - 1)] u fun e w' => e = .returned (.int .i64 (upI (8 * f + 8) (b - 1))) ∧ w' = u) := fun u => dividedUp_any _ _ u (by omega) (by omega)
        have q4 := wrapI (x := upI (8 * f + 8) (b - 1) + 4) (by omega) (by omega)
        have m4 := wrapJ (x := upI (8 * f + 8) (b - 1) + 4) (by omega) (by omega)
        have q5 := wrapI (x := upI (8 * f + 8) (b - 1) + 4 + d) (by omega) (by omega)
        have m5 := wrapJ (x := upI (8 * f + 8) (b - 1) + 4 + d) (by omega) (by omega)
        have e : wantI a b c d f = upI (8 * f + 8) (b - 1) + 4 + d := by rw [wantI, hx, decide_eq_true hf, show min f 1048576 = f by omega]; rfl
        rw [e]
        have d0 : decide (f < 0) = false := decide_eq_false (by omega)
        generalize upI (8 * f + 8) (b - 1) = u at *
        clear hu e h1 h2 h3 h4 hf
        obtain ⟨x0, x1, x2, x3⟩ := X1.out
        go_enter Tryd.func8, Tryd.ntmps8
        go_upto_region 1 with fail
        rw [← HW.out]
        clear HW
        go_wp2_with fail
        refine (isWithin_any _ _ _ _ _ B1.out).mono ?_
        rintro e w2 ⟨rfl, k2⟩
        rw [hx]
        clear x0 x1 x2 x3
        obtain ⟨x0, x1, x2, x3⟩ := X1.out.new k2
        have N2 := Lib.hid (N1.out.new k2)
        clear k2
        go_wp2
        go_quiet ((go_at_call 13; exact Calls.quiet_of_same (HD.out _)))
        go_wp2
        go_ret
        exact ⟨rfl, N2.out.drewN _⟩
    · have e : wantI a b c d f = 0 := by rw [wantI, hx, decide_eq_false hf]; rfl
      rw [e]
      have d0 : decide (f < 0) = true := decide_eq_true (by omega)
      obtain ⟨x0, x1, x2, x3⟩ := X1.out
      clear h1 h2 h3 h4 hf
      go_enter Tryd.func8, Tryd.ntmps8
      go_upto_region 1 with fail
      rw [← HW.out]
      clear HW
      go_wp2_with (go_at_call 12; refine (isWithin_any _ _ _ _ _ B1.out).mono ?_; rintro e w2 ⟨rfl, k2⟩; rw [hx])
      go_ret
      exact ⟨rfl, N1.out.new k2⟩

end Go.Proofs.YtefoijnmnahfdaaDoor
