/-
  Contracts: how numbers, texts and keys stand to one another, on both sides.
-/
import Derived.Test.YtbiihjdjbknibaaRows
import Derived.Test.YtbiihjdjbknibaaFa
import Derived.Test.YtbiihjdjbknibaaEf
import Derived.Test.YtbiihjdjbknibaaVn
import Derived.Shelf.Small.Strs
import Derived.Lib.Bytealg
import Derived.StillTailTactics
namespace Go.Proofs.Ytbiihjdjbknibaa
set_option maxRecDepth 100000
open Go.RowKit

/-- A call answers a number, and leaves all as it was. -/
def Num (w : World) (z : Int) (e : Ending) (w' : World) : Prop := e = .returned (.int .i64 z) ∧ w = w'
/-- A call answers a bool, and writes only new memory. -/
def NewBool (w : World) (b : Bool) (e : Ending) (w' : World) : Prop := e = .returned (.bool b) ∧ New w w'
def NewNum (w : World) (z : Int) (e : Ending) (w' : World) : Prop := e = .returned (.int .i64 z) ∧ New w w'

theorem isIno_any (i : Int) (w : World) : Calls Try.prog 70 #[.int .i64 i] w fun e w' => e = .returned (.bool (decide (1 ≤ i ∧ i ≤ 65535))) ∧ w = w' := by
  by_cases h1 : 1 ≤ i
  · by_cases h2 : i ≤ 65535
    · have e : decide (1 ≤ i ∧ i ≤ 65535) = true := decide_eq_true ⟨h1, h2⟩
      rw [e]
      clear e
      go_enter Try.func70, Try.ntmps70
      go_wp2
      go_ret
      exact ⟨rfl, rfl⟩
    · have e : decide (1 ≤ i ∧ i ≤ 65535) = false := decide_eq_false fun h => h2 h.2
      rw [e]
      clear e
      go_enter Try.func70, Try.ntmps70
      go_wp2
      go_ret
      exact ⟨rfl, rfl⟩
  · have e : decide (1 ≤ i ∧ i ≤ 65535) = false := decide_eq_false fun h => h1 h.1
    rw [e]
    clear e
    have d1 : decide (1 ≤ i) = false := decide_eq_false h1
    go_enter Try.func70, Try.ntmps70
    go_wp2
    go_ret
    exact ⟨rfl, rfl⟩

theorem nanI_any (x : Int) (w : World) : Calls Try.prog 92 #[.int .i64 x] w fun e w' => e = .returned (.bool false) ∧ w = w' := by
  go_enter Try.func92, Try.ntmps92
  go_wp2
  go_ret
  exact ⟨by simp, rfl⟩
theorem nan8_any (x : Int) (w : World) : Calls Try.prog 93 #[.int .u8 x] w fun e w' => e = .returned (.bool false) ∧ w = w' := by
  go_enter Try.func93, Try.ntmps93
  go_wp2
  go_ret
  exact ⟨by simp, rfl⟩

set_option maxRecDepth 100000 in
set_option maxHeartbeats 800000 in
theorem cmpInt_any (x y : Int) (w : World) : Calls Try.prog 87 #[.int .i64 x, .int .i64 y] w (Num w (cmpI x y)) := by
  rcases Int.lt_trichotomy x y with h | h | h
  · have E : cmpI x y = -1 := by unfold cmpI; rw [if_pos h]
    rw [E]
    have j1 : decide (x < y) = true := decide_eq_true h
    go_enter Try.func87, Try.ntmps87
    go_wp2_with (first | (go_at_call 92; refine (nanI_any _ _).mono ?_; rintro e w' ⟨rfl, rfl⟩))
    go_ret
    exact ⟨rfl, rfl⟩
  · have E : cmpI x y = 0 := by unfold cmpI; rw [if_neg (by omega), if_neg (by omega)]
    rw [E]
    subst h
    go_enter Try.func87, Try.ntmps87
    go_wp2_with (first | (go_at_call 92; refine (nanI_any _ _).mono ?_; rintro e w' ⟨rfl, rfl⟩))
    go_ret
    exact ⟨rfl, rfl⟩
  · have E : cmpI x y = 1 := by unfold cmpI; rw [if_neg (by omega), if_pos h]
    rw [E]
    have j1 : decide (x < y) = false := decide_eq_false (by omega)
    have j2 : decide (y < x) = true := decide_eq_true h
    go_enter Try.func87, Try.ntmps87
    go_wp2_with (first | (go_at_call 92; refine (nanI_any _ _).mono ?_; rintro e w' ⟨rfl, rfl⟩))
    go_ret
    exact ⟨rfl, rfl⟩

set_option maxRecDepth 100000 in
set_option maxHeartbeats 800000 in
theorem cmp8_any (x y : Int) (w : World) : Calls Try.prog 88 #[.int .u8 x, .int .u8 y] w (Num w (cmpI x y)) := by
  rcases Int.lt_trichotomy x y with h | h | h
  · have E : cmpI x y = -1 := by unfold cmpI; rw [if_pos h]
    rw [E]
    have j1 : decide (x < y) = true := decide_eq_true h
    go_enter Try.func88, Try.ntmps88
    go_wp2_with (first | (go_at_call 93; refine (nan8_any _ _).mono ?_; rintro e w' ⟨rfl, rfl⟩))
    go_ret
    exact ⟨rfl, rfl⟩
  · have E : cmpI x y = 0 := by unfold cmpI; rw [if_neg (by omega), if_neg (by omega)]
    rw [E]
    subst h
    go_enter Try.func88, Try.ntmps88
    go_wp2_with (first | (go_at_call 93; refine (nan8_any _ _).mono ?_; rintro e w' ⟨rfl, rfl⟩))
    go_ret
    exact ⟨rfl, rfl⟩
  · have E : cmpI x y = 1 := by unfold cmpI; rw [if_neg (by omega), if_pos h]
    rw [E]
    have j1 : decide (x < y) = false := decide_eq_false (by omega)
    have j2 : decide (y < x) = true := decide_eq_true h
    go_enter Try.func88, Try.ntmps88
    go_wp2_with (first | (go_at_call 93; refine (nan8_any _ _).mono ?_; rintro e w' ⟨rfl, rfl⟩))
    go_ret
    exact ⟨rfl, rfl⟩

theorem compareString_any (a b : ByteArray) (w : World) : Calls Try.prog 94 #[.string a, .string b] w (Num w (cmpS a b)) := by
  go_enter Try.func94, Try.ntmps94
  go_wp2
  rw [run_callFunc_extern Try.func95 (by kernel_rfl) (by kernel_rfl) (by kernel_rfl) (e := Extern.BytealgCompare.compare) (by kernel_rfl), Lib.run_compareString]
  simp only [Result.andThen]
  rw [Oper.upon_value]
  go_wp2
  go_ret
  exact ⟨rfl, rfl⟩
theorem compareS_any (a b : ByteArray) (w : World) : Calls Try.prog 89 #[.string a, .string b] w (Num w (cmpS a b)) := by
  go_enter Try.func89, Try.ntmps89
  go_wp2_with (go_at_call 94; refine (compareString_any _ _ _).mono ?_; rintro e w' ⟨rfl, rfl⟩)
  go_ret
  exact ⟨rfl, rfl⟩

set_option maxHeartbeats 800000 in
theorem or_any (g : Nat) (x0 x1 x2 x3 : Int) (w : World) (h : Blk w g 3 [.int .i64 x0, .int .i64 x1, .int .i64 x2, .int .i64 x3]) :
    Calls Try.prog 86 #[.slice (some ⟨g, 0, none⟩) 4 4] w (Num w (orI x0 x1 x2 x3)) := by
  have c0 : w.cell? ⟨g, 0, none⟩ = some (.int .i64 x0) := h.cell 0
  have c1 : w.cell? ⟨g, 1, none⟩ = some (.int .i64 x1) := h.cell 1
  have c2 : w.cell? ⟨g, 2, none⟩ = some (.int .i64 x2) := h.cell 2
  have c3 : w.cell? ⟨g, 3, none⟩ = some (.int .i64 x3) := h.cell 3
  clear h
  go_enter Try.func86, Try.ntmps86
  go_wp2_with fail
  by_cases h0 : x0 = 0
  · subst h0
    by_cases h1 : x1 = 0
    · subst h1
      by_cases h2 : x2 = 0
      · subst h2
        by_cases h3 : x3 = 0
        · subst h3
          refine wp_loop_rounds 5 ?_
          rw [rounds_succ]
          go_wp2_with fail
          rw [rounds_succ]
          go_wp2_with fail
          rw [rounds_succ]
          go_wp2_with fail
          rw [rounds_succ]
          go_wp2_with fail
          rw [rounds_succ]
          go_wp2
          go_ret
          exact ⟨rfl, rfl⟩
        · have HE : Hid (orI 0 0 0 x3 = x3) := by show _ = _; simp [orI]
          have d3 : (x3 != 0) = true := bne_iff_ne.2 h3
          clear h3
          refine wp_loop_rounds 4 ?_
          rw [rounds_succ]
          go_wp2_with fail
          rw [rounds_succ]
          go_wp2_with fail
          rw [rounds_succ]
          go_wp2_with fail
          rw [rounds_succ]
          go_wp2
          go_ret
          exact ⟨by rw [HE.out]; rfl, rfl⟩
      · have HE : Hid (orI 0 0 x2 x3 = x2) := by show _ = _; simp [orI, h2]
        have d3 : (x2 != 0) = true := bne_iff_ne.2 h2
        clear h2
        refine wp_loop_rounds 3 ?_
        rw [rounds_succ]
        go_wp2_with fail
        rw [rounds_succ]
        go_wp2_with fail
        rw [rounds_succ]
        go_wp2
        go_ret
        exact ⟨by rw [HE.out]; rfl, rfl⟩
    · have HE : Hid (orI 0 x1 x2 x3 = x1) := by show _ = _; simp [orI, h1]
      have d3 : (x1 != 0) = true := bne_iff_ne.2 h1
      clear h1
      refine wp_loop_rounds 2 ?_
      rw [rounds_succ]
      go_wp2_with fail
      rw [rounds_succ]
      go_wp2
      go_ret
      exact ⟨by rw [HE.out]; rfl, rfl⟩
  · have HE : Hid (orI x0 x1 x2 x3 = x0) := by show _ = _; simp [orI, h0]
    have d3 : (x0 != 0) = true := bne_iff_ne.2 h0
    clear h0
    refine wp_loop_rounds 1 ?_
    rw [rounds_succ]
    go_wp2
    go_ret
    exact ⟨by rw [HE.out]; rfl, rfl⟩

theorem cmpInt_s (x y : Int) (w : World) : Calls Try.prog 87 #[.int .i64 x, .int .i64 y] w fun e w' => e = .returned (.int .i64 (cmpI x y)) ∧ w' = w := (cmpInt_any x y w).mono fun _ _ h => ⟨h.1, h.2.symm⟩
theorem cmp8_s (x y : Int) (w : World) : Calls Try.prog 88 #[.int .u8 x, .int .u8 y] w fun e w' => e = .returned (.int .i64 (cmpI x y)) ∧ w' = w := (cmp8_any x y w).mono fun _ _ h => ⟨h.1, h.2.symm⟩
theorem compareS_s (a b : ByteArray) (w : World) : Calls Try.prog 89 #[.string a, .string b] w fun e w' => e = .returned (.int .i64 (cmpS a b)) ∧ w' = w := (compareS_any a b w).mono fun _ _ h => ⟨h.1, h.2.symm⟩

set_option maxRecDepth 100000 in
set_option maxHeartbeats 1600000 in
theorem compare_any (a b : KY) (w : World) :
    Calls Try.prog 79 #[.agg #[.int .i64 a.i, .int .u8 (a.t : Nat), .string a.n, .int .i64 a.c], .agg #[.int .i64 b.i, .int .u8 (b.t : Nat), .string b.n, .int .i64 b.c]] w (NewNum w (cmpK a b)) := by
  obtain ⟨ai, at_, an, ac⟩ := a
  obtain ⟨bi, bt, bn, bc⟩ := b
  show Calls Try.prog 79 #[.agg #[.int .i64 ai, .int .u8 (at_ : Nat), .string an, .int .i64 ac], .agg #[.int .i64 bi, .int .u8 (bt : Nat), .string bn, .int .i64 bc]] w (NewNum w (orI (cmpI ai bi) (cmpI at_ bt) (cmpS an bn) (cmpI ac bc)))
  generalize hz0 : cmpI ai bi = z0
  generalize hz1 : cmpI at_ bt = z1
  generalize hz2 : cmpS an bn = z2
  generalize hz3 : cmpI ac bc = z3
  have S0 : ∀ u : World, Calls Try.prog 87 #[.int .i64 ai, .int .i64 bi] u fun e w' => e = .returned (.int .i64 z0) ∧ w' = u := fun u => by rw [← hz0]; exact cmpInt_s _ _ _
  have S1 : ∀ u : World, Calls Try.prog 88 #[.int .u8 (at_ : Nat), .int .u8 (bt : Nat)] u fun e w' => e = .returned (.int .i64 z1) ∧ w' = u := fun u => by rw [← hz1]; exact cmp8_s _ _ _
  have S2 : ∀ u : World, Calls Try.prog 89 #[.string an, .string bn] u fun e w' => e = .returned (.int .i64 z2) ∧ w' = u := fun u => by rw [← hz2]; exact compareS_s _ _ _
  have S3 : ∀ u : World, Calls Try.prog 87 #[.int .i64 ac, .int .i64 bc] u fun e w' => e = .returned (.int .i64 z3) ∧ w' = u := fun u => by rw [← hz3]; exact cmpInt_s _ _ _
  clear hz0 hz1 hz2 hz3
  have T0 := Lib.hid S0
  have T1 := Lib.hid S1
  have T2 := Lib.hid S2
  have T3 := Lib.hid S3
  clear S0 S1 S2 S3
  obtain ⟨w2, hw2⟩ : ∃ w2, w2 = (w.alloc (.cells #[.int .i64 ai, .int .u8 (at_ : Nat), .string an, .int .i64 ac] 24)).alloc (.cells #[.int .i64 bi, .int .u8 (bt : Nat), .string bn, .int .i64 bc] 24) := ⟨_, rfl⟩
  have K2 : Hid (New w w2) := by rw [hw2]; exact ((Kept.refl _ _).alloc _).alloc _
  have B1 : Hid (Blk w2 w.heap.size 24 [.int .i64 ai, .int .u8 (at_ : Nat), .string an, .int .i64 ac]) := by rw [hw2]; exact (Blk.made w _ _).alloc _
  have B2 : Hid (Blk w2 (w.heap.size + 1) 24 [.int .i64 bi, .int .u8 (bt : Nat), .string bn, .int .i64 bc]) := by
    rw [hw2]
    have := Blk.made (w.alloc (.cells #[.int .i64 ai, .int .u8 (at_ : Nat), .string an, .int .i64 ac] 24)) 24 #[.int .i64 bi, .int .u8 (bt : Nat), .string bn, .int .i64 bc]
    rwa [World.size_alloc] at this
  have HW := Lib.hid hw2
  clear hw2
  go_enter Try.func79, Try.ntmps79
  go_wp2_with fail
  rw [← HW.out]
  clear HW
  have a0 : w2.cell? ⟨w.heap.size, 0, none⟩ = some (.int .i64 ai) := B1.out.cell 0
  have a1 : w2.cell? ⟨w.heap.size, 1, none⟩ = some (.int .u8 (at_ : Nat)) := B1.out.cell 1
  have a2 : w2.cell? ⟨w.heap.size, 2, none⟩ = some (.string an) := B1.out.cell 2
  have a3 : w2.cell? ⟨w.heap.size, 3, none⟩ = some (.int .i64 ac) := B1.out.cell 3
  have b0 : w2.cell? ⟨w.heap.size + 1, 0, none⟩ = some (.int .i64 bi) := B2.out.cell 0
  have b1 : w2.cell? ⟨w.heap.size + 1, 1, none⟩ = some (.int .u8 (bt : Nat)) := B2.out.cell 1
  have b2 : w2.cell? ⟨w.heap.size + 1, 2, none⟩ = some (.string bn) := B2.out.cell 2
  have b3 : w2.cell? ⟨w.heap.size + 1, 3, none⟩ = some (.int .i64 bc) := B2.out.cell 3
  clear B1 B2
  go_still_tail 20, (by kernel_rfl)
  still_call (T0.out _)
  repeat still_step
  still_call (T1.out _)
  repeat still_step
  still_call (T2.out _)
  repeat still_step
  still_call (T3.out _)
  refine wpStill_nil ?_
  change wpList _ _ _ _ _ w2.drew
  have K1 : Hid (New w w2.drew) := K2.out.drew
  clear T0 T1 T2 T3 a0 a1 a2 a3 b0 b1 b2 b3 K2
  generalize w2.drew = w1 at *
  go_wp2_with fail
  refine (or_any w1.heap.size z0 z1 z2 z3 _ (Blk.made w1 3 #[.int .i64 z0, .int .i64 z1, .int .i64 z2, .int .i64 z3])).mono ?_
  rintro e w2 ⟨rfl, rfl⟩
  go_wp2
  go_ret
  exact ⟨rfl, K1.out.alloc _⟩
end Go.Proofs.Ytbiihjdjbknibaa
