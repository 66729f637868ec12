/-
  Contracts of the reference's chip: New.
-/
import Derived.Test.YtfhngcnphcjmgaaRb
namespace Go.Proofs.Ytfhngcnphcjmgaa
open Go.ChangeShapes Go.WideShapes Go.ChangeAt Go.RowKit

/-- The reference's chip comes back, in memory of its own. -/
def RefP (w : World) (s : CSt) (e : Ending) (w' : World) : Prop :=
  ∃ g Q, e = .returned (.tuple #[.pointer (some ⟨g, 0, none⟩), .int .i64 0]) ∧ RChip Q w' g s ∧ (∀ b, Q b → w.heap.size ≤ b) ∧ New w w'

theorem rNew_no (a b c d : Int) (w : World) (h : ¬ geoOk a b c d) :
    Calls Try.prog 46 #[.agg #[.int .i64 a, .int .i64 b, .int .i64 c, .int .i64 d]] w fun e w' => e = .returned (.tuple #[.pointer none, .int .i64 2]) ∧ New w w' := by
  have e1 : decide (geoOk a b c d) = false := decide_eq_false h
  clear h
  go_enter Try.func46, Try.ntmps46
  go_wp2_with fail
  refine (rMay_any _ _ _ _ _).mono ?_
  rintro e w1 ⟨rfl, hk⟩
  rw [e1]
  clear e1
  have K1 : Hid (New w w1) := ((Kept.refl _ _).alloc _).new hk
  clear hk
  go_wp2
  go_ret2
  exact ⟨rfl, K1.out⟩

/-- What the region that makes the reference's chip leaves. -/
def RNewS (w : World) (a b c d : Nat) (v : Value) (w' : World) : Prop :=
  ∃ g gc gb, v = .pointer (some ⟨g, 0, none⟩) ∧ Blk w' g 41 [.int .i64 a, .int .i64 b, .int .i64 c, .int .i64 d, .slice (some ⟨gc, 0, none⟩) (a * b * c) (a * b * c), .slice (some ⟨gb, 0, none⟩) a a, .slice none 0 0, .int .i64 0, .bool false, .int .i64 0] ∧
    Blk w' gc 5 ((List.replicate (a * b * c) 0).map byt) ∧ Blk w' gb 4 ((List.replicate a false).map boolV) ∧ w.heap.size ≤ g ∧ w.heap.size ≤ gc ∧ w.heap.size ≤ gb ∧ New w w'

theorem rnew_fill (n k : Nat) (hk : k < n) : ((List.replicate k 255 ++ List.replicate (n - k) 0).map byt).set k (.int .u8 255) = (List.replicate (k + 1) 255 ++ List.replicate (n - (k + 1)) 0).map byt := by
  have h1 : List.replicate (n - k) 0 = 0 :: List.replicate (n - (k + 1)) 0 := by rw [show n - k = (n - (k + 1)) + 1 from by omega, List.replicate_succ]
  rw [h1, set_step (List.replicate k 255) _ 0 255 k (.int .u8 255) (by simp) rfl, List.replicate_succ']

set_option maxRecDepth 100000 in
set_option maxHeartbeats 1600000 in
theorem rNew_ok (a b c d : Nat) (w : World) (h : geoOk a b c d) :
    Calls Try.prog 46 #[.agg #[.int .i64 a, .int .i64 b, .int .i64 c, .int .i64 d]] w (RefP w (newS a b c d)) := by
  have hok := newS_ok a b c d h
  have e1 : decide (geoOk a b c d) = true := decide_eq_true h
  obtain ⟨i0, hi, hz0, hz1, hz2⟩ := info_parts info_bool
  obtain ⟨i1, hi1, hz10, hz11, hz12⟩ := info_parts info_u8
  have hb2 : a * b * c ≤ 524288 := prod_le (by have := h.1; omega) (by have := h.2.1; omega) (by have := h.2.2.1; omega)
  have hmk := fun u => run_make_bools (P := Try.prog) 39 4 i0 Try.underlying39 hi hz0 hz1 hz2 .i64 .i64 a (by have := h.1.2; omega) u
  have hmk1 := fun u => run_make_bytes (P := Try.prog) 30 5 i1 Try.underlying30 hi1 hz10 hz11 hz12 .i64 .i64 ((a * b * c : Nat) : Int) ((a * b * c : Nat) : Int) (a * b * c) (a * b * c) rfl rfl (Nat.le_refl _) (by omega) u
  have ha64 := h.1.2
  have HO := Lib.hid hok
  have HG := Lib.hid h
  have HB2 := Lib.hid hb2
  clear h hok hz0 hz1 hz2 hi hi1 hz10 hz11 hz12 hb2
  generalize hN : a * b * c = N at *
  have HN := Lib.hid hN
  clear hN
  go_enter Try.func46, Try.ntmps46
  go_wp2_with fail
  refine (rMay_any _ _ _ _ _).mono ?_
  rintro e w1 ⟨rfl, hk⟩
  rw [e1]
  clear e1
  have hc0 := hk.cell (show (w.alloc (.cells #[.int .i64 a, .int .i64 b, .int .i64 c, .int .i64 d] 23)).cell? ⟨w.heap.size, 0, none⟩ = some (.int .i64 a) from (Blk.made w _ _).cell 0) (fun f => f)
  have hc1 := hk.cell (show (w.alloc (.cells #[.int .i64 a, .int .i64 b, .int .i64 c, .int .i64 d] 23)).cell? ⟨w.heap.size, 1, none⟩ = some (.int .i64 b) from (Blk.made w _ _).cell 1) (fun f => f)
  have hc2 := hk.cell (show (w.alloc (.cells #[.int .i64 a, .int .i64 b, .int .i64 c, .int .i64 d] 23)).cell? ⟨w.heap.size, 2, none⟩ = some (.int .i64 c) from (Blk.made w _ _).cell 2) (fun f => f)
  have hc3 := hk.cell (show (w.alloc (.cells #[.int .i64 a, .int .i64 b, .int .i64 c, .int .i64 d] 23)).cell? ⟨w.heap.size, 3, none⟩ = some (.int .i64 d) from (Blk.made w _ _).cell 3) (fun f => f)
  have K1 : Hid (New w w1) := ((Kept.refl _ _).alloc _).new hk
  clear hk
  go_wp2_with fail
  go_region_held3 (fun w' => w'.cell? ⟨w.heap.size, 0, none⟩ = some (.int .i64 (a : Int)) ∧ w'.cell? ⟨w.heap.size, 1, none⟩ = some (.int .i64 (b : Int)) ∧ w'.cell? ⟨w.heap.size, 2, none⟩ = some (.int .i64 (c : Int)) ∧ w'.cell? ⟨w.heap.size, 3, none⟩ = some (.int .i64 (d : Int)))
    (first
      | go_keep
      | (go_split_ands; refine ⟨?_, ?_, ?_, ?_⟩ <;> (refine KA.out.cell ?_ (fun f => f); assumption)))
    (first
      | (go_at_call 96; refine (rAll_any _ _ _ _ _ (by have := HG.out.1; omega) (by have := HG.out.2.1; omega) (by have := HG.out.2.2.1; omega)).mono ?_; rw [HN.out]; rintro e w2 ⟨rfl, hk⟩; have KA := Lib.hid hk; clear hk))
  · rename_i hHeld
    have KA2 : New w w2 := ((K1.out.drew)).new KA.out
    have F1 : Hid (Blk (((w2.alloc (.cells (rawB (List.replicate N 0)) 5)).alloc (.cells (Array.replicate a (boolV false)) 4)).alloc (.cells #[.int .i64 a, .int .i64 b, .int .i64 c, .int .i64 d, .slice (some ⟨w2.heap.size, 0, none⟩) N N, .slice (some ⟨w2.heap.size + 1, 0, none⟩) a a, .slice none 0 0, .int .i64 0, .bool false, .int .i64 0] 41)) (w2.heap.size + 1 + 1) 41 [.int .i64 a, .int .i64 b, .int .i64 c, .int .i64 d, .slice (some ⟨w2.heap.size, 0, none⟩) N N, .slice (some ⟨(w2.heap.size + 1), 0, none⟩) a a, .slice none 0 0, .int .i64 0, .bool false, .int .i64 0]) := by simpa [Hid] using Blk.made ((w2.alloc (.cells (rawB (List.replicate N 0)) 5)).alloc (.cells (Array.replicate a (boolV false)) 4)) 41 _
    have F2 : Hid (Blk (((w2.alloc (.cells (rawB (List.replicate N 0)) 5)).alloc (.cells (Array.replicate a (boolV false)) 4)).alloc (.cells #[.int .i64 a, .int .i64 b, .int .i64 c, .int .i64 d, .slice (some ⟨w2.heap.size, 0, none⟩) N N, .slice (some ⟨w2.heap.size + 1, 0, none⟩) a a, .slice none 0 0, .int .i64 0, .bool false, .int .i64 0] 41)) w2.heap.size 5 ((List.replicate N 0).map byt)) := ((Blk.madeB w2 5 (List.replicate N 0)).alloc _).alloc _
    have F3 : Hid (Blk (((w2.alloc (.cells (rawB (List.replicate N 0)) 5)).alloc (.cells (Array.replicate a (boolV false)) 4)).alloc (.cells #[.int .i64 a, .int .i64 b, .int .i64 c, .int .i64 d, .slice (some ⟨w2.heap.size, 0, none⟩) N N, .slice (some ⟨w2.heap.size + 1, 0, none⟩) a a, .slice none 0 0, .int .i64 0, .bool false, .int .i64 0] 41)) (w2.heap.size + 1) 4 ((List.replicate a false).map boolV)) := by
      have := (Blk.made (w2.alloc (.cells (rawB (List.replicate N 0)) 5)) 4 (Array.replicate a (boolV false))).alloc (.cells #[.int .i64 a, .int .i64 b, .int .i64 c, .int .i64 d, .slice (some ⟨w2.heap.size, 0, none⟩) N N, .slice (some ⟨w2.heap.size + 1, 0, none⟩) a a, .slice none 0 0, .int .i64 0, .bool false, .int .i64 0] 41)
      simpa [Hid] using this
    have F4 : Hid (New w (((w2.alloc (.cells (rawB (List.replicate N 0)) 5)).alloc (.cells (Array.replicate a (boolV false)) 4)).alloc (.cells #[.int .i64 a, .int .i64 b, .int .i64 c, .int .i64 d, .slice (some ⟨w2.heap.size, 0, none⟩) N N, .slice (some ⟨w2.heap.size + 1, 0, none⟩) a a, .slice none 0 0, .int .i64 0, .bool false, .int .i64 0] 41))) := ((KA2.alloc _).alloc _).alloc _
    have G1 : Hid (w.heap.size ≤ (w2.heap.size + 1 + 1)) := by have := KA2.size; show _ ≤ _; omega
    have G2 : Hid (w.heap.size ≤ w2.heap.size) := KA2.size
    have G3 : Hid (w.heap.size ≤ (w2.heap.size + 1)) := by have := KA2.size; show _ ≤ _; omega
    clear KA2
    generalize (w2.heap.size + 1 + 1) = g at *
    generalize (w2.heap.size + 1) = gb at *
    generalize w2.heap.size = gc at *
    have hNb : N ≤ 524288 := HB2.out
    clear KA hc0 hc1 hc2 hc3 K1 hmk hmk1 hHeld
    go_wp2_with fail
    go_loopw [5] (fun i wr => ∃ k : Nat, k ≤ N ∧ i = .int .i64 k ∧ Hid (Blk wr gc 5 ((List.replicate k 255 ++ List.replicate (N - k) 0).map byt)) ∧ Hid (Blk wr g 41 [.int .i64 a, .int .i64 b, .int .i64 c, .int .i64 d, .slice (some ⟨gc, 0, none⟩) N N, .slice (some ⟨gb, 0, none⟩) a a, .slice none 0 0, .int .i64 0, .bool false, .int .i64 0]) ∧ Hid (Blk wr gb 4 ((List.replicate a false).map boolV)) ∧ Hid (New w wr)) (fun i _ => N - (intOf i).toNat)
    case atStart => exact ⟨0, Nat.zero_le _, rfl, by simpa [Hid] using F2.out, F1, F3, F4⟩
    case round =>
      obtain ⟨k, hk, rfl, V1, V2, V3, V4⟩ := hrel
      clear F1 F2 F3 F4
      have c4 : wr.cell? ⟨g, 4, none⟩ = some (.slice (some ⟨gc, 0, none⟩) N N) := V2.out.cell 4
      have hgl := V2.out.lt
      by_cases hlt : k < N
      · have hcell : wr.cell? ⟨gc, k, none⟩ = some (.int .u8 0) := by
          rw [V1.out.cell, show N - k = (N - (k + 1)) + 1 from by omega, List.replicate_succ]
          exact get_step _ _ _ _ (by simp)
        have hfree := V1.out.free k
        go_wp2
        go_roundw
        case rel =>
          have hks : Kept (· = gc) wr (wr.setCell ⟨gc, k, none⟩ (.int .u8 255)) := Kept.set1 wr gc k _
          refine ⟨k + 1, by omega, by go_num, ?_, V2.out.kept hks (V2.out.ne_of V1.out (by decide)), V3.out.kept hks (V3.out.ne_of V1.out (by decide)), V4.out.setCell (p := ⟨gc, k, none⟩) (fun hh => by have := G2.out; simp at hh; omega) _⟩
          have hb1 := V1.out.put k (.int .u8 255)
          rw [rnew_fill N k hlt] at hb1
          exact hb1
        case measure => simp [intOf]; omega
      · obtain rfl : k = N := by omega
        have hlen : Hid ((newS a b c d).by_.length = k ∧ (newS a b c d).bad.length = a) := by
          rw [← HN.out]
          simp [Hid, newS]
        have hlow : Hid (g < wr.heap.size ∧ gc < wr.heap.size ∧ gb < wr.heap.size) := ⟨V2.out.lt, V1.out.lt, V3.out.lt⟩
        go_wp2
        go_ret2
        have h1 := V1.out
        rw [Nat.sub_self, List.replicate_zero, List.append_nil] at h1
        have hr : RRep (fun b => w.heap.size ≤ b ∧ b < wr.heap.size) wr g gc gb k a none 0 (newS a b c d) := {
          low := fun b hb => hb.2, ok := HO.out, qg := ⟨G1.out, hlow.out.1⟩, qc := ⟨G2.out, hlow.out.2.1⟩, qb := ⟨G3.out, hlow.out.2.2⟩
          chip := by unfold rCells; rw [hlen.out.1, hlen.out.2]; exact V2.out
          cells := ⟨[], by rw [List.append_nil]; show Blk _ _ _ ((List.replicate (a * b * c) 255).map byt); rw [HN.out]; exact h1⟩
          ccap := by rw [hlen.out.1]; exact ⟨Nat.le_refl _, Nat.le_trans HB2.out (by decide)⟩
          bads := ⟨[], by rw [List.append_nil]; exact V3.out⟩
          bcap := by rw [hlen.out.2]; exact ⟨Nat.le_refl _, Nat.le_trans (show a ≤ 64 by omega) (by decide)⟩
          hcap := ⟨Nat.le_refl _, by simp⟩
          hits := HitsT.nil _ _ _ _ }
        exact ⟨g, _, rfl, ⟨gc, gb, k, a, none, 0, hr⟩, fun b hb => hb.1, V4.out⟩
  · rename_i hHeld
    have KA2 : New w w2 := ((K1.out.drew)).new KA.out
    have F1 : Hid (Blk (((w2.alloc (.cells (Array.replicate a (boolV false)) 4)).alloc (.cells (rawB (List.replicate N 0)) 5)).alloc (.cells #[.int .i64 a, .int .i64 b, .int .i64 c, .int .i64 d, .slice (some ⟨(w2.heap.size + 1), 0, none⟩) N N, .slice (some ⟨w2.heap.size, 0, none⟩) a a, .slice none 0 0, .int .i64 0, .bool false, .int .i64 0] 41)) (w2.heap.size + 1 + 1) 41 [.int .i64 a, .int .i64 b, .int .i64 c, .int .i64 d, .slice (some ⟨(w2.heap.size + 1), 0, none⟩) N N, .slice (some ⟨w2.heap.size, 0, none⟩) a a, .slice none 0 0, .int .i64 0, .bool false, .int .i64 0]) := by simpa [Hid] using Blk.made ((w2.alloc (.cells (Array.replicate a (boolV false)) 4)).alloc (.cells (rawB (List.replicate N 0)) 5)) 41 _
    have F2 : Hid (Blk (((w2.alloc (.cells (Array.replicate a (boolV false)) 4)).alloc (.cells (rawB (List.replicate N 0)) 5)).alloc (.cells #[.int .i64 a, .int .i64 b, .int .i64 c, .int .i64 d, .slice (some ⟨(w2.heap.size + 1), 0, none⟩) N N, .slice (some ⟨w2.heap.size, 0, none⟩) a a, .slice none 0 0, .int .i64 0, .bool false, .int .i64 0] 41)) (w2.heap.size + 1) 5 ((List.replicate N 0).map byt)) := by
      have := (Blk.madeB (w2.alloc (.cells (Array.replicate a (boolV false)) 4)) 5 (List.replicate N 0)).alloc (.cells #[.int .i64 a, .int .i64 b, .int .i64 c, .int .i64 d, .slice (some ⟨(w2.heap.size + 1), 0, none⟩) N N, .slice (some ⟨w2.heap.size, 0, none⟩) a a, .slice none 0 0, .int .i64 0, .bool false, .int .i64 0] 41)
      simpa [Hid] using this
    have F3 : Hid (Blk (((w2.alloc (.cells (Array.replicate a (boolV false)) 4)).alloc (.cells (rawB (List.replicate N 0)) 5)).alloc (.cells #[.int .i64 a, .int .i64 b, .int .i64 c, .int .i64 d, .slice (some ⟨(w2.heap.size + 1), 0, none⟩) N N, .slice (some ⟨w2.heap.size, 0, none⟩) a a, .slice none 0 0, .int .i64 0, .bool false, .int .i64 0] 41)) w2.heap.size 4 ((List.replicate a false).map boolV)) := by
      have := ((Blk.made w2 4 (Array.replicate a (boolV false))).alloc (.cells (rawB (List.replicate N 0)) 5)).alloc (.cells #[.int .i64 a, .int .i64 b, .int .i64 c, .int .i64 d, .slice (some ⟨(w2.heap.size + 1), 0, none⟩) N N, .slice (some ⟨w2.heap.size, 0, none⟩) a a, .slice none 0 0, .int .i64 0, .bool false, .int .i64 0] 41)
      simpa [Hid] using this
    have F4 : Hid (New w (((w2.alloc (.cells (Array.replicate a (boolV false)) 4)).alloc (.cells (rawB (List.replicate N 0)) 5)).alloc (.cells #[.int .i64 a, .int .i64 b, .int .i64 c, .int .i64 d, .slice (some ⟨(w2.heap.size + 1), 0, none⟩) N N, .slice (some ⟨w2.heap.size, 0, none⟩) a a, .slice none 0 0, .int .i64 0, .bool false, .int .i64 0] 41))) := ((KA2.alloc _).alloc _).alloc _
    have G1 : Hid (w.heap.size ≤ (w2.heap.size + 1 + 1)) := by have := KA2.size; show _ ≤ _; omega
    have G2 : Hid (w.heap.size ≤ (w2.heap.size + 1)) := by have := KA2.size; show _ ≤ _; omega
    have G3 : Hid (w.heap.size ≤ w2.heap.size) := KA2.size
    clear KA2
    generalize (w2.heap.size + 1 + 1) = g at *
    generalize (w2.heap.size + 1) = gc at *
    generalize w2.heap.size = gb at *
    have hNb : N ≤ 524288 := HB2.out
    clear KA hc0 hc1 hc2 hc3 K1 hmk hmk1 hHeld
    go_wp2_with fail
    go_loopw [5] (fun i wr => ∃ k : Nat, k ≤ N ∧ i = .int .i64 k ∧ Hid (Blk wr gc 5 ((List.replicate k 255 ++ List.replicate (N - k) 0).map byt)) ∧ Hid (Blk wr g 41 [.int .i64 a, .int .i64 b, .int .i64 c, .int .i64 d, .slice (some ⟨gc, 0, none⟩) N N, .slice (some ⟨gb, 0, none⟩) a a, .slice none 0 0, .int .i64 0, .bool false, .int .i64 0]) ∧ Hid (Blk wr gb 4 ((List.replicate a false).map boolV)) ∧ Hid (New w wr)) (fun i _ => N - (intOf i).toNat)
    case atStart => exact ⟨0, Nat.zero_le _, rfl, by simpa [Hid] using F2.out, F1, F3, F4⟩
    case round =>
      obtain ⟨k, hk, rfl, V1, V2, V3, V4⟩ := hrel
      clear F1 F2 F3 F4
      have c4 : wr.cell? ⟨g, 4, none⟩ = some (.slice (some ⟨gc, 0, none⟩) N N) := V2.out.cell 4
      have hgl := V2.out.lt
      by_cases hlt : k < N
      · have hcell : wr.cell? ⟨gc, k, none⟩ = some (.int .u8 0) := by
          rw [V1.out.cell, show N - k = (N - (k + 1)) + 1 from by omega, List.replicate_succ]
          exact get_step _ _ _ _ (by simp)
        have hfree := V1.out.free k
        go_wp2
        go_roundw
        case rel =>
          have hks : Kept (· = gc) wr (wr.setCell ⟨gc, k, none⟩ (.int .u8 255)) := Kept.set1 wr gc k _
          refine ⟨k + 1, by omega, by go_num, ?_, V2.out.kept hks (V2.out.ne_of V1.out (by decide)), V3.out.kept hks (V3.out.ne_of V1.out (by decide)), V4.out.setCell (p := ⟨gc, k, none⟩) (fun hh => by have := G2.out; simp at hh; omega) _⟩
          have hb1 := V1.out.put k (.int .u8 255)
          rw [rnew_fill N k hlt] at hb1
          exact hb1
        case measure => simp [intOf]; omega
      · obtain rfl : k = N := by omega
        have hlen : Hid ((newS a b c d).by_.length = k ∧ (newS a b c d).bad.length = a) := by
          rw [← HN.out]
          simp [Hid, newS]
        have hlow : Hid (g < wr.heap.size ∧ gc < wr.heap.size ∧ gb < wr.heap.size) := ⟨V2.out.lt, V1.out.lt, V3.out.lt⟩
        go_wp2
        go_ret2
        have h1 := V1.out
        rw [Nat.sub_self, List.replicate_zero, List.append_nil] at h1
        have hr : RRep (fun b => w.heap.size ≤ b ∧ b < wr.heap.size) wr g gc gb k a none 0 (newS a b c d) := {
          low := fun b hb => hb.2, ok := HO.out, qg := ⟨G1.out, hlow.out.1⟩, qc := ⟨G2.out, hlow.out.2.1⟩, qb := ⟨G3.out, hlow.out.2.2⟩
          chip := by unfold rCells; rw [hlen.out.1, hlen.out.2]; exact V2.out
          cells := ⟨[], by rw [List.append_nil]; show Blk _ _ _ ((List.replicate (a * b * c) 255).map byt); rw [HN.out]; exact h1⟩
          ccap := by rw [hlen.out.1]; exact ⟨Nat.le_refl _, Nat.le_trans HB2.out (by decide)⟩
          bads := ⟨[], by rw [List.append_nil]; exact V3.out⟩
          bcap := by rw [hlen.out.2]; exact ⟨Nat.le_refl _, Nat.le_trans (show a ≤ 64 by omega) (by decide)⟩
          hcap := ⟨Nat.le_refl _, by simp⟩
          hits := HitsT.nil _ _ _ _ }
        exact ⟨g, _, rfl, ⟨gc, gb, k, a, none, 0, hr⟩, fun b hb => hb.1, V4.out⟩
  · rename_i hHeld
    have KA2 : New w w2 := (((K1.out.alloc _).drew)).new KA.out
    have F1 : Hid (Blk ((w2.alloc (.cells (rawB (List.replicate N 0)) 5)).alloc (.cells #[.int .i64 a, .int .i64 b, .int .i64 c, .int .i64 d, .slice (some ⟨w2.heap.size, 0, none⟩) N N, .slice (some ⟨w1.heap.size, 0, none⟩) a a, .slice none 0 0, .int .i64 0, .bool false, .int .i64 0] 41)) (w2.heap.size + 1) 41 [.int .i64 a, .int .i64 b, .int .i64 c, .int .i64 d, .slice (some ⟨w2.heap.size, 0, none⟩) N N, .slice (some ⟨w1.heap.size, 0, none⟩) a a, .slice none 0 0, .int .i64 0, .bool false, .int .i64 0]) := by simpa [Hid] using Blk.made (w2.alloc (.cells (rawB (List.replicate N 0)) 5)) 41 _
    have F2 : Hid (Blk ((w2.alloc (.cells (rawB (List.replicate N 0)) 5)).alloc (.cells #[.int .i64 a, .int .i64 b, .int .i64 c, .int .i64 d, .slice (some ⟨w2.heap.size, 0, none⟩) N N, .slice (some ⟨w1.heap.size, 0, none⟩) a a, .slice none 0 0, .int .i64 0, .bool false, .int .i64 0] 41)) w2.heap.size 5 ((List.replicate N 0).map byt)) := (Blk.madeB w2 5 (List.replicate N 0)).alloc _
    have F3 : Hid (Blk ((w2.alloc (.cells (rawB (List.replicate N 0)) 5)).alloc (.cells #[.int .i64 a, .int .i64 b, .int .i64 c, .int .i64 d, .slice (some ⟨w2.heap.size, 0, none⟩) N N, .slice (some ⟨w1.heap.size, 0, none⟩) a a, .slice none 0 0, .int .i64 0, .bool false, .int .i64 0] 41)) w1.heap.size 4 ((List.replicate a false).map boolV)) := by
      have := (((Blk.made w1 4 (Array.replicate a (boolV false))).drew.new KA.out).alloc (.cells (rawB (List.replicate N 0)) 5)).alloc (.cells #[.int .i64 a, .int .i64 b, .int .i64 c, .int .i64 d, .slice (some ⟨w2.heap.size, 0, none⟩) N N, .slice (some ⟨w1.heap.size, 0, none⟩) a a, .slice none 0 0, .int .i64 0, .bool false, .int .i64 0] 41)
      simpa [Hid] using this
    have F4 : Hid (New w ((w2.alloc (.cells (rawB (List.replicate N 0)) 5)).alloc (.cells #[.int .i64 a, .int .i64 b, .int .i64 c, .int .i64 d, .slice (some ⟨w2.heap.size, 0, none⟩) N N, .slice (some ⟨w1.heap.size, 0, none⟩) a a, .slice none 0 0, .int .i64 0, .bool false, .int .i64 0] 41))) := (KA2.alloc _).alloc _
    have G1 : Hid (w.heap.size ≤ (w2.heap.size + 1)) := by have := KA2.size; show _ ≤ _; omega
    have G2 : Hid (w.heap.size ≤ w2.heap.size) := KA2.size
    have G3 : Hid (w.heap.size ≤ w1.heap.size) := K1.out.size
    clear KA2
    generalize (w2.heap.size + 1) = g at *
    generalize w2.heap.size = gc at *
    generalize w1.heap.size = gb at *
    have hNb : N ≤ 524288 := HB2.out
    clear KA hc0 hc1 hc2 hc3 K1 hmk hmk1 hHeld
    go_wp2_with fail
    go_loopw [5] (fun i wr => ∃ k : Nat, k ≤ N ∧ i = .int .i64 k ∧ Hid (Blk wr gc 5 ((List.replicate k 255 ++ List.replicate (N - k) 0).map byt)) ∧ Hid (Blk wr g 41 [.int .i64 a, .int .i64 b, .int .i64 c, .int .i64 d, .slice (some ⟨gc, 0, none⟩) N N, .slice (some ⟨gb, 0, none⟩) a a, .slice none 0 0, .int .i64 0, .bool false, .int .i64 0]) ∧ Hid (Blk wr gb 4 ((List.replicate a false).map boolV)) ∧ Hid (New w wr)) (fun i _ => N - (intOf i).toNat)
    case atStart => exact ⟨0, Nat.zero_le _, rfl, by simpa [Hid] using F2.out, F1, F3, F4⟩
    case round =>
      obtain ⟨k, hk, rfl, V1, V2, V3, V4⟩ := hrel
      clear F1 F2 F3 F4
      have c4 : wr.cell? ⟨g, 4, none⟩ = some (.slice (some ⟨gc, 0, none⟩) N N) := V2.out.cell 4
      have hgl := V2.out.lt
      by_cases hlt : k < N
      · have hcell : wr.cell? ⟨gc, k, none⟩ = some (.int .u8 0) := by
          rw [V1.out.cell, show N - k = (N - (k + 1)) + 1 from by omega, List.replicate_succ]
          exact get_step _ _ _ _ (by simp)
        have hfree := V1.out.free k
        go_wp2
        go_roundw
        case rel =>
          have hks : Kept (· = gc) wr (wr.setCell ⟨gc, k, none⟩ (.int .u8 255)) := Kept.set1 wr gc k _
          refine ⟨k + 1, by omega, by go_num, ?_, V2.out.kept hks (V2.out.ne_of V1.out (by decide)), V3.out.kept hks (V3.out.ne_of V1.out (by decide)), V4.out.setCell (p := ⟨gc, k, none⟩) (fun hh => by have := G2.out; simp at hh; omega) _⟩
          have hb1 := V1.out.put k (.int .u8 255)
          rw [rnew_fill N k hlt] at hb1
          exact hb1
        case measure => simp [intOf]; omega
      · obtain rfl : k = N := by omega
        have hlen : Hid ((newS a b c d).by_.length = k ∧ (newS a b c d).bad.length = a) := by
          rw [← HN.out]
          simp [Hid, newS]
        have hlow : Hid (g < wr.heap.size ∧ gc < wr.heap.size ∧ gb < wr.heap.size) := ⟨V2.out.lt, V1.out.lt, V3.out.lt⟩
        go_wp2
        go_ret2
        have h1 := V1.out
        rw [Nat.sub_self, List.replicate_zero, List.append_nil] at h1
        have hr : RRep (fun b => w.heap.size ≤ b ∧ b < wr.heap.size) wr g gc gb k a none 0 (newS a b c d) := {
          low := fun b hb => hb.2, ok := HO.out, qg := ⟨G1.out, hlow.out.1⟩, qc := ⟨G2.out, hlow.out.2.1⟩, qb := ⟨G3.out, hlow.out.2.2⟩
          chip := by unfold rCells; rw [hlen.out.1, hlen.out.2]; exact V2.out
          cells := ⟨[], by rw [List.append_nil]; show Blk _ _ _ ((List.replicate (a * b * c) 255).map byt); rw [HN.out]; exact h1⟩
          ccap := by rw [hlen.out.1]; exact ⟨Nat.le_refl _, Nat.le_trans HB2.out (by decide)⟩
          bads := ⟨[], by rw [List.append_nil]; exact V3.out⟩
          bcap := by rw [hlen.out.2]; exact ⟨Nat.le_refl _, Nat.le_trans (show a ≤ 64 by omega) (by decide)⟩
          hcap := ⟨Nat.le_refl _, by simp⟩
          hits := HitsT.nil _ _ _ _ }
        exact ⟨g, _, rfl, ⟨gc, gb, k, a, none, 0, hr⟩, fun b hb => hb.1, V4.out⟩
end Go.Proofs.Ytfhngcnphcjmgaa
