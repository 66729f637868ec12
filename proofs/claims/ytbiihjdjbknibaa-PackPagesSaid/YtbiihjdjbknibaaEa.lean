/-
  Contracts of layer 1's small functions and of the reference's: what each call answers, and what it leaves.
-/
import Derived.Test.YtbiihjdjbknibaaRows
import Derived.Test.YtbiihjdjbknibaaKit
namespace Go.Proofs.Ytbiihjdjbknibaa
set_option maxRecDepth 100000
open Go.RowKit

theorem info_u8 : (Try.prog.info? 5).map (fun i => (i.zero, i.size, i.bytes)) = some (some (.int .u8 0), 1, 1) := by kernel_rfl

def isSz (s : Int) : Prop := s = 1 ∨ s = 2 ∨ s = 4 ∨ s = 8
instance (s : Int) : Decidable (isSz s) := by unfold isSz; infer_instance

theorem isSize_yes (s : Int) (w : World) (h : isSz s) :
    Calls Try.prog 73 #[.int .i64 s] w fun e w' => e = .returned (.bool true) ∧ w = w' := by
  rcases h with rfl | rfl | rfl | rfl
  all_goals
    go_enter Try.func73, Try.ntmps73
    go_wp2
    go_ret
    exact ⟨rfl, rfl⟩

theorem isSize_no (s : Int) (w : World) (h : ¬ isSz s) :
    Calls Try.prog 73 #[.int .i64 s] w fun e w' => e = .returned (.bool false) ∧ w = w' := by
  unfold isSz at h
  have h1 : (s == 1) = false := beq_eq_false_iff_ne.2 (by omega)
  have h2 : (s == 2) = false := beq_eq_false_iff_ne.2 (by omega)
  have h3 : (s == 4) = false := beq_eq_false_iff_ne.2 (by omega)
  have h4 : (s == 8) = false := beq_eq_false_iff_ne.2 (by omega)
  clear h
  go_enter Try.func73, Try.ntmps73
  go_wp2
  go_ret
  exact ⟨rfl, rfl⟩

/-- Does n fit into s bytes? -/
def fitB (n s : Nat) : Bool := decide (n < 256 ^ s)

theorem fits_any (n s : Nat) (w : World) (hn : n < 18446744073709551616) (h : isSz s) :
    Calls Try.prog 83 #[.int .u64 n, .int .i64 s] w fun e w' => e = .returned (.bool (fitB n s)) ∧ w = w' := by
  have hs : s = 1 ∨ s = 2 ∨ s = 4 ∨ s = 8 := by unfold isSz at h; omega
  clear h
  rcases hs with rfl | rfl | rfl | rfl
  all_goals
    go_enter Try.func83, Try.ntmps83
    go_wp2
    go_ret
    exact ⟨ret_bool (by unfold fitB; rw [Bool.eq_iff_iff]; simp; omega), rfl⟩

/-- The bytes of n, the lowest first. -/
def leB (n s : Nat) : List Nat := (List.range s).map fun j => n / 256 ^ j % 256
theorem leB_length (n s : Nat) : (leB n s).length = s := by simp [leB]
theorem leB_lt (n s : Nat) : ∀ x ∈ leB n s, x < 256 := by
  intro x hx
  obtain ⟨j, _, rfl⟩ := List.mem_map.1 hx
  omega
theorem leB_succ (n s : Nat) : leB n (s + 1) = leB n s ++ [n / 256 ^ s % 256] := by simp [leB, List.range_succ]

/-- A list of bytes comes back, in memory of its own, with an error's number. -/
def RetB (w : World) (l : List Nat) (er : Int) (e : Ending) (w' : World) : Prop :=
  ∃ A c, e = .returned (.tuple #[.slice A l.length c, .int .i64 er]) ∧ OwnB w' 5 w.heap.size A c l ∧ New w w'

theorem RetB.nil (w w' : World) (er : Int) (h : New w w') : RetB w [] er (.returned (.tuple #[.slice none 0 0, .int .i64 er])) w' := ⟨none, 0, rfl, OwnB.nil _ _ _, h⟩

theorem put_step (n s k : Nat) (hk : k < s) (v : Value) (hv : v = byt (n / 256 ^ k % 256)) :
    ((leB n k ++ List.replicate (s - k) 0).map byt).set k v = (leB n (k + 1) ++ List.replicate (s - (k + 1)) 0).map byt := by
  subst hv
  obtain ⟨m, rfl⟩ : ∃ m, s = k + 1 + m := ⟨s - (k + 1), by omega⟩
  have e1 : k + 1 + m - k = m + 1 := by omega
  have e2 : k + 1 + m - (k + 1) = m := by omega
  rw [e1, e2, leB_succ, List.map_append, List.set_append_right _ _ (by simp [leB_length])]
  simp [leB_length, List.replicate_succ]

theorem byt_shift (n k : Nat) : Value.int .u8 ((n : Int) / 2 ^ (8 * k) % 256) = byt (n / 256 ^ k % 256) := by
  unfold byt
  have e : (256 : Nat) ^ k = 2 ^ (8 * k) := by rw [show (256 : Nat) = 2 ^ 8 from rfl, Nat.pow_mul]
  rw [e, Int.natCast_emod, Int.natCast_ediv, Int.natCast_pow]
  rfl

set_option maxHeartbeats 400000 in
theorem put_ok (n s : Nat) (w : World) (hn : n < 18446744073709551616) (hs : isSz s) (hf : fitB n s = true) :
    Calls Try.prog 72 #[.int .u64 n, .int .i64 s] w (RetB w (leB n s) 0) := by
  have h8 : s ≤ 8 := by unfold isSz at hs; omega
  obtain ⟨i0, hi, hz0, hz1, hz2⟩ := info_parts info_u8
  have hmk := fun u => run_make_bytes (P := Try.prog) 25 5 i0 Try.underlying25 hi hz0 hz1 hz2 .i64 .i64 s s s s rfl rfl (Nat.le_refl _) (by omega) u
  go_enter Try.func72, Try.ntmps72
  go_wp2_with (first
    | (go_at_call 73; refine (isSize_yes _ _ hs).mono ?_; rintro e w' ⟨rfl, rfl⟩)
    | (go_at_call 83; refine (fits_any _ _ _ hn hs).mono ?_; rintro e w' ⟨rfl, rfl⟩))
  go_loopw [21] (fun i wr => ∃ k : Nat, k ≤ s ∧ i = .int .i64 k ∧ Blk wr w.heap.size 5 ((leB n k ++ List.replicate (s - k) 0).map byt) ∧ New w wr) (fun i _ => s - (intOf i).toNat)
  case atStart => exact ⟨0, Nat.zero_le _, rfl, Blk.madeB w 5 _, (Kept.refl _ _).alloc _⟩
  case round =>
    obtain ⟨k, hk, rfl, hblk, hnew⟩ := hrel
    by_cases hlt : k < s
    · have hcell : wr.cell? ⟨w.heap.size, k, none⟩ = some (byt 0) := by
        rw [hblk.cell, List.map_append, List.getElem?_append_right (by simp [leB_length])]
        simp [leB_length, List.getElem?_replicate]; omega
      have hfree := hblk.free k
      go_wp2
      go_roundw
      case rel =>
        refine ⟨k + 1, by omega, by go_num, ?_, hnew.setCell (fun h => absurd h (by simp)) _⟩
        rw [← put_step n s k hlt (.int .u8 ((n : Int) / 2 ^ (8 * k) % 256)) (byt_shift n k)]
        exact hblk.put k _
      case measure => simp [intOf]; omega
    · go_wp2
      go_ret2
      obtain rfl : k = s := by omega
      have h8' : (leB n k).length = k := leB_length n k
      refine ⟨some ⟨w.heap.size, 0, none⟩, k, by rw [h8']; rfl, ⟨leB_lt n k, .inr ⟨_, [], rfl, Nat.le_refl _, by simpa using hblk, by simp, by simp [h8'], by unfold maxLen; omega⟩⟩, hnew⟩

theorem put_no (n : Nat) (s : Int) (w : World) (hn : n < 18446744073709551616) (h : ¬ (isSz s ∧ fitB n s.toNat = true)) :
    Calls Try.prog 72 #[.int .u64 n, .int .i64 s] w (RetB w [] 2) := by
  by_cases hs : isSz s
  · have hf : fitB n s.toNat = false := by simpa [hs] using h
    obtain ⟨m, rfl⟩ : ∃ m : Nat, s = m := ⟨s.toNat, by unfold isSz at hs; omega⟩
    simp only [Int.toNat_natCast] at hf
    clear h
    go_enter Try.func72, Try.ntmps72
    go_wp2_with (first
      | (go_at_call 73; refine (isSize_yes _ _ hs).mono ?_; rintro e w' ⟨rfl, rfl⟩)
      | (go_at_call 83; refine (fits_any _ _ _ hn hs).mono ?_; rintro e w' ⟨rfl, rfl⟩))
    go_ret2
    exact RetB.nil _ _ _ (Kept.refl _ _)
  · clear h
    go_enter Try.func72, Try.ntmps72
    go_wp2_with (go_at_call 73; refine (isSize_no _ _ hs).mono ?_; rintro e w' ⟨rfl, rfl⟩)
    go_ret2
    exact RetB.nil _ _ _ (Kept.refl _ _)
end Go.Proofs.Ytbiihjdjbknibaa
