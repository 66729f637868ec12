/-
  Contracts: bytes.Repeat of one byte ff.
-/
import Derived.Test.YtbiihjdjbknibaaSd
namespace Go.Proofs.Ytbiihjdjbknibaa
set_option maxRecDepth 100000
open Go.ChangeShapes Go.WideShapes Go.ChangeAt Go.RowKit

theorem mask32 (n : Nat) (h : n < 4294967296) : bits .and .u64 (n : Int) 4294967295 = (n : Int) := by
  have h1 := bits_and_u64_nat n 4294967295 (by omega) (by omega)
  have e : n &&& 4294967295 = n % 4294967296 := Nat.and_two_pow_sub_one_eq_mod n 32
  rw [e, Nat.mod_eq_of_lt h] at h1
  exact h1

theorem mul64_one (n : Nat) (w : World) (hn : n ≤ 256) :
    Calls Try.prog 91 #[.int .u64 1, .int .u64 n] w fun e w' => e = .returned (.tuple #[.int .u64 0, .int .u64 n]) ∧ w = w' := by
  have m1 : bits .and .u64 1 4294967295 = 1 := by decide
  have m2 := mask32 n (by omega)
  have m3 : (n : Int) / 4294967296 = 0 := by omega
  have m4 : bits .and .u64 0 4294967295 = 0 := by decide
  go_enter Try.func91, Try.ntmps91
  go_wp2
  go_ret2
  exact ⟨rfl, rfl⟩

theorem mul_one_ (n : Nat) (w : World) (hn : n ≤ 256) :
    Calls Try.prog 80 #[.int .u64 1, .int .u64 n] w fun e w' => e = .returned (.tuple #[.int .u64 0, .int .u64 n]) ∧ w = w' := by
  go_enter Try.func80, Try.ntmps80
  go_wp2_with (go_at_call 91; refine (mul64_one n _ hn).mono ?_; rintro e w' ⟨rfl, rfl⟩)
  go_ret2
  exact ⟨rfl, rfl⟩

/-- A row of n bytes 255 in a block of its own, with no room behind them. -/
def RepP (w : World) (n : Nat) (e : Ending) (w' : World) : Prop :=
  ∃ g junk, e = .returned (.slice (some ⟨g, 0, none⟩) n n) ∧ Blk w' g 5 ((List.replicate n 255).map byt ++ junk) ∧ w.heap.size ≤ g ∧ New w w'

set_option maxRecDepth 100000 in
set_option maxHeartbeats 400000 in
theorem repeat_any (A : Option Addr) (n : Nat) (w : World) (ha : Bts w A 1 [255]) (h1 : 128 ≤ n) (h2 : n ≤ 256) :
    Calls Try.prog 64 #[.slice A 1 1, .int .i64 n] w (RepP w n) := by
  obtain ⟨cs, hrunM, hle, hmax⟩ := Lib.run_makeNoZero (P := Try.prog) w #[3] 25 5 Try.underlying25 n (by omega)
  have hcall : (callFunc 81 #[.int .i64 (n : Int)]).run Try.prog w = .ok (.value (.slice (some ⟨w.heap.size, 0, none⟩) n cs.size)) ((w.alloc (.cells cs 5)).drewN 2) := by
    rw [run_callFunc_extern Try.func81 (by kernel_rfl) (by kernel_rfl) (by kernel_rfl) (e := Extern.BytealgMakeNoZero.makeNoZero #[3] #[25]) (by kernel_rfl), hrunM]
    rfl
  clear hrunM
  have i1 : (n : Int) ≤ (cs.size : Int) := by omega
  have Ha := Lib.hid ha
  clear ha hmax
  go_enter Try.func64, Try.ntmps64
  go_wp2_with (first
    | (go_at_call 80; refine (mul_one_ n _ h2).mono ?_; rintro e w' ⟨rfl, rfl⟩)
    | (with_reducible refine wpList_copy_blk (o := ⟨some 60, _, _, _, _, _⟩) rfl (.tmp 58) (.tmp 59) rfl (some ⟨w.heap.size, 0, none⟩) n n rfl A 1 1 rfl w.heap.size 0 cs.toList ?_ [255] ?_ 1 ?_ (fun _ => rfl) ?_ [255] rfl ?_))
  · exact (Blk.made w 5 cs).drewN 2
  · exact (Ha.out.new ((Kept.refl _ _).alloc _)).drewN 2
  · exact (Nat.min_eq_left (by omega)).symm
  · simp; omega
  intro w2 HB HK
  clear hcall
  have HB2 : Hid (Blk w2 w.heap.size 5 ((List.replicate 1 255).map byt ++ cs.toList.drop 1)) := by
    have := HB.out
    unfold lay at this
    simpa [Hid] using this
  have HN2 : Hid (New w w2) := (((Kept.refl _ _).alloc _).drewN 2).trans HK.out (fun i hi h => by omega)
  have hcl : Hid (n ≤ cs.toList.length) := by simpa [Hid] using hle
  clear HB HK i1 hle Ha
  go_wp2
  go_loopw [10] (fun bp wr => ∃ j : Nat, 1 ≤ j ∧ j ≤ n ∧ bp = .int .i64 j ∧ Blk wr w.heap.size 5 ((List.replicate j 255).map byt ++ cs.toList.drop j) ∧ New w wr) (fun bp _ => n - (intOf bp).toNat)
  case atStart => exact ⟨1, by omega, by omega, rfl, HB2.out, HN2.out⟩
  case round =>
    obtain ⟨j, hj1, hj2, rfl, hblk, hnew⟩ := hrel
    have HB := Lib.hid hblk
    have HN := Lib.hid hnew
    clear hblk hnew HB2 HN2
    by_cases hlt : j < n
    · have hm : Nat.min j (n - j) ≤ n - j := Nat.min_le_right _ _
      have hm1 : Nat.min j (n - j) ≤ j := Nat.min_le_left _ _
      have hm2 : 1 ≤ Nat.min j (n - j) := Nat.le_min.2 ⟨hj1, by omega⟩
      generalize hmm : Nat.min j (n - j) = m at hm hm1 hm2
      have HM := Lib.hid hmm.symm
      clear hmm
      have hsrc : Hid (Bts wr (some ⟨w.heap.size, 0, none⟩) j (List.replicate j 255)) := by
        refine ⟨by simp, fun x hx => by have := List.eq_of_mem_replicate hx; omega, fun _ => ⟨_, 0, rfl, fun i x hx => ?_⟩⟩
        have hi : i < j := by have := (List.getElem?_eq_some_iff.1 hx).1; simpa using this
        rw [Nat.zero_add, HB.out.cell, List.getElem?_append_left (by simpa using hi), List.getElem?_map, hx]
        rfl
      have hlen : Hid (j + m ≤ ((List.replicate j 255).map byt ++ cs.toList.drop j).length) := by
        have := hcl.out
        show _ ≤ _
        rw [List.length_append, List.length_map, List.length_replicate, List.length_drop]
        omega
      have htk : Hid (List.replicate m 255 = (List.replicate j 255).take m) := by
        show _ = _
        rw [List.take_replicate, Nat.min_eq_left hm1]
      have hwr : IntKind.i64.wrap ((j : Int) + (m : Int)) = ((j + m : Nat) : Int) := by
        rw [IntKind.wrap_i64]
        omega
      have hnj : ¬ n = j := fun h => by omega
      go_wp2
      go_region_law (with_reducible refine step_copy_blk (o := ⟨some 74, _, _, _, _, _⟩) rfl (.tmp 70) (.tmp 73) rfl (some ⟨w.heap.size, j, none⟩) (n - j) (n - j) ?hd (some ⟨w.heap.size, 0, none⟩) j n ?hs w.heap.size j _ HB.out.drew (List.replicate j 255) hsrc.out.drew m HM.out (fun _ => rfl) hlen.out (List.replicate m 255) htk.out ?hh; (case hd => go_simp); (case hs => go_simp); intro w3 HB3 HK3)
      go_simp
      go_wp2
      go_roundw
      case rel =>
        refine ⟨j + m, by omega, by omega, by go_num, ?_, HN.out.trans (S' := (· = w.heap.size)) ⟨HK3.out.os, HK3.out.tape, HK3.out.output, HK3.out.size, HK3.out.block⟩ (fun i hi h => by omega)⟩
        have := HB3.out
        unfold lay at this
        rw [List.take_left' (by simp), List.length_map, List.length_replicate, List.drop_append, List.drop_of_length_le (by simp)] at this
        rw [← List.replicate_append_replicate, List.map_append, List.append_assoc]
        rw [show j + m - (List.map byt (List.replicate j 255)).length = m from by simp] at this
        simpa using this
      case measure => simp [intOf]; omega
    · go_wp2
      go_ret
      obtain rfl : j = n := by omega
      exact ⟨w.heap.size, cs.toList.drop j, rfl, HB.out, Nat.le_refl _, HN.out⟩
end Go.Proofs.Ytbiihjdjbknibaa
