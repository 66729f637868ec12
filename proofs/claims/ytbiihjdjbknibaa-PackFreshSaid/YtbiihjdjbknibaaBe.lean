/-
  Contracts: facts as changes, of the reference.
-/
import Derived.Test.YtbiihjdjbknibaaBd
namespace Go.Proofs.Ytbiihjdjbknibaa
set_option maxRecDepth 100000
open Go.RowKit

set_option maxHeartbeats 6400000 in
theorem rputs_any (A : Option Addr) (n c : Nat) (es : List FE) (w : World) (h : FIn w A n es) (hn : n * 72 ≤ 140737488355328) :
    Calls Try.prog 27 #[.slice A n c] w (ChgP w es) := by
  have HL : Hid (es.length = n) := h.len
  have H := Lib.hid h
  have hnm : n ≤ 1954687338268 := by omega
  clear h
  go_enter Try.func27, Try.ntmps27
  go_wp2_with fail
  go_loopw [3, 4] (fun o i wr => ∃ (k : Nat) (A' : Option Addr) (c' : Nat), k ≤ n ∧ i = .int .i64 k ∧ o = .slice A' k c' ∧ Hid (OwnV wr 78 6 w.heap.size A' k c' (ces (fcs (es.take k)))) ∧ Hid (New w wr)) (fun _ i _ => n - (intOf i).toNat)
  case atStart => exact ⟨0, none, 0, Nat.zero_le _, rfl, rfl, OwnV.nil _ _ _ _, Kept.refl _ _⟩
  case round =>
    obtain ⟨k, A', c', hk, rfl, rfl, VO, VN⟩ := hrel
    by_cases hlt : k < n
    · obtain ⟨g, o, x, eA, hx, okx, q0, q1, q2, q3, q4⟩ := (H.out.new VN.out).at_ (i := k) hlt
      subst eA
      have HX := Lib.hid (fcs_next hx)
      clear hx okx
      obtain ⟨fx, Ax, cx⟩ := x
      obtain ⟨kx, vx⟩ := fx
      dsimp only at *
      generalize vx.length = vn at *
      have hbt : (k + 1) * 72 ≤ 140737488355328 := Nat.le_trans (Nat.mul_le_mul_right 72 (by omega : k + 1 ≤ n)) hn
      have hB5 : w.heap.size ≤ wr.heap.size := VN.out.size
      have MK : Hid (∀ (wC : World), Blk (wC.alloc (.cells #[.int .i64 kx.i, .int .u8 (kx.t : Nat), .string kx.n, .int .i64 kx.c, .slice Ax vn cx, .bool false] 78)) wC.heap.size 78 [.int .i64 kx.i, .int .u8 (kx.t : Nat), .string kx.n, .int .i64 kx.c, .slice Ax vn cx, .bool false]) := fun wC => Blk.made wC _ _
      have ONE : Hid (∀ u ∈ [Value.int .i64 kx.i, .int .u8 (kx.t : Nat), .string kx.n, .int .i64 kx.c, .slice Ax vn cx, .bool false], u.oneCell') := by intro u hu; simp at hu; rcases hu with rfl | rfl | rfl | rfl | rfl | rfl <;> rfl
      have s1 : (0 : Int) ≤ (k : Int) := by omega
      have s3 : (k : Int) < (n : Int) := by omega
      go_wp2_with fail
      go_region_law (first
        | (with_reducible refine step_append_change (wb := wr) (o := ⟨some 24, _, _, _, _, _⟩) rfl (.tmp 11) (.tmp 23) rfl w.heap.size A' k c' (ces (fcs (es.take k))) ?_ VO.out (by first | exact (Kept.refl _ _).alloc _ | exact ((Kept.refl _ _).alloc _).drew) wr.heap.size 1 [.int .i64 kx.i, .int .u8 (kx.t : Nat), .string kx.n, .int .i64 kx.c, .slice Ax vn cx, .bool false] ?_ (by first | exact MK.out wr | exact (MK.out wr).drew) rfl ONE.out hbt hB5 ?_; (next => go_simp); (next => go_simp); intro A7 c7 w7 O7 K7 D7 K8))
      all_goals
        have V5 : Hid (OwnV w7 78 6 w.heap.size A7 (k + 1) c7 (ces (fcs (es.take (k + 1))))) := by rw [Hid, HX.out]; exact O7.out
        have N5 : Hid (New w w7) := new_row VN.out VO.out K7.out
        clear O7 K7 D7 K8 VO VN HX MK ONE q0 q1 q2 q3 q4
        go_wp2
        go_roundw
        case rel => exact ⟨k + 1, A7, c7, by omega, by go_num, rfl, V5, N5⟩
        case measure => simp [intOf]; omega
    · obtain rfl : k = n := by omega
      have E9 : Hid (ChgP w es (.returned (.slice A' k c')) wr) := by
        have ho := VO.out
        rw [List.take_of_length_le (by rw [HL.out]; omega)] at ho
        exact ⟨A', c', by rw [HL.out], by rw [HL.out]; exact ho.row, VN.out⟩
      clear VO VN
      go_wp2
      go_ret
      exact E9.out
end Go.Proofs.Ytbiihjdjbknibaa
