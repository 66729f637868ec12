/-
  Contracts: bytes with room behind them, that are spoilt, and looked at.
-/
import Derived.Test.YtlbbhfapmmcehaaEf
namespace Go.Proofs.Ytlbbhfapmmcehaa
set_option maxRecDepth 100000
open Go.ChangeShapes Go.WideShapes Go.ChangeAt Go.RowKit

def WideP (w : World) (l : List Nat) (e : Ending) (w' : World) : Prop :=
  ∃ g, e = .returned (.slice (some ⟨g, 0, none⟩) l.length (l.length + 3)) ∧ Blk w' g 5 ((l ++ [7, 7, 7]).map byt) ∧ w.heap.size ≤ g ∧ New w w'

theorem set_step (a b : List Nat) (x y k : Nat) (v : Value) (hk : a.length = k) (hv : v = byt y) : ((a ++ x :: b).map byt).set k v = ((a ++ [y]) ++ b).map byt := by
  subst hk hv
  rw [List.map_append, List.set_append_right _ _ (by simp)]
  simp

theorem get_step (a b : List Nat) (x k : Nat) (hk : a.length = k) : ((a ++ x :: b).map byt)[k]? = some (byt x) := by
  subst hk
  rw [List.map_append, List.getElem?_append_right (by simp)]
  simp

set_option maxRecDepth 100000 in
set_option maxHeartbeats 800000 in
theorem wide_any (A : Option Addr) (n c : Nat) (l : List Nat) (w : World) (ha : Bts w A n l) (hn : n ≤ 140737488351232) :
    Calls Try.prog 25 #[.slice A n c] w (WideP w l) := by
  obtain ⟨i0, hi, hz0, hz1, hz2⟩ := info_parts info_u8
  have Hl := Lib.hid ha.1
  have hmk := fun u => run_make_bytes (P := Try.prog) 23 5 i0 Try.underlying23 hi hz0 hz1 hz2 .i64 .i64 ((n : Int) + 3) ((n : Int) + 3) (n + 3) (n + 3) (by omega) (by omega) (by omega) (by omega) u
  have Ha := Lib.hid ha
  clear ha
  go_enter Try.func25, Try.ntmps25
  go_wp2
  go_loopw [4] (fun i wr => ∃ k : Nat, k ≤ n ∧ i = .int .i64 k ∧ Blk wr w.heap.size 5 ((l.take k ++ List.replicate (n + 3 - k) 0).map byt) ∧ New w wr) (fun i _ => n - (intOf i).toNat)
  case atStart => exact ⟨0, Nat.zero_le _, rfl, by simpa using Blk.madeB w 5 (List.replicate (n + 3) 0), (Kept.refl _ _).alloc _⟩
  case round =>
    obtain ⟨k, hk, rfl, hblk, hnew⟩ := hrel
    have HB := Lib.hid hblk
    have HN := Lib.hid hnew
    clear hblk hnew hmk
    by_cases hlt : k < n
    · obtain ⟨ga, o, x, rfl, hx, hxb, hc⟩ := (Ha.out.new HN.out).at_ hlt
      have HX := Lib.hid hx
      clear hx
      have hlk : (l.take k).length = k := by rw [List.length_take, Hl.out]; omega
      have hrep : List.replicate (n + 3 - k) 0 = 0 :: List.replicate (n + 3 - (k + 1)) 0 := by rw [show n + 3 - k = (n + 3 - (k + 1)) + 1 from by omega, List.replicate_succ]
      have hcell : wr.cell? ⟨w.heap.size, k, none⟩ = some (byt 0) := by
        rw [HB.out.cell, hrep]
        exact get_step _ _ _ _ hlk
      have hfree := HB.out.free k
      have HLK := Lib.hid hlk
      have HREP := Lib.hid hrep
      clear hlk hrep
      go_wp2
      go_roundw
      case rel =>
        refine ⟨k + 1, by omega, by go_num, ?_, HN.out.setCell (fun h => absurd h (by simp)) _⟩
        have h1 := HB.out.put k (.int .u8 (x : Int))
        rw [HREP.out, set_step (l.take k) _ 0 x k (.int .u8 (x : Int)) HLK.out rfl] at h1
        have hk' : k < l.length := by rw [Hl.out]; exact hlt
        have e : l[k] = x := (List.getElem?_eq_some_iff.1 HX.out).2
        rw [List.take_succ_eq_append_getElem hk', e]
        exact h1
      case measure => simp [intOf]; omega
    · obtain rfl : k = n := by omega
      have hB : Blk wr w.heap.size 5 ((l ++ ([] ++ List.replicate 3 0)).map byt) := by
        have := HB.out
        rw [List.take_of_length_le (by rw [Hl.out]; exact Nat.le_refl _), show k + 3 - k = 3 from by omega] at this
        exact this
      have HB2 := Lib.hid hB
      clear hB HB hlt
      go_wp2
      go_loopw [5] (fun i wr => ∃ j : Nat, j ≤ 3 ∧ i = .int .i64 ((k : Int) + j) ∧ Blk wr w.heap.size 5 ((l ++ (List.replicate j 7 ++ List.replicate (3 - j) 0)).map byt) ∧ New w wr) (fun i _ => k + 3 - (intOf i).toNat)
      case atStart => exact ⟨0, by omega, by go_num, HB2.out, HN.out⟩
      case round =>
        obtain ⟨j, hj, rfl, hblk, hnew⟩ := hrel
        have HB := Lib.hid hblk
        have HN2 := Lib.hid hnew
        clear hblk hnew HB2 HN
        by_cases hlt : j < 3
        · have hrep : List.replicate (3 - j) 0 = 0 :: List.replicate (3 - (j + 1)) 0 := by rw [show 3 - j = (3 - (j + 1)) + 1 from by omega, List.replicate_succ]
          have hcell : wr.cell? ⟨w.heap.size, k + j, none⟩ = some (byt 0) := by
            rw [HB.out.cell, hrep, ← List.append_assoc]
            exact get_step _ _ _ _ (by simp [Hl.out])
          have hfree := HB.out.free (k + j)
          have HREP := Lib.hid hrep
          clear hrep
          go_wp2
          go_roundw
          case rel =>
            refine ⟨j + 1, by omega, by go_num, ?_, HN2.out.setCell (fun h => absurd h (by simp)) _⟩
            have h1 := HB.out.put (k + j) (.int .u8 (7 : Int))
            rw [HREP.out, ← List.append_assoc, set_step (l ++ List.replicate j 7) _ 0 7 (k + j) (.int .u8 (7 : Int)) (by simp [Hl.out]) rfl] at h1
            rw [List.replicate_succ', ← List.append_assoc, ← List.append_assoc]
            exact h1
          case measure => simp [intOf]; omega
        · obtain rfl : j = 3 := by omega
          go_wp2
          go_ret
          refine ⟨w.heap.size, by rw [Hl.out]; rfl, ?_, Nat.le_refl _, HN2.out⟩
          have := HB.out
          simpa using this

/-- Is k the block of the slice at A? -/
def blkIs (A : Option Addr) (k : Nat) : Prop := ∃ a, A = some a ∧ a.block = k

def SpoilP (w : World) (A : Option Addr) (e : Ending) (w' : World) : Prop := e = .returned (.tuple #[]) ∧ Kept (blkIs A) w w'

theorem set_any (xs : List Nat) (k y : Nat) (v : Value) (hv : v = byt y) : (xs.map byt).set k v = (xs.set k y).map byt := by
  subst hv
  rw [List.map_set]

set_option maxRecDepth 100000 in
set_option maxHeartbeats 800000 in
theorem spoil_any (A : Option Addr) (c B by_ : Nat) (l : List Nat) (w : World) (h : OwnB w 5 B A c l) :
    Calls Try.prog 24 #[.slice A l.length c, .int .u8 (by_ : Nat)] w (SpoilP w A) := by
  have hle := h.le
  rcases h with ⟨hb, ⟨rfl, rfl, rfl⟩ | ⟨g, sp, rfl, hB, hblk, hsp, hc, hm⟩⟩
  · go_enter Try.func24, Try.ntmps24
    go_wp2
    refine wp_loop_rounds 1 ?_
    rw [rounds_succ]
    go_wp2
    go_end0
    exact ⟨rfl, Kept.refl _ _⟩
  · have hall : ∀ x ∈ l ++ sp, x < 256 := fun x hx => by
      rcases List.mem_append.1 hx with h | h
      · exact hb x h
      · exact hsp x h
    have hlen : (l ++ sp).length = c := by simp; omega
    obtain ⟨hle1, hle2⟩ := hle
    generalize l.length = L at *
    have HB := Lib.hid hblk
    have HA := Lib.hid hall
    have HLen := Lib.hid hlen
    unfold maxLen at hm
    clear hblk hall hlen hb hsp hc hle2
    go_enter Try.func24, Try.ntmps24
    go_wp2
    go_loopw [5] (fun i wr => ∃ (k : Nat) (xs : List Nat), k ≤ c ∧ i = .int .i64 k ∧ xs.length = c ∧ (∀ x ∈ xs, x < 256) ∧ Blk wr g 5 (xs.map byt) ∧ Kept (blkIs (some ⟨g, 0, none⟩)) w wr) (fun i _ => c - (intOf i).toNat)
    case atStart => exact ⟨0, l ++ sp, by omega, rfl, HLen.out, HA.out, HB.out, Kept.refl _ _⟩
    case round =>
      obtain ⟨k, xs, hk, rfl, hl, hbd, hblk, hkept⟩ := hrel
      have HL := Lib.hid hl
      have HBD := Lib.hid hbd
      have HBK := Lib.hid hblk
      have HK := Lib.hid hkept
      clear hl hbd hblk hkept HB HA HLen
      by_cases hlt : k < c
      · have hkl : k < xs.length := by rw [HL.out]; exact hlt
        have hcell : wr.cell? ⟨g, k, none⟩ = some (.int .u8 ((xs[k] : Nat) : Int)) := by
          rw [HBK.out.cell, List.getElem?_map, List.getElem?_eq_getElem hkl]
          rfl
        have hxk : xs[k] < 256 := HBD.out _ (List.getElem_mem hkl)
        have hfree := HBK.out.free k
        generalize xs[k] = x at *
        go_wp2
        go_roundw
        case rel =>
          have hb1 := HBK.out.put k (.int .u8 (((x : Int) + by_) % 256))
          rw [set_any xs k ((x + by_) % 256) (.int .u8 (((x : Int) + by_) % 256)) (by unfold byt; rfl)] at hb1
          refine ⟨k + 1, xs.set k ((x + by_) % 256), by omega, by go_num, by rw [List.length_set, HL.out], ?_, hb1, HK.out.setCell (p := ⟨g, k, none⟩) (fun _ => ⟨⟨g, 0, none⟩, rfl, rfl⟩) _⟩
          intro y hy
          rcases List.mem_or_eq_of_mem_set hy with h | h
          · exact HBD.out y h
          · omega
        case measure => simp [intOf]; omega
      · go_wp2
        go_end0
        exact ⟨rfl, HK.out⟩

set_option maxRecDepth 100000 in
set_option maxHeartbeats 800000 in
theorem left_any (g n d : Nat) (A : Option Addr) (l : List Nat) (w : World) (hv : Blk w g 5 ((l ++ [7, 7, 7]).map byt)) (hl : l.length = n) (ha : Bts w A n l) (hn : n ≤ 140737488351232) :
    Calls Try.prog 26 #[.slice (some ⟨g, 0, none⟩) n (n + 3), .slice A n d] w (Quiet w true) := by
  have hb : Bts w (some ⟨g, 0, none⟩) n l := by
    refine ⟨hl, ha.2.1, fun _ => ⟨g, 0, rfl, fun j x hx => ?_⟩⟩
    have hj : j < l.length := (List.getElem?_eq_some_iff.1 hx).1
    rw [Nat.zero_add, hv.cell, List.map_append, List.getElem?_append_left (by simpa using hj), List.getElem?_map, hx]
    rfl
  have H7 : ∀ j, j < 3 → w.cell? ⟨g, n + j, none⟩ = some (.int .u8 7) := by
    intro j hj
    rw [hv.cell, List.map_append, List.getElem?_append_right (by simp [hl])]
    have e : n + j - (l.map byt).length = j := by simp [hl]
    rw [e]
    match j, hj with
    | 0, _ => rfl
    | 1, _ => rfl
    | 2, _ => rfl
  have HB := Lib.hid hb
  have HA := Lib.hid ha
  have HH := Lib.hid H7
  clear hb ha H7 hv hl
  go_enter Try.func26, Try.ntmps26
  go_wp2_with (go_at_call 11; refine (same_eq _ _ _ _ _ l _ HB.out HA.out (by unfold maxLen; omega)).mono ?_; rintro e w1 ⟨d1, rfl, rfl⟩)
  go_loop [6] (fun i => ∃ j : Nat, j ≤ 3 ∧ i = .int .i64 ((n : Int) + j)) (fun i => n + 3 - (intOf i).toNat)
  case atStart => exact ⟨0, by omega, by go_num⟩
  case round =>
    obtain ⟨j, hj, rfl⟩ := hrel
    by_cases hlt : j < 3
    · have hc := HH.out j hlt
      go_wp2
      go_round
      case rel => exact ⟨j + 1, by omega, by go_num⟩
      case measure => simp [intOf]; omega
    · go_wp2
      go_ret
      exact ⟨d1, rfl, rfl⟩
end Go.Proofs.Ytlbbhfapmmcehaa
