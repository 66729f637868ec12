/-
  Contracts: bytes with room behind them, that are spoilt, and looked at.
-/
import Derived.Test.YtbiihjdjbknibaaEf
namespace Go.Proofs.Ytbiihjdjbknibaa
set_option maxRecDepth 100000
open Go.ChangeShapes Go.WideShapes Go.ChangeAt Go.RowKit

def WideP (w : World) (l : List Nat) (e : Ending) (w' : World) : Prop :=
  ∃ g, e = .returned (.slice (some ⟨g, 0, none⟩) l.length (l.length + 3)) ∧ Blk w' g 5 ((l ++ [7, 7, 7]).map byt) ∧ w.heap.size ≤ g ∧ New w w'

theorem set_step (a b : List Nat) (x y k : Nat) (v : Value) (hk : a.length = k) (hv : v = byt y) : ((a ++ x :: b).map byt).set k v = ((a ++ [y]) ++ b).map byt := by
  subst hk hv
  rw [List.map_append, List.set_append_right _ _ (by simp)]
  simp

theorem get_step (a b : List Nat) (x k : Nat) (hk : a.length = k) : ((a ++ x :: b).map byt)[k]? = some (byt x) := by
  subst hk
  rw [List.map_append, List.getElem?_append_right (by simp)]
  simp

/-- Is k the block of the slice at A? -/
def blkIs (A : Option Addr) (k : Nat) : Prop := ∃ a, A = some a ∧ a.block = k

def SpoilP (w : World) (A : Option Addr) (e : Ending) (w' : World) : Prop := e = .returned (.tuple #[]) ∧ Kept (blkIs A) w w'

theorem set_any (xs : List Nat) (k y : Nat) (v : Value) (hv : v = byt y) : (xs.map byt).set k v = (xs.set k y).map byt := by
  subst hv
  rw [List.map_set]

set_option maxRecDepth 100000 in
set_option maxHeartbeats 800000 in
theorem spoil_any (A : Option Addr) (c B by_ : Nat) (l : List Nat) (w : World) (h : OwnB w 5 B A c l) :
    Calls Try.prog 21 #[.slice A l.length c, .int .u8 (by_ : Nat)] w (SpoilP w A) := by
  have hle := h.le
  rcases h with ⟨hb, ⟨rfl, rfl, rfl⟩ | ⟨g, sp, rfl, hB, hblk, hsp, hc, hm⟩⟩
  · go_enter Try.func21, Try.ntmps21
    go_wp2
    refine wp_loop_rounds 1 ?_
    rw [rounds_succ]
    go_wp2
    go_end0
    exact ⟨rfl, Kept.refl _ _⟩
  · have hall : ∀ x ∈ l ++ sp, x < 256 := fun x hx => by
      rcases List.mem_append.1 hx with h | h
      · exact hb x h
      · exact hsp x h
    have hlen : (l ++ sp).length = c := by simp; omega
    obtain ⟨hle1, hle2⟩ := hle
    generalize l.length = L at *
    have HB := Lib.hid hblk
    have HA := Lib.hid hall
    have HLen := Lib.hid hlen
    unfold maxLen at hm
    clear hblk hall hlen hb hsp hc hle2
    go_enter Try.func21, Try.ntmps21
    go_wp2
    go_loopw [5] (fun i wr => ∃ (k : Nat) (xs : List Nat), k ≤ c ∧ i = .int .i64 k ∧ xs.length = c ∧ (∀ x ∈ xs, x < 256) ∧ Blk wr g 5 (xs.map byt) ∧ Kept (blkIs (some ⟨g, 0, none⟩)) w wr) (fun i _ => c - (intOf i).toNat)
    case atStart => exact ⟨0, l ++ sp, by omega, rfl, HLen.out, HA.out, HB.out, Kept.refl _ _⟩
    case round =>
      obtain ⟨k, xs, hk, rfl, hl, hbd, hblk, hkept⟩ := hrel
      have HL := Lib.hid hl
      have HBD := Lib.hid hbd
      have HBK := Lib.hid hblk
      have HK := Lib.hid hkept
      clear hl hbd hblk hkept HB HA HLen
      by_cases hlt : k < c
      · have hkl : k < xs.length := by rw [HL.out]; exact hlt
        have hcell : wr.cell? ⟨g, k, none⟩ = some (.int .u8 ((xs[k] : Nat) : Int)) := by
          rw [HBK.out.cell, List.getElem?_map, List.getElem?_eq_getElem hkl]
          rfl
        have hxk : xs[k] < 256 := HBD.out _ (List.getElem_mem hkl)
        have hfree := HBK.out.free k
        generalize xs[k] = x at *
        go_wp2
        go_roundw
        case rel =>
          have hb1 := HBK.out.put k (.int .u8 (((x : Int) + by_) % 256))
          rw [set_any xs k ((x + by_) % 256) (.int .u8 (((x : Int) + by_) % 256)) (by unfold byt; rfl)] at hb1
          refine ⟨k + 1, xs.set k ((x + by_) % 256), by omega, by go_num, by rw [List.length_set, HL.out], ?_, hb1, HK.out.setCell (p := ⟨g, k, none⟩) (fun _ => ⟨⟨g, 0, none⟩, rfl, rfl⟩) _⟩
          intro y hy
          rcases List.mem_or_eq_of_mem_set hy with h | h
          · exact HBD.out y h
          · omega
        case measure => simp [intOf]; omega
      · go_wp2
        go_end0
        exact ⟨rfl, HK.out⟩
end Go.Proofs.Ytbiihjdjbknibaa
