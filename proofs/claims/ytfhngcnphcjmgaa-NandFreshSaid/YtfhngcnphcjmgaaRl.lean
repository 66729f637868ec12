/-
  The bytes that an act of the law writes.
-/
import Derived.Test.YtfhngcnphcjmgaaRk
namespace Go.Proofs.Ytfhngcnphcjmgaa
open Go.ChangeShapes Go.WideShapes Go.ChangeAt Go.RowKit

set_option maxRecDepth 100000 in
set_option maxHeartbeats 800000 in
theorem aBytes_one (d b p : Int) (A : Option Addr) (n c : Nat) (hv : Value) (z : Int) (w : World) (K : Ending → World → Prop) (h : ∀ w', New w w' → K (.returned (.slice A n c)) w') :
    Calls Try.prog 17 #[.agg #[.int .i64 d, .int .i64 b, .int .i64 p, .int .u8 1, .slice A n c, hv], .int .i64 z] w K := by
  have H := Lib.hid h
  clear h
  go_enter Try.func17, Try.ntmps17
  go_wp2

  exact H.out _ ((Kept.refl _ _).alloc _)

/-- What an act fills a page of m bytes with. -/
def actL (f : Nat) (l : List Nat) (m : Nat) : List Nat := (List.range m).map fun i => l.getD i f
theorem actL_len (f : Nat) (l : List Nat) (m : Nat) : (actL f l m).length = m := by simp [actL]
theorem actL_get (f : Nat) (l : List Nat) (m k : Nat) (hk : k < m) : (actL f l m)[k]? = some (l.getD k f) := by simp [actL, hk]
theorem actL_by (f : Nat) (l : List Nat) (m : Nat) (hf : f < 256) (hl : ∀ x ∈ l, x < 256) : ∀ x ∈ actL f l m, x < 256 := by
  intro x hx
  obtain ⟨i, _, rfl⟩ := List.mem_map.1 hx
  rw [List.getD_eq_getElem?_getD]
  cases h : l[i]? with
  | none => exact hf
  | some y => exact hl y (List.mem_of_getElem? h)
theorem fill_step (L : List Nat) (N k x : Nat) (hl : L.length = N) (hk : k < N) (hx : L[k]? = some x) :
    ((L.take k ++ List.replicate (N - k) 0).map byt).set k (byt x) = (L.take (k + 1) ++ List.replicate (N - (k + 1)) 0).map byt := by
  have h1 : (L.take k).length = k := by rw [List.length_take]; omega
  rw [List.map_append, List.set_append, if_neg (by rw [List.length_map]; omega), List.length_map, h1, Nat.sub_self, show N - k = (N - (k + 1)) + 1 by omega, List.replicate_succ, List.map_cons, List.set_cons_zero, List.take_add_one, hx]
  simp
theorem fill_get (L : List Nat) (N k : Nat) (hl : L.length = N) (hk : k < N) : ((L.take k ++ List.replicate (N - k) 0).map byt)[k]? = some (.int .u8 0) := by
  have h1 : (L.take k).length = k := by rw [List.length_take]; omega
  rw [List.map_append, List.getElem?_append_right (by rw [List.length_map]; omega), List.length_map, h1, Nat.sub_self, show N - k = (N - (k + 1)) + 1 by omega, List.replicate_succ]
  rfl

set_option maxRecDepth 100000 in
set_option maxHeartbeats 1600000 in
theorem aBytes_fill (d b p : Int) (f : Nat) (A : Option Addr) (n c : Nat) (l : List Nat) (hv : Value) (N : Nat) (w : World) (hf : f < 256) (hf1 : f ≠ 1) (ha : Bts w A n l) (hn : n ≤ 140737488351232) (hN : N ≤ 8192) :
    Calls Try.prog 17 #[.agg #[.int .i64 d, .int .i64 b, .int .i64 p, .int .u8 (f : Int), .slice A n c, hv], .int .i64 (N : Int)] w (RetL w (actL f l N)) := by
  obtain ⟨i1, hi1, hz10, hz11, hz12⟩ := info_parts info_u8
  have hmk1 := fun u => run_make_bytes (P := Try.prog) 30 5 i1 Try.underlying30 hi1 hz10 hz11 hz12 .i64 .i64 ((N : Nat) : Int) ((N : Nat) : Int) N N rfl rfl (Nat.le_refl _) (by omega) u
  have HL := Lib.hid (actL_len f l N)
  have HG := Lib.hid (actL_get f l N)
  have HBY := Lib.hid (actL_by f l N hf ha.2.1)
  have HA := Lib.hid ha
  have hln := ha.1
  have hfi : ¬ (f : Int) = 1 := by omega
  clear ha hi1 hz10 hz11 hz12
  generalize actL f l N = L at *
  go_enter Try.func17, Try.ntmps17
  go_wp2
  have V0 : Hid (Blk ((w.alloc (.cells #[.int .i64 d, .int .i64 b, .int .i64 p, .int .u8 (f : Int), .slice A n c, hv] 33)).alloc (.cells (rawB (List.replicate N 0)) 5)) (w.heap.size + 1) 5 ((L.take 0 ++ List.replicate (N - 0) 0).map byt)) := by
    have := Blk.madeB (w.alloc (.cells #[.int .i64 d, .int .i64 b, .int .i64 p, .int .u8 (f : Int), .slice A n c, hv] 33)) 5 (List.replicate N 0)
    simpa [Hid] using this
  have P0 : Hid (Blk ((w.alloc (.cells #[.int .i64 d, .int .i64 b, .int .i64 p, .int .u8 (f : Int), .slice A n c, hv] 33)).alloc (.cells (rawB (List.replicate N 0)) 5)) w.heap.size 33 [.int .i64 d, .int .i64 b, .int .i64 p, .int .u8 (f : Int), .slice A n c, hv]) := (Blk.made w 33 #[.int .i64 d, .int .i64 b, .int .i64 p, .int .u8 (f : Int), .slice A n c, hv]).alloc _
  have K0 : Hid (New w ((w.alloc (.cells #[.int .i64 d, .int .i64 b, .int .i64 p, .int .u8 (f : Int), .slice A n c, hv] 33)).alloc (.cells (rawB (List.replicate N 0)) 5))) := ((Kept.refl _ _).alloc _).alloc _
  go_loopw [6] (fun i wr => ∃ k : Nat, k ≤ N ∧ i = .int .i64 k ∧ Hid (Blk wr (w.heap.size + 1) 5 ((L.take k ++ List.replicate (N - k) 0).map byt)) ∧ Hid (Blk wr w.heap.size 33 [.int .i64 d, .int .i64 b, .int .i64 p, .int .u8 (f : Int), .slice A n c, hv]) ∧ Hid (New w wr)) (fun i _ => N - (intOf i).toNat)
  case atStart => exact ⟨0, Nat.zero_le _, rfl, V0, P0, K0⟩
  case round =>
    obtain ⟨k, hk, rfl, V1, P1, K1⟩ := hrel
    clear V0 P0 K0 hmk1
    by_cases hlt2 : k < N
    · have d0 : wr.cell? ⟨w.heap.size + 1, k, none⟩ = some (.int .u8 0) := by rw [V1.out.cell]; exact fill_get L N k HL.out hlt2
      have d3 : wr.cell? ⟨w.heap.size, 3, none⟩ = some (.int .u8 (f : Int)) := P1.out.cell 3
      have d4 : wr.cell? ⟨w.heap.size, 4, none⟩ = some (.slice A n c) := P1.out.cell 4
      have hfree := V1.out.free k
      by_cases hlt3 : k < n
      · have hkl : k < l.length := by omega
        obtain ⟨go, oo, rfl, hcell⟩ := HA.out.2.2 (by omega)
        have e0 : wr.cell? ⟨go, oo + k, none⟩ = some (.int .u8 ((l[k] : Nat) : Int)) := K1.out.cell (hcell k _ (List.getElem?_eq_getElem hkl)) (fun f => f)
        have hgo : go < w.heap.size := World.block_lt_of_cell? w _ (hcell k _ (List.getElem?_eq_getElem hkl))
        have hx : L[k]? = some l[k] := by rw [HG.out k hlt2]; simp [List.getD, List.getElem?_eq_getElem hkl]
        have hst := fill_step L N k _ HL.out hlt2 hx
        have HST := Lib.hid hst
        clear hcell hst hx
        generalize l[k] = y at *
        go_wp2
        go_roundw
        case rel =>
          refine ⟨k + 1, by omega, by go_num, ?_, ?_, (K1.out.setCell (p := ⟨w.heap.size + 1, k, none⟩) (fun hh => by simp at hh; omega) _).setCell (p := ⟨w.heap.size + 1, k, none⟩) (fun hh => by simp at hh; omega) _⟩
          · have := (V1.out.put k (.int .u8 (f : Int))).put k (byt y)
            rw [List.set_set, HST.out] at this
            exact this
          · exact (P1.out.kept (Kept.set1 _ _ _ _) (by simp)).kept (Kept.set1 _ _ _ _) (by simp)
        case measure => simp [intOf]; omega
      · have hx : L[k]? = some f := by rw [HG.out k hlt2]; simp [List.getD, List.getElem?_eq_none (show l.length ≤ k by omega)]
        have HST := Lib.hid (fill_step L N k _ HL.out hlt2 hx)
        clear hx
        go_wp2
        go_roundw
        case rel =>
          refine ⟨k + 1, by omega, by go_num, ?_, P1.out.kept (Kept.set1 _ _ _ _) (by simp), K1.out.setCell (p := ⟨w.heap.size + 1, k, none⟩) (fun hh => by simp at hh; omega) _⟩
          have := V1.out.put k (byt f)
          rw [HST.out] at this
          exact this
        case measure => simp [intOf]; omega
    · obtain rfl : k = N := by omega
      go_wp2
      go_ret
      refine ⟨some ⟨w.heap.size + 1, 0, none⟩, k, by rw [HL.out]; rfl, ?_, K1.out⟩
      have := V1.out
      rw [Nat.sub_self, List.replicate_zero, List.append_nil, List.take_of_length_le (by rw [HL.out]; exact Nat.le_refl _)] at this
      exact ⟨HBY.out, .inr ⟨_, [], rfl, Nat.le_succ _, by rw [List.append_nil]; exact this, by simp, by rw [HL.out]; rfl, by unfold maxLen; omega⟩⟩
end Go.Proofs.Ytfhngcnphcjmgaa
