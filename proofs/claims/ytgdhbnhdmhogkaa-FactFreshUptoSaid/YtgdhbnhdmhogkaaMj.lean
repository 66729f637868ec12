/-
  The changes by rising key, of each key the last one: what the program goes over.
-/
import Derived.RangeFuncNested
import Derived.RangeFuncLeaves
import Derived.OwnWalkIn
import Derived.TacticsInMore
import Derived.LoopNIn
import Derived.LoopIn
import Derived.Sort.QuietTacIn
import Derived.Sort.QuietIn
import Derived.Sort.BigQuietIn
import Derived.Test.YtgdhbnhdmhogkaaMi
namespace Go.Proofs.Ytgdhbnhdmhogkaa
open Go.RowKit

/-- Of each run of one key the last one. -/
def latC : List CE → List CE
  | [] => []
  | [e] => [e]
  | e :: d :: r => if d.f.k = e.f.k then latC (d :: r) else e :: latC (d :: r)
theorem latC_len : ∀ (l : List CE), (latC l).length ≤ l.length
  | [] => Nat.le_refl _
  | [_] => Nat.le_refl _
  | e :: d :: r => by
    have h := latC_len (d :: r)
    unfold latC
    split
    · exact Nat.le_trans h (Nat.le_succ _)
    · exact Nat.succ_le_succ h
theorem latC_same {l : List CE} {k : Nat} {x y : CE} (hx : l[k]? = some x) (hy : l[k + 1]? = some y) (h : y.f.k = x.f.k) : latC (l.drop k) = latC (l.drop (k + 1)) := by
  obtain ⟨h1, e1⟩ := List.getElem?_eq_some_iff.1 hx
  obtain ⟨h2, e2⟩ := List.getElem?_eq_some_iff.1 hy
  rw [List.drop_eq_getElem_cons h1, List.drop_eq_getElem_cons h2, e1, e2]
  show (if y.f.k = x.f.k then _ else _) = _
  rw [if_pos h]
theorem latC_other {l : List CE} {k : Nat} {x y : CE} (hx : l[k]? = some x) (hy : l[k + 1]? = some y) (h : ¬ y.f.k = x.f.k) : latC (l.drop k) = x :: latC (l.drop (k + 1)) := by
  obtain ⟨h1, e1⟩ := List.getElem?_eq_some_iff.1 hx
  obtain ⟨h2, e2⟩ := List.getElem?_eq_some_iff.1 hy
  rw [List.drop_eq_getElem_cons h1, List.drop_eq_getElem_cons h2, e1, e2]
  show (if y.f.k = x.f.k then _ else _) = _
  rw [if_neg h]
theorem latC_last {l : List CE} {k : Nat} {x : CE} (hx : l[k]? = some x) (hk : l.length = k + 1) : latC (l.drop k) = x :: latC (l.drop (k + 1)) := by
  obtain ⟨h1, e1⟩ := List.getElem?_eq_some_iff.1 hx
  rw [List.drop_eq_getElem_cons h1, e1, List.drop_of_length_le (by omega)]
  rfl

/-- Rows of changes are as they were. -/
def KpC (X Y : World) : Prop := X.heap.size ≤ Y.heap.size ∧ ∀ k, At X k 45 → Y.heap[k]? = X.heap[k]?
theorem KpC.refl (X : World) : KpC X X := ⟨Nat.le_refl _, fun _ _ => rfl⟩
theorem KpC.trans {X Y Z : World} (h : KpC X Y) (k : KpC Y Z) : KpC X Z := ⟨Nat.le_trans h.1 k.1, fun i hi => by
  have h1 := h.2 i hi
  obtain ⟨cs, fr, e⟩ := hi
  exact (k.2 i ⟨cs, fr, h1.trans e⟩).trans h1⟩
theorem KpC.new {X Y : World} (h : New X Y) : KpC X Y := ⟨h.size, fun k hk => h.block k hk.lt id⟩
theorem KpC.putObj {B : Nat} (W : World) (l : Nat) (o o' : Obj) (_ : B ≤ l) (h : W.heap[l]? = some o) (hc : o.isCells = false) (_ : o.isWalk = false) : KpC W (W.putObj l o') := by
  refine ⟨by simp, fun k hk => World.putObj_heap_other ?_⟩
  rintro rfl
  obtain ⟨cs, fr, e⟩ := hk
  rw [h] at e
  injection e with e
  rw [e] at hc
  cases hc
theorem KpC.own {X Y : World} {B n c : Nat} {A : Option Addr} {vs : List Value} (h : KpC X Y) (ho : OwnV X 45 6 B A n c vs) : OwnV Y 45 6 B A n c vs := by
  obtain ⟨h1, h2, h3, ho⟩ := ho
  refine ⟨h1, h2, h3, ?_⟩
  rcases ho with ho | ⟨g, sp, e1, e2, e3, e4⟩
  · exact .inl ho
  · exact .inr ⟨g, sp, e1, e2, (h.2 g e3.at_).trans e3, e4⟩

theorem grown_of_new {X Y : World} (h : New X Y) : X.grownBy Y none := ⟨h.os, h.tape, h.output, h.size, fun k hk _ => h.block k hk id⟩

/-- A change as it is handed to a function. -/
def ceV (x : CE) : Value := .agg #[.int .i64 x.f.k.i, .int .u8 (x.f.k.t : Nat), .string x.f.k.n, .int .i64 x.f.k.c, .slice x.A x.f.v.length x.c, .bool x.f.g]

/-- What is gone over: of the changes, sorted. -/
def LatS (es : List CE) (n : Nat) (xs : List {x : CE // x ∈ es}) : Prop :=
  ∃ ds : List CE, ds.length = n ∧ ordC (cts ds) ∧ (∀ k, ds.filter (fun d => decide (d.f.k = k)) = es.filter (fun d => decide (d.f.k = k))) ∧ xs.map (·.1) = latC ds

theorem mem_of_filters {ds es : List CE} (h : ∀ k, ds.filter (fun d => decide (d.f.k = k)) = es.filter (fun d => decide (d.f.k = k))) {x : CE} (hx : x ∈ ds) : x ∈ es := by
  have : x ∈ ds.filter (fun d => decide (d.f.k = x.f.k)) := List.mem_filter.2 ⟨hx, by simp⟩
  rw [h] at this
  exact (List.mem_filter.1 this).1

set_option maxRecDepth 100000 in
theorem latest_any (A : Option Addr) (n c : Nat) (w : World) :
    Calls Try.prog 18 #[.slice A n c] w fun e w' => e = .returned (.func (.func 30) #[] #[.pointer (some ⟨w.heap.size, 0, none⟩)]) ∧ w' = w.alloc (.cells #[.slice A n c] 23) := by
  go_enter Try.func18, Try.ntmps18
  go_wp2
  go_ret
  exact ⟨rfl, rfl⟩

set_option maxRecDepth 100000 in
set_option maxHeartbeats 6400000 in
theorem latest1_in (m : Nat) (hm : 1 ≤ m) (l Bs : Nat) (A : Option Addr) (n c : Nat) (es : List CE) (hsort : SortC n) (hn : n * 72 ≤ 140737488351232) (hA : A = none → c = 0 ∧ n = 0) (hlen : es.length = n)
    (J Jx : List {x : CE // x ∈ es} → World → Prop) (W : World) (hJ : ∀ s X Y, J s X → New X Y → J s Y)
    (hY : ∀ pre x W1, J pre W1 → pre.length < n → YieldAt Fence.wide (m - 1) Try.prog l #[ceV x.1] W1 fun e W' =>
      (e = .returned (.bool true) ∧ J (pre ++ [x]) W' ∧ KpC W1 W') ∨ (e = .returned (.bool false) ∧ Jx (pre ++ [x]) W'))
    (hBs : W.cell? ⟨Bs, 0, none⟩ = some (.slice A n c)) (ha : RowV W A n 6 (ces es)) (h0 : J [] W) :
    CallsIn Fence.wide m Try.prog 30 #[.func (.yield l) #[] #[], .pointer (some ⟨Bs, 0, none⟩)] W fun e W' => (∃ v, e = .returned v) ∧
      ((∃ xs, LatS es n xs ∧ J xs W') ∨ (∃ pre, True ∧ Jx pre W')) := by
  refine callsIn_of_wp Try.func30 rfl trivial ?_ rfl
  simp only [Try.ntmps30, List.size_toArray, List.length_cons, List.length_nil, Nat.reduceAdd, Nat.reduceSub, Array.replicate_succ, Array.replicate_zero, List.push_toArray, List.append_toArray, List.nil_append, List.cons_append]
  have HS := Lib.hid hsort
  have HYY := Lib.hid hY
  have HJ := Lib.hid hJ
  have HA0 := Lib.hid ha
  have H0 := Lib.hid h0
  have HL := Lib.hid hlen
  have HNA : Hid (n * 72 ≤ 140737488351232 ∧ (A = none → c = 0 ∧ n = 0)) := ⟨hn, hA⟩
  clear hsort hY hJ ha h0 hlen hn hA
  gi_wp2_with (first
    | (refine ⟨trivial, ?_⟩; gi_at_call 31; refine (callsIn_wide.2 (cloneChanges_any A n c es W HA0.out HNA.out.1 HNA.out.2)).mono ?_; rintro e w1 ⟨A1, c1, rfl, h1, h2⟩; have HO1 := Lib.hid h1; have HK1 := Lib.hid h2; clear h1 h2)
    | (refine ⟨trivial, ?_⟩; gi_at_call 32; refine (callsIn_wide.2 (HS.out W.heap.size A1 c1 es w1 HL.out HO1.out (by unfold maxLen; have := HNA.out.1; omega))).mono ?_; rintro e w2 ⟨rfl, ds, hd1, hd2, hd3, hd4, hd5⟩))
  have HKW : Hid (New W w2) := HK1.out.trans hd5 fun i hi ⟨a, ha, e⟩ => by
    have := (HO1.out.at_ a ha).2
    omega
  have HJ2 : Hid (J [] w2) := HJ.out _ _ _ H0.out HKW.out
  have HD := Lib.hid hd4
  have HDL : Hid (ds.length = n) := hd1
  have HD2 : Hid (ordC (cts ds)) := hd2
  have HD3 := Lib.hid hd3
  have hn := HNA.out.1
  clear hd1 hd2 hd3 hd4 hd5 HKW HO1 HK1 HNA HS
  gi_loopw [12] (fun i wr => ∃ (k : Nat) (pre : List {x : CE // x ∈ es}), k ≤ n ∧ i = .int .i64 k ∧ Hid (pre.map (·.1) ++ latC (ds.drop k) = latC ds) ∧ Hid (J pre wr) ∧ Hid (KpC w2 wr)) (fun i _ => n - (intOf i).toNat)
  case atStart => exact ⟨0, [], Nat.zero_le _, rfl, rfl, HJ2, KpC.refl _⟩
  case round =>
    obtain ⟨k, pre, hk, rfl, VL, VJ, VK⟩ := hrel
    by_cases hlt : k < n
    · obtain ⟨g, o, x, eA, hx, x0, x1, x2, x3, x4, x5⟩ := rowC_at (VK.out.own HD.out).row hlt
      subst eA
      have HXM : Hid (x ∈ es) := mem_of_filters HD3.out (List.mem_of_getElem? hx)
      have HX := Lib.hid hx
      obtain ⟨w5, hw5⟩ : ∃ w5, w5 = wr.alloc (.cells #[.int .i64 x.f.k.i, .int .u8 (x.f.k.t : Nat), .string x.f.k.n, .int .i64 x.f.k.c, .slice x.A x.f.v.length x.c, .bool x.f.g] 45) := ⟨_, rfl⟩
      have n5 : New wr w5 := by rw [hw5]; exact (Kept.refl _ _).alloc _
      have B5 : Hid (Blk w5 wr.heap.size 45 [.int .i64 x.f.k.i, .int .u8 (x.f.k.t : Nat), .string x.f.k.n, .int .i64 x.f.k.c, .slice x.A x.f.v.length x.c, .bool x.f.g]) := by rw [hw5]; exact Blk.made wr _ _
      have HJ5 := Lib.hid (HJ.out _ _ _ VJ.out n5)
      have VK5 := Lib.hid (VK.out.trans (KpC.new n5))
      have HO5 := Lib.hid (VK5.out.own HD.out)
      have HW5 := Lib.hid hw5
      have s1 : (0 : Int) ≤ (k : Int) + 1 := by omega
      have s2 : ((k : Int) + 1).toNat = k + 1 := by omega
      have s3 : (k : Int) < (n : Int) := by omega
      clear hw5 n5 hx VJ VK
      gi_wp2_with fail
      rw [← HW5.out]
      clear HW5 x0 x1 x2 x3 x4 x5
      generalize wr.heap.size = g5 at *
      have q0 : w5.cell? ⟨g5, 0, none⟩ = some (.int .i64 x.f.k.i) := B5.out.cell 0
      have q1 : w5.cell? ⟨g5, 1, none⟩ = some (.int .u8 (x.f.k.t : Nat)) := B5.out.cell 1
      have q2 : w5.cell? ⟨g5, 2, none⟩ = some (.string x.f.k.n) := B5.out.cell 2
      have q3 : w5.cell? ⟨g5, 3, none⟩ = some (.int .i64 x.f.k.c) := B5.out.cell 3
      have q4 : w5.cell? ⟨g5, 4, none⟩ = some (.slice x.A x.f.v.length x.c) := B5.out.cell 4
      have q5 : w5.cell? ⟨g5, 5, none⟩ = some (.bool x.f.g) := B5.out.cell 5
      by_cases hlt2 : k + 1 < n
      · obtain ⟨g', o', y, eA', hy, y0, y1, y2, y3, _, _⟩ := rowC_at HO5.out.row hlt2
        injection eA' with eA'
        injection eA' with e1 e2
        subst e1 e2
        have HY := Lib.hid hy
        have s4 : (k : Int) + 1 < (n : Int) := by omega
        have d1 : decide ((k : Int) + 1 < (n : Int)) = true := decide_eq_true s4
        have HEQ := fun u => key_eql y.f.k x.f.k u
        clear hy
        by_cases hkk : y.f.k = x.f.k
        · have HLS : Hid (pre.map (·.1) ++ latC (ds.drop (k + 1)) = latC ds) := by rw [Hid, ← latC_same HX.out HY.out hkk]; exact VL.out
          rw [decide_eq_true hkk] at HEQ
          clear hkk
          gi_quiet (fail)
          have HJ6 : Hid (J pre (w5.drewN nq)) := HJ.out _ _ _ HJ5.out ((Kept.refl _ _).drewN _)
          have VK6 : Hid (KpC w2 (w5.drewN nq)) := VK5.out.trans (KpC.new ((Kept.refl _ _).drewN nq))
          gi_wp2
          go_roundw
          case rel => exact ⟨k + 1, pre, by omega, by go_num, HLS, HJ6, VK6⟩
          case measure => simp [intOf]; omega
        have HPRE : Hid ((pre ++ [(⟨x, HXM.out⟩ : {x : CE // x ∈ es})]).map (·.1) ++ latC (ds.drop (k + 1)) = latC ds) := by
          rw [Hid, List.map_append, List.append_assoc, ← VL.out, latC_other HX.out HY.out hkk]
          rfl
        have HPL : Hid (pre.length < n) := by
          have := congrArg List.length HPRE.out
          have h2 := latC_len ds
          rw [HDL.out] at h2
          rw [List.length_append, List.length_map, List.length_append, List.length_singleton] at this
          show _ < _
          omega
        rw [decide_eq_false hkk] at HEQ
        clear hkk
        gi_quiet (fail)
        obtain ⟨fn, tmps, assign, body, hy, hR⟩ := HYY.out pre ⟨x, HXM.out⟩ (w5.drewN nq) (HJ.out _ _ _ HJ5.out ((Kept.refl _ _).drewN _)) HPL.out
        have hy' := hy
        unfold ceV at hy'
        dsimp only at hy'
        clear hy
        gi_wp2
        refine hR.mono ?_
        rintro e W3 (⟨rfl, hJ3, hk3⟩ | ⟨rfl, hJx3⟩)
        · have HJ3 := Lib.hid hJ3
          have HK3 : Hid (KpC w2 W3) := (VK5.out.trans (KpC.new ((Kept.refl _ _).drewN nq))).trans hk3
          clear hJ3 hk3
          gi_wp2
          go_roundw
          case rel => exact ⟨k + 1, pre ++ [⟨x, HXM.out⟩], by omega, by go_num, HPRE, HJ3, HK3⟩
          case measure => simp [intOf]; omega
        · gi_wp2
          refine bodyPost_ret (results_none rfl _ _ _) rfl ?_
          exact ⟨⟨_, rfl⟩, .inr ⟨_, trivial, hJx3⟩⟩

      · have d1 : decide ((k : Int) + 1 < (n : Int)) = false := decide_eq_false (by omega)
        have HPRE : Hid ((pre ++ [(⟨x, HXM.out⟩ : {x : CE // x ∈ es})]).map (·.1) ++ latC (ds.drop (k + 1)) = latC ds) := by
          rw [Hid, List.map_append, List.append_assoc, ← VL.out, latC_last HX.out (by rw [HDL.out]; omega)]
          rfl
        have HPL : Hid (pre.length < n) := by
          have := congrArg List.length HPRE.out
          have h2 := latC_len ds
          rw [HDL.out] at h2
          rw [List.length_append, List.length_map, List.length_append, List.length_singleton] at this
          show _ < _
          omega
        gi_quiet (fail)
        obtain ⟨fn, tmps, assign, body, hy, hR⟩ := HYY.out pre ⟨x, HXM.out⟩ (w5.drewN nq) (HJ.out _ _ _ HJ5.out ((Kept.refl _ _).drewN _)) HPL.out
        have hy' := hy
        unfold ceV at hy'
        dsimp only at hy'
        clear hy
        gi_wp2
        refine hR.mono ?_
        rintro e W3 (⟨rfl, hJ3, hk3⟩ | ⟨rfl, hJx3⟩)
        · have HJ3 := Lib.hid hJ3
          have HK3 : Hid (KpC w2 W3) := (VK5.out.trans (KpC.new ((Kept.refl _ _).drewN nq))).trans hk3
          clear hJ3 hk3
          gi_wp2
          go_roundw
          case rel => exact ⟨k + 1, pre ++ [⟨x, HXM.out⟩], by omega, by go_num, HPRE, HJ3, HK3⟩
          case measure => simp [intOf]; omega
        · gi_wp2
          refine bodyPost_ret (results_none rfl _ _ _) rfl ?_
          exact ⟨⟨_, rfl⟩, .inr ⟨_, trivial, hJx3⟩⟩

    · have HE : Hid (LatS es n pre) := by
        refine ⟨ds, HDL.out, HD2.out, HD3.out, ?_⟩
        have := VL.out
        rw [List.drop_of_length_le (by rw [HDL.out]; omega)] at this
        simpa [latC] using this
      clear VL VK
      gi_wp2
      go_end0
      exact ⟨⟨_, rfl⟩, .inl ⟨pre, HE.out, VJ.out⟩⟩
end Go.Proofs.Ytgdhbnhdmhogkaa
