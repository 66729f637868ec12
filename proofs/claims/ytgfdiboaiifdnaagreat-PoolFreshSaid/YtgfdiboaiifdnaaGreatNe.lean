/-
  Contracts: what strikes a chip's deeds (a closure), a chip that is made.
-/
import Derived.Test.YtgfdiboaiifdnaaGreatNd
import Derived.Deep.RegionHeld3
namespace Go.Proofs.YtgfdiboaiifdnaaGreat
open Go.ChangeShapes Go.WideShapes Go.ChangeAt Go.RowKit

theorem Blk.new {w w' : World} {g : Nat} {t : TypeId} {cs : List Value} (h : Blk w g t cs) (hk : New w w') : Blk w' g t cs := h.kept hk fun f => f

def strF (bl bb : Nat) : Value := .func (.func 59) #[] #[.pointer (some ⟨bl, 0, none⟩), .pointer (some ⟨bb, 0, none⟩)]

def StrikingP (w : World) (A : Option Addr) (n c : Nat) (e : Ending) (w' : World) : Prop :=
  ∃ bl bb, e = .returned (.func (.func 59) #[] #[.pointer (some ⟨bl, 0, none⟩), .pointer (some ⟨bb, 0, none⟩)]) ∧ Blk w' bl 44 [.slice A n c] ∧ Blk w' bb 3 [.int .i64 0] ∧ w.heap.size ≤ bl ∧ w.heap.size ≤ bb ∧ New w w'

theorem striking_any (A : Option Addr) (n c : Nat) (w : World) :
    Calls Tryz.prog 41 #[.slice A n c] w (StrikingP w A n c) := by
  go_enter Tryz.func41, Tryz.ntmps41
  go_wp2
  go_ret
  refine ⟨w.heap.size, w.heap.size + 1, rfl, ?_, ?_, Nat.le_refl _, by omega, ((Kept.refl _ _).alloc _).alloc _⟩
  · exact (Blk.made w 44 #[.slice A n c]).alloc _
  · have := Blk.made (w.alloc (Obj.cells #[Value.slice A n c] 44)) 3 #[.int .i64 0]
    simpa using this

/-- The zero value of a hit comes back, and that nothing strikes. -/
theorem struck_none (bl bb : Nat) (A : Option Addr) (c : Nat) (w : World) (hl : Blk w bl 44 [.slice A 0 c]) :
    Calls Tryz.prog 59 #[.pointer (some ⟨bl, 0, none⟩), .pointer (some ⟨bb, 0, none⟩)] w
      fun e w' => e = .returned (.tuple #[.agg #[.int .i64 0, .bool false, .slice none 0 0], .bool false]) ∧ New w w' := by
  have c0 := hl.cell 0
  have hlt := hl.lt
  simp only [List.getElem?_cons_zero] at c0
  clear hl
  go_enter Tryz.func59, Tryz.ntmps59
  go_wp2
  refine bodyPost_ret (v := .tuple #[.agg #[.int .i64 0, .bool false, .slice none 0 0], .bool false]) (by simp [results, Tryz.results59, go_sem]) rfl ⟨rfl, (Kept.refl _ _).alloc _⟩

theorem kept_set3 (w : World) (B : Nat) (a b c : Value) : Kept (fun k => k = B) w (((w.setCell ⟨B, 0, none⟩ a).setCell ⟨B, 1, none⟩ b).setCell ⟨B, 2, none⟩ c) :=
  (((Kept.refl (fun k => k = B) w).setCell (p := ⟨B, 0, none⟩) (fun _ => rfl) a).setCell (p := ⟨B, 1, none⟩) (fun _ => rfl) b).setCell (p := ⟨B, 2, none⟩) (fun _ => rfl) c

theorem struck_end0 {w w1 : World} {bb : Nat} (hb2 : bb < w.heap.size) (vb v0 v1 v2 x : Value) (hb : Blk w bb 3 [vb]) (o' : Obj) (q : Nat) (h : w1 = (w.alloc o').drewN q) :
    ∀ w', w' = ((((w1.setCell ⟨bb, 0, none⟩ x).setCell ⟨w.heap.size, 0, none⟩ v0).setCell ⟨w.heap.size, 1, none⟩ v1).setCell ⟨w.heap.size, 2, none⟩ v2) →
    Blk w' bb 3 [x] ∧ Kept (fun b => b = bb) w w' := by
  subst h
  rintro w' rfl
  have k1 : New w ((w.alloc o').drewN q) := ((Kept.refl _ _).alloc _).drewN q
  generalize (w.alloc o').drewN q = w1 at k1
  have hb1 := (hb.kept k1 (fun f => f)).put 0 x
  have kk : Kept (fun b => b = bb) w (w1.setCell ⟨bb, 0, none⟩ x) := (k1.mono (S' := fun b => b = bb) fun _ _ f => f.elim).setCell (p := ⟨bb, 0, none⟩) (fun _ => rfl) _
  generalize w1.setCell ⟨bb, 0, none⟩ x = w2 at *
  have k3 := kept_set3 w2 w.heap.size v0 v1 v2
  exact ⟨hb1.kept k3 (by omega), kk.trans k3 fun i hi h => by omega⟩

/-- A deed that is not struck: one more. -/
theorem struck_not (bl bb gh oh n c since after : Nat) (w : World) (hl : Blk w bl 44 [.slice (some ⟨gh, oh, none⟩) n c]) (hn : 0 < n) (hb : Blk w bb 3 [.int .i64 since])
    (h0 : w.cell? ⟨gh, oh, none⟩ = some (.int .i64 (after : Nat))) (hlt : since < after) (ha : after ≤ 9223372036854775807) :
    Calls Tryz.prog 59 #[.pointer (some ⟨bl, 0, none⟩), .pointer (some ⟨bb, 0, none⟩)] w
      fun e w' => e = .returned (.tuple #[.agg #[.int .i64 0, .bool false, .slice none 0 0], .bool false]) ∧ Blk w' bb 3 [.int .i64 ((since + 1 : Nat) : Int)] ∧ Kept (· = bb) w w' := by
  have c0 := hl.cell 0
  have c1 := hb.cell 0
  have f1 := hb.free 0
  have hl1 := hl.lt
  have hl2 := hb.lt
  have hl3 : gh < w.heap.size := World.block_lt_of_cell? w _ h0
  simp only [List.getElem?_cons_zero] at c0 c1
  have hne : (n == 0) = false := beq_eq_false_iff_ne.2 (by omega)
  have hne2 : ((n : Int) == 0) = false := beq_eq_false_iff_ne.2 (by omega)
  have hlti : (since : Int) < (after : Int) := by omega
  have hn1 : (0 : Int) < (n : Int) := by omega
  have Hb := Lib.hid hb
  clear hl hb
  go_enter Tryz.func59, Tryz.ntmps59
  go_wp2
  go_quiet (fail)
  go_wp2
  refine bodyPost_ret (v := .tuple #[.agg #[.int .i64 0, .bool false, .slice none 0 0], .bool false]) (by simp [results, Tryz.results59, go_sem]) rfl ⟨rfl, ?_⟩
  obtain ⟨e1, e2⟩ := struck_end0 hl2 _ _ _ _ _ Hb.out _ nq rfl _ rfl
  exact ⟨e1, e2⟩

def StruckP (w : World) (bl bb gh oh n c after : Nat) (fails : Bool) (Am : Option Addr) (m cm : Nat) (e : Ending) (w' : World) : Prop :=
  e = .returned (.tuple #[.agg #[.int .i64 (after : Nat), .bool fails, .slice Am m cm], .bool true]) ∧ (∃ A', Blk w' bl 44 [.slice A' (n - 1) (c - 1)] ∧ (1 < n → A' = some ⟨gh, oh + 3, none⟩)) ∧ Blk w' bb 3 [.int .i64 ((0 : Nat) : Int)] ∧ Kept (fun b => b = bl ∨ b = bb) w w'

theorem struck_end {w w1 : World} {bl bb : Nat} (hbl : bl ≠ bb) (hl2 : bl < w.heap.size) (hb2 : bb < w.heap.size) (va vb v0 v1 v2 x : Value) (hl : Blk w bl 44 [va]) (hb : Blk w bb 3 [vb]) (u : Value) (o o' : Obj) (q : Nat) (h : w1 = (w.alloc o').drewN q) :
    ∀ w', w' = (((((w1.setCell ⟨bl, 0, none⟩ u).setCell ⟨bb, 0, none⟩ x).setCell ⟨w.heap.size, 0, none⟩ v0).setCell ⟨w.heap.size, 1, none⟩ v1).setCell ⟨w.heap.size, 2, none⟩ v2).alloc o →
    Blk w' bl 44 [u] ∧ Blk w' bb 3 [x] ∧ Kept (fun b => b = bl ∨ b = bb) w w' := by
  subst h
  rintro w' rfl
  have k1 : New w ((w.alloc o').drewN q) := ((Kept.refl _ _).alloc _).drewN q
  generalize hw1 : (w.alloc o').drewN q = w1 at k1
  have hl1 := (hl.kept k1 (fun f => f)).put 0 u
  have hb1 := (hb.kept k1 (fun f => f)).kept (Kept.set1 w1 bl 0 u) (Ne.symm hbl)
  have hb2' := hb1.put 0 x
  have hl2' := hl1.kept (Kept.set1 (w1.setCell ⟨bl, 0, none⟩ u) bb 0 x) hbl
  have kk : Kept (fun b => b = bl ∨ b = bb) w ((w1.setCell ⟨bl, 0, none⟩ u).setCell ⟨bb, 0, none⟩ x) :=
    ((k1.mono (S' := fun b => b = bl ∨ b = bb) fun _ _ f => f.elim).setCell (p := ⟨bl, 0, none⟩) (fun _ => .inl rfl) _).setCell (p := ⟨bb, 0, none⟩) (fun _ => .inr rfl) _
  generalize (w1.setCell ⟨bl, 0, none⟩ u).setCell ⟨bb, 0, none⟩ x = w2 at *
  have k3 := (kept_set3 w2 w.heap.size v0 v1 v2).alloc o
  refine ⟨hl2'.kept k3 (by omega), hb2'.kept k3 (by omega), kk.trans k3 fun i hi h => ?_⟩
  omega

/-- A deed that is struck: the hit goes. -/
theorem struck_yes (bl bb gh oh n c since after : Nat) (fails : Bool) (Am : Option Addr) (m cm : Nat) (w : World) (hl : Blk w bl 44 [.slice (some ⟨gh, oh, none⟩) n c]) (hn : 0 < n) (hnc : n ≤ c) (hc : c ≤ maxLen) (hb : Blk w bb 3 [.int .i64 since])
    (h0 : w.cell? ⟨gh, oh, none⟩ = some (.int .i64 (after : Nat))) (h1 : w.cell? ⟨gh, oh + 1, none⟩ = some (.bool fails)) (h2 : w.cell? ⟨gh, oh + 2, none⟩ = some (.slice Am m cm)) (hlt : ¬ since < after) :
    Calls Tryz.prog 59 #[.pointer (some ⟨bl, 0, none⟩), .pointer (some ⟨bb, 0, none⟩)] w (StruckP w bl bb gh oh n c after fails Am m cm) := by
  have hbl : bl ≠ bb := hl.ne_of hb (by decide)
  have c0 := hl.cell 0
  have c1 := hb.cell 0
  have f0 := hl.free 0
  have f1 := hb.free 0
  have hl1 := hl.lt
  have hl2 := hb.lt
  have hl3 := World.block_lt_of_cell? w _ h0
  simp only at hl3
  simp only [List.getElem?_cons_zero] at c0 c1
  have hne : (n == 0) = false := beq_eq_false_iff_ne.2 (by omega)
  have hne2 : ((n : Int) == 0) = false := beq_eq_false_iff_ne.2 (by omega)
  have hlti : ¬ (since : Int) < (after : Int) := by omega
  have hn1 : (0 : Int) < (n : Int) := by omega
  have hn2 : (1 : Int) ≤ (n : Int) := by omega
  unfold maxLen at hc
  have Hl := Lib.hid hl
  have Hb := Lib.hid hb
  clear hl hb
  by_cases hc1 : c = 1
  · have hn3 : n = 1 := by omega
    subst hc1 hn3
    go_enter Tryz.func59, Tryz.ntmps59
    go_wp2
    go_quiet (fail)
    go_wp2
    refine bodyPost_ret (v := .tuple #[.agg #[.int .i64 (after : Nat), .bool fails, .slice Am m cm], .bool true]) (by simp [results, Tryz.results59, go_sem]) rfl ?_
    obtain ⟨e1, e2, e3⟩ := struck_end hbl hl1 hl2 _ _ _ _ _ _ Hl.out Hb.out _ _ _ nq rfl _ rfl
    exact ⟨rfl, ⟨_, e1, fun h => absurd h (by omega)⟩, e2, e3⟩
  · have hc2 : ¬ (c : Int) = 1 := by omega
    go_enter Tryz.func59, Tryz.ntmps59
    go_wp2
    go_quiet (fail)
    go_wp2
    refine bodyPost_ret (v := .tuple #[.agg #[.int .i64 (after : Nat), .bool fails, .slice Am m cm], .bool true]) (by simp [results, Tryz.results59, go_sem]) rfl ?_
    obtain ⟨e1, e2, e3⟩ := struck_end hbl hl1 hl2 _ _ _ _ _ _ Hl.out Hb.out _ _ _ nq rfl _ rfl
    exact ⟨rfl, ⟨_, e1, fun _ => rfl⟩, e2, e3⟩
end Go.Proofs.YtgfdiboaiifdnaaGreat
