/-
  The reference's chip as it lies in memory, and its small functions' contracts: May, all, there, at, Page.
-/
import Derived.Test.YtfhngcnphcjmgaaNs
namespace Go.Proofs.Ytfhngcnphcjmgaa
open Go.ChangeShapes Go.WideShapes Go.ChangeAt Go.RowKit

def rCells (s : CSt) (gc cc gb cb : Nat) (Ah : Option Addr) (ch : Nat) : List Value :=
  [.int .i64 (s.nb : Nat), .int .i64 (s.np : Nat), .int .i64 (s.nz : Nat), .int .i64 (s.ns : Nat), .slice (some ⟨gc, 0, none⟩) s.by_.length cc, .slice (some ⟨gb, 0, none⟩) s.bad.length cb, .slice Ah s.hits.length ch, .int .i64 (s.since : Nat), .bool s.dead, .int .i64 (s.deeds : Nat)]

/-- The reference's chip in block g, whose bytes and marks lie in the blocks gc, gb; all that is its own is in Q. -/
structure RRep (Q : Nat → Prop) (w : World) (g gc gb cc cb : Nat) (Ah : Option Addr) (ch : Nat) (s : CSt) : Prop where
  low : ∀ b, Q b → b < w.heap.size
  ok : s.Ok
  qg : Q g
  qc : Q gc
  qb : Q gb
  chip : Blk w g 41 (rCells s gc cc gb cb Ah ch)
  cells : ∃ junk, Blk w gc 5 (s.by_.map byt ++ junk)
  ccap : s.by_.length ≤ cc ∧ cc ≤ maxLen
  bads : ∃ junk, Blk w gb 4 (s.bad.map boolV ++ junk)
  bcap : s.bad.length ≤ cb ∧ cb ≤ maxLen
  hcap : s.hits.length ≤ ch ∧ ch ≤ maxLen
  hits : HitsT Q w gc Ah s.hits

def RChip (Q : Nat → Prop) (w : World) (g : Nat) (s : CSt) : Prop := ∃ gc gb cc cb Ah ch, RRep Q w g gc gb cc cb Ah ch s

section
variable {Q Q' S : Nat → Prop} {w w' : World} {g gc gb cc cb : Nat} {Ah : Option Addr} {ch : Nat} {s : CSt}
theorem RRep.kept (h : RRep Q w g gc gb cc cb Ah ch s) (hk : Kept S w w') (hn : ∀ b, Q b → ¬ S b) : RRep Q w' g gc gb cc cb Ah ch s where
  low := fun b hb => Nat.lt_of_lt_of_le (h.low b hb) hk.size
  ok := h.ok
  qg := h.qg
  qc := h.qc
  qb := h.qb
  chip := h.chip.kept hk (hn _ h.qg)
  cells := by obtain ⟨j, hj⟩ := h.cells; exact ⟨j, hj.kept hk (hn _ h.qc)⟩
  ccap := h.ccap
  bads := by obtain ⟨j, hj⟩ := h.bads; exact ⟨j, hj.kept hk (hn _ h.qb)⟩
  bcap := h.bcap
  hcap := h.hcap
  hits := h.hits.kept hk (fun b hb _ => hn b hb) (fun b hb _ _ => hn b hb) (fun _ hb _ => hb)
theorem RRep.new (h : RRep Q w g gc gb cc cb Ah ch s) (hk : New w w') : RRep Q w' g gc gb cc cb Ah ch s := h.kept hk fun _ _ f => f
theorem RRep.drewN (h : RRep Q w g gc gb cc cb Ah ch s) (n : Nat) : RRep Q (w.drewN n) g gc gb cc cb Ah ch s := h.new ((Kept.refl _ _).drewN n)
theorem RChip.kept (h : RChip Q w g s) (hk : Kept S w w') (hn : ∀ b, Q b → ¬ S b) : RChip Q w' g s := by
  obtain ⟨gc, gb, cc, cb, Ah, ch, h⟩ := h
  exact ⟨gc, gb, cc, cb, Ah, ch, h.kept hk hn⟩
theorem RChip.new (h : RChip Q w g s) (hk : New w w') : RChip Q w' g s := h.kept hk fun _ _ f => f
theorem RChip.ok (h : RChip Q w g s) : s.Ok := by
  obtain ⟨gc, gb, cc, cb, Ah, ch, h⟩ := h
  exact h.ok
theorem RChip.low (h : RChip Q w g s) : ∀ b, Q b → b < w.heap.size := by
  obtain ⟨gc, gb, cc, cb, Ah, ch, h⟩ := h
  exact h.low
theorem RRep.ne (h : RRep Q w g gc gb cc cb Ah ch s) : g ≠ gc ∧ g ≠ gb ∧ gc ≠ gb := by
  obtain ⟨_, hc⟩ := h.cells
  obtain ⟨_, hb⟩ := h.bads
  exact ⟨h.chip.ne_of hc (by decide), h.chip.ne_of hb (by decide), hc.ne_of hb (by decide)⟩
theorem RRep.c0 (h : RRep Q w g gc gb cc cb Ah ch s) : w.cell? ⟨g, 0, none⟩ = some (.int .i64 (s.nb : Nat)) := h.chip.cell 0
theorem RRep.c1 (h : RRep Q w g gc gb cc cb Ah ch s) : w.cell? ⟨g, 1, none⟩ = some (.int .i64 (s.np : Nat)) := h.chip.cell 1
theorem RRep.c2 (h : RRep Q w g gc gb cc cb Ah ch s) : w.cell? ⟨g, 2, none⟩ = some (.int .i64 (s.nz : Nat)) := h.chip.cell 2
theorem RRep.c3 (h : RRep Q w g gc gb cc cb Ah ch s) : w.cell? ⟨g, 3, none⟩ = some (.int .i64 (s.ns : Nat)) := h.chip.cell 3
theorem RRep.c4 (h : RRep Q w g gc gb cc cb Ah ch s) : w.cell? ⟨g, 4, none⟩ = some (.slice (some ⟨gc, 0, none⟩) s.by_.length cc) := h.chip.cell 4
theorem RRep.c5 (h : RRep Q w g gc gb cc cb Ah ch s) : w.cell? ⟨g, 5, none⟩ = some (.slice (some ⟨gb, 0, none⟩) s.bad.length cb) := h.chip.cell 5
theorem RRep.c6 (h : RRep Q w g gc gb cc cb Ah ch s) : w.cell? ⟨g, 6, none⟩ = some (.slice Ah s.hits.length ch) := h.chip.cell 6
theorem RRep.c7 (h : RRep Q w g gc gb cc cb Ah ch s) : w.cell? ⟨g, 7, none⟩ = some (.int .i64 (s.since : Nat)) := h.chip.cell 7
theorem RRep.c8 (h : RRep Q w g gc gb cc cb Ah ch s) : w.cell? ⟨g, 8, none⟩ = some (.bool s.dead) := h.chip.cell 8
theorem RRep.c9 (h : RRep Q w g gc gb cc cb Ah ch s) : w.cell? ⟨g, 9, none⟩ = some (.int .i64 (s.deeds : Nat)) := h.chip.cell 9
theorem RRep.cellBts (h : RRep Q w g gc gb cc cb Ah ch s) (off n : Nat) (hf : off + n ≤ s.by_.length) : Bts w (some ⟨gc, off, none⟩) n ((s.by_.drop off).take n) := by
  obtain ⟨j, hj⟩ := h.cells
  refine ⟨by simp; omega, fun x hx => h.ok.bytes x (List.mem_of_mem_drop (List.mem_of_mem_take hx)), fun _ => ⟨gc, off, rfl, fun i x hx => ?_⟩⟩
  rw [List.getElem?_take] at hx
  split at hx
  · rw [List.getElem?_drop] at hx
    have hi : off + i < s.by_.length := (List.getElem?_eq_some_iff.1 hx).1
    rw [hj.cell, List.getElem?_append_left (by simpa using hi), List.getElem?_map, hx]
    rfl
  · cases hx
theorem RRep.badCell (h : RRep Q w g gc gb cc cb Ah ch s) (b : Nat) (hb : b < s.nb) : w.cell? ⟨gb, b, none⟩ = some (.bool (badAt s b)) := by
  obtain ⟨j, hj⟩ := h.bads
  have hl : b < s.bad.length := by rw [h.ok.badl]; exact hb
  rw [hj.cell, List.getElem?_append_left (by simpa using hl), List.getElem?_map, List.getElem?_eq_getElem hl]
  simp [badAt, List.getD_eq_getElem?_getD, List.getElem?_eq_getElem hl, boolV]

/-- The chip's own block is written anew. -/
theorem RRep.setChip (h : RRep Q w g gc gb cc cb Ah ch s) (hk : Kept (· = g) w w') (s' : CSt) (Ah' : Option Addr) (ch' : Nat) (hok : s'.Ok) (e1 : s'.by_ = s.by_) (e2 : s'.bad = s.bad) (hcap : s'.hits.length ≤ ch' ∧ ch' ≤ maxLen)
    (hh : HitsT Q w gc Ah' s'.hits) (hb : Blk w' g 41 (rCells s' gc cc gb cb Ah' ch')) : RRep Q w' g gc gb cc cb Ah' ch' s' := by
  obtain ⟨n1, n2, n3⟩ := h.ne
  exact { low := fun b hb => Nat.lt_of_lt_of_le (h.low b hb) hk.size, ok := hok, qg := h.qg, qc := h.qc, qb := h.qb, chip := hb,
          cells := by rw [e1]; obtain ⟨j, hj⟩ := h.cells; exact ⟨j, hj.kept hk (Ne.symm n1)⟩, ccap := by rw [e1]; exact h.ccap,
          bads := by rw [e2]; obtain ⟨j, hj⟩ := h.bads; exact ⟨j, hj.kept hk (Ne.symm n2)⟩, bcap := by rw [e2]; exact h.bcap, hcap := hcap,
          hits := hh.kept hk (fun b _ hb => hb.ne_of h.chip.at_ (by decide)) (fun b _ _ hb => hb.ne_of h.chip.at_ (by decide)) (fun _ hb _ => hb) }
theorem RRep.setCells (h : RRep Q w g gc gb cc cb Ah ch s) (hk : Kept (· = gc) w w') (l : List Nat) (hl : l.length = s.by_.length) (hb : IsBytes l) (junk : List Value) (hblk : Blk w' gc 5 (l.map byt ++ junk)) :
    RRep Q w' g gc gb cc cb Ah ch { s with by_ := l } := by
  obtain ⟨n1, n2, n3⟩ := h.ne
  obtain ⟨_, hc⟩ := h.cells
  exact { low := fun b hb => Nat.lt_of_lt_of_le (h.low b hb) hk.size, ok := { h.ok with len := hl.trans h.ok.len, bytes := hb }, qg := h.qg, qc := h.qc, qb := h.qb,
          chip := by have := h.chip.kept hk n1; unfold rCells at this ⊢; rw [← hl] at this; exact this,
          cells := ⟨junk, hblk⟩, ccap := by show l.length ≤ _ ∧ _; rw [hl]; exact h.ccap,
          bads := by obtain ⟨j, hj⟩ := h.bads; exact ⟨j, hj.kept hk (Ne.symm n3)⟩, bcap := h.bcap, hcap := h.hcap,
          hits := h.hits.kept hk (fun b _ hb => hb.ne_of hc.at_ (by decide)) (fun b _ hne _ => hne) (fun _ hb _ => hb) }
theorem RRep.setBads (h : RRep Q w g gc gb cc cb Ah ch s) (hk : Kept (· = gb) w w') (l : List Bool) (hl : l.length = s.bad.length) (junk : List Value) (hblk : Blk w' gb 4 (l.map boolV ++ junk)) :
    RRep Q w' g gc gb cc cb Ah ch { s with bad := l } := by
  obtain ⟨n1, n2, n3⟩ := h.ne
  obtain ⟨_, hb⟩ := h.bads
  exact { low := fun b hb => Nat.lt_of_lt_of_le (h.low b hb) hk.size, ok := { h.ok with badl := hl.trans h.ok.badl }, qg := h.qg, qc := h.qc, qb := h.qb,
          chip := by have := h.chip.kept hk n2; unfold rCells at this ⊢; rw [← hl] at this; exact this,
          cells := by obtain ⟨j, hj⟩ := h.cells; exact ⟨j, hj.kept hk n3⟩, ccap := h.ccap,
          bads := ⟨junk, hblk⟩, bcap := by show l.length ≤ _ ∧ _; rw [hl]; exact h.bcap, hcap := h.hcap,
          hits := h.hits.kept hk (fun b _ h' => h'.ne_of hb.at_ (by decide)) (fun b _ _ h' => h'.ne_of hb.at_ (by decide)) (fun _ hb _ => hb) }
end

theorem rAll_any (a b c : Nat) (d : Int) (w : World) (ha : a ≤ 64) (hb : b ≤ 32) (hc : c ≤ 256) :
    Calls Try.prog 96 #[.agg #[.int .i64 a, .int .i64 b, .int .i64 c, .int .i64 d]] w (IntN w ((a * b * c : Nat) : Int)) := by
  have h1 : a * b ≤ 64 * 32 := Nat.mul_le_mul ha hb
  have h2 := prod_le ha hb hc
  have e1 : IntKind.i64.wrap ((a : Int) * (b : Int)) = ((a * b : Nat) : Int) := by rw [prod_int]; exact wrap_nat (by omega)
  have e2 : IntKind.i64.wrap (((a * b : Nat) : Int) * (c : Int)) = ((a * b * c : Nat) : Int) := by rw [prod_int]; exact wrap_nat (by omega)
  have m1 : wrap64 ((a : Int) * (b : Int)) = ((a * b : Nat) : Int) := by rw [prod_int]; exact wrap64_of (by omega) (by omega)
  have m2 : wrap64 (((a * b : Nat) : Int) * (c : Int)) = ((a * b * c : Nat) : Int) := by rw [prod_int]; exact wrap64_of (by omega) (by omega)
  generalize a * b = ab at *
  generalize ab * c = abc at *
  clear h1 h2 ha hb hc
  go_enter Try.func96, Try.ntmps96
  go_wp2
  go_ret
  exact ⟨rfl, (Kept.refl _ _).alloc _⟩

theorem rMay_any (a b c d : Int) (w : World) :
    Calls Try.prog 95 #[.agg #[.int .i64 a, .int .i64 b, .int .i64 c, .int .i64 d]] w (BoolN w (decide (geoOk a b c d))) := by
  by_cases h : geoOk a b c d
  · rw [decide_eq_true h]
    obtain ⟨⟨h1, h2⟩, ⟨h3, h4⟩, ⟨h5, h6⟩, h7, h8⟩ := h
    go_enter Try.func95, Try.ntmps95
    go_wp2
    go_ret
    exact ⟨rfl, (Kept.refl _ _).alloc _⟩
  · rw [decide_eq_false h]
    unfold geoOk at h
    have hc : (decide (8 ≤ a) = false) ∨ (8 ≤ a ∧ decide (a ≤ 64) = false) ∨ (8 ≤ a ∧ a ≤ 64 ∧ decide (4 ≤ b) = false) ∨ (8 ≤ a ∧ a ≤ 64 ∧ 4 ≤ b ∧ decide (b ≤ 32) = false) ∨
        (8 ≤ a ∧ a ≤ 64 ∧ 4 ≤ b ∧ b ≤ 32 ∧ decide (128 ≤ c) = false) ∨ (8 ≤ a ∧ a ≤ 64 ∧ 4 ≤ b ∧ b ≤ 32 ∧ 128 ≤ c ∧ decide (c ≤ 256) = false) ∨
        (8 ≤ a ∧ a ≤ 64 ∧ 4 ≤ b ∧ b ≤ 32 ∧ 128 ≤ c ∧ c ≤ 256 ∧ decide (0 ≤ d) = false) ∨ (8 ≤ a ∧ a ≤ 64 ∧ 4 ≤ b ∧ b ≤ 32 ∧ 128 ≤ c ∧ c ≤ 256 ∧ 0 ≤ d ∧ decide (d ≤ 4) = false) := by
      simp only [decide_eq_false_iff_not]
      omega
    clear h
    rcases hc with h1 | ⟨h1, h2⟩ | ⟨h1, h2, h3⟩ | ⟨h1, h2, h3, h4⟩ | ⟨h1, h2, h3, h4, h5⟩ | ⟨h1, h2, h3, h4, h5, h6⟩ | ⟨h1, h2, h3, h4, h5, h6, h7⟩ | ⟨h1, h2, h3, h4, h5, h6, h7, h8⟩
    all_goals
      go_enter Try.func95, Try.ntmps95
      go_wp2
      go_ret
      exact ⟨rfl, (Kept.refl _ _).alloc _⟩

theorem rThere_any (Q : Nat → Prop) (g gc gb cc cb : Nat) (Ah : Option Addr) (ch : Nat) (s : CSt) (b p : Int) (w : World) (h : RRep Q w g gc gb cc cb Ah ch s) :
    Calls Try.prog 62 #[.pointer (some ⟨g, 0, none⟩), .int .i64 b, .int .i64 p] w fun e w' => e = .returned (.bool (decide (there s b p))) ∧ w = w' := by
  have c0 := h.c0
  have c1 := h.c1
  clear h
  by_cases ht : there s b p
  · rw [decide_eq_true ht]
    unfold there at ht
    obtain ⟨⟨h1, h2⟩, h3, h4⟩ := ht
    go_enter Try.func62, Try.ntmps62
    go_wp2
    go_ret
    exact ⟨rfl, rfl⟩
  · rw [decide_eq_false ht]
    unfold there at ht
    have hc : (decide (0 ≤ b) = false) ∨ (0 ≤ b ∧ decide (b < (s.nb : Int)) = false) ∨ (0 ≤ b ∧ b < (s.nb : Int) ∧ decide (0 ≤ p) = false) ∨ (0 ≤ b ∧ b < (s.nb : Int) ∧ 0 ≤ p ∧ decide (p < (s.np : Int)) = false) := by
      simp only [decide_eq_false_iff_not]
      omega
    clear ht
    rcases hc with h1 | ⟨h1, h2⟩ | ⟨h1, h2, h3⟩ | ⟨h1, h2, h3, h4⟩
    all_goals
      go_enter Try.func62, Try.ntmps62
      go_wp2
      go_ret
      exact ⟨rfl, rfl⟩

theorem rAt_any (Q : Nat → Prop) (g gc gb cc cb : Nat) (Ah : Option Addr) (ch : Nat) (s : CSt) (b p : Nat) (w : World) (h : RRep Q w g gc gb cc cb Ah ch s) (hb : b < s.nb) (hp : p < s.np) :
    Calls Try.prog 66 #[.pointer (some ⟨g, 0, none⟩), .int .i64 b, .int .i64 p] w (RetV w (.int .i64 (((b * s.np + p) * s.nz : Nat) : Int))) := by
  have c1 := h.c1
  have c2 := h.c2
  have hlt := h.chip.lt
  have hnb := h.ok.nb2
  have hnp := h.ok.np2
  have hnz := h.ok.nz2
  have hm1 : b * s.np ≤ 64 * 32 := Nat.mul_le_mul (by omega) hnp
  have hm2 : (b * s.np + p) * s.nz ≤ 4096 * 256 := Nat.mul_le_mul (by omega) hnz
  have m1 : IntKind.i64.wrap ((b : Int) * (s.np : Int)) = ((b * s.np : Nat) : Int) := by rw [prod_int]; exact wrap_nat (by omega)
  have m2 : IntKind.i64.wrap (((b * s.np : Nat) : Int) + (p : Int)) = ((b * s.np + p : Nat) : Int) := by rw [IntKind.wrap_i64]; omega
  have m3 : IntKind.i64.wrap (((b * s.np + p : Nat) : Int) * (s.nz : Int)) = (((b * s.np + p) * s.nz : Nat) : Int) := by rw [prod_int]; exact wrap_nat (by omega)
  clear h hb hp hnb hnp hnz hm1 hm2
  generalize (b * s.np + p) * s.nz = z at *
  generalize b * s.np + p = y at *
  generalize b * s.np = x at *
  go_enter Try.func66, Try.ntmps66
  go_wp2
  go_quiet (fail)
  go_wp2
  go_ret
  exact ⟨nq, rfl, rfl⟩
end Go.Proofs.Ytfhngcnphcjmgaa
