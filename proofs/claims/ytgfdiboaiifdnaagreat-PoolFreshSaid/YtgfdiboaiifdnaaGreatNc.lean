/-
  A chip as it lies in memory: what the program's chip holds, in which blocks; its clones of lists.
-/
import Derived.Test.YtgfdiboaiifdnaaGreatNb
namespace Go.Proofs.YtgfdiboaiifdnaaGreat
open Go.ChangeShapes Go.WideShapes Go.ChangeAt Go.RowKit

/-- A list comes back, in memory of its own. -/
def RetV2 (w : World) (t : TypeId) (sz n : Nat) (vs : List Value) (e : Ending) (w' : World) : Prop :=
  ∃ A c, e = .returned (.slice A n c) ∧ OwnV w' t sz w.heap.size A n c vs ∧ New w w'

theorem cloneBools_any (A : Option Addr) (n c : Nat) (vs : List Value) (w : World) (ha : RowV w A n 1 vs) (h1 : ∀ u ∈ vs, u.oneCell' = true) (hn : n ≤ 140737488351232) (hA : A = none → c = 0 ∧ n = 0) :
    Calls Tryz.prog 46 #[.slice A n c] w (RetV2 w 4 1 n vs) := by
  obtain ⟨i0, hi, hz0, hz1, hz2⟩ := info_parts info_bool
  have hq := fun w a n c => Lib.run_eql_slice_nil (P := Tryz.prog) w 58 4 a n c 0 0 Tryz.underlying58
  have H1 := Lib.hid h1
  rcases A with _ | a
  · obtain ⟨rfl, rfl⟩ := hA rfl
    obtain rfl : vs = [] := List.eq_nil_of_length_eq_zero (by simpa using ha.1)
    clear hA ha h1
    go_enter Tryz.func46, Tryz.ntmps46
    go_wp2
    go_ret
    exact ⟨none, 0, rfl, OwnV.nil _ _ _ _, Kept.refl _ _⟩
  · have Ha := Lib.hid ha
    have Hz : Hid (1 = i0.size) := hz1.symm
    clear hA ha h1
    go_enter Tryz.func46, Tryz.ntmps46
    go_wp2_with (at_builtin; refine wpList_append_rowV _ rfl _ _ _ rfl 4 i0 (.bool false) Tryz.underlying58 hi hz0 ?_ ?_ w.heap.size (some ⟨w.heap.size, 0, none⟩) 0 0 [] rfl ?_ (some a) n c vs rfl ?_ H1.out ?_ ?_ ?_ ?_)
    · rw [← Hz.out]; rfl
    · rw [← Hz.out]; omega
    · exact ⟨by simp, Nat.le_refl _, by simp, .inr ⟨_, [], rfl, Nat.le_refl _, Blk.made w 4 #[], by simp⟩⟩
    · rw [← Hz.out]; exact Ha.out.new ((Kept.refl _ _).alloc _)
    · rw [hz2]; omega
    · omega
    · simp
    intro A2 c2 w2 hown hg _
    go_wp2
    go_ret
    exact ⟨A2, c2, by simp, by simpa using hown.out, ((Kept.refl _ _).alloc _).grown hg.out (by simp; omega)⟩

theorem cloneHits_any (A : Option Addr) (n c : Nat) (vs : List Value) (w : World) (ha : RowV w A n 3 vs) (h1 : ∀ u ∈ vs, u.oneCell' = true) (hn : n * 40 ≤ 140737488351232) (hA : A = none → c = 0 ∧ n = 0) :
    Calls Tryz.prog 40 #[.slice A n c] w (RetV2 w 92 3 n vs) := by
  obtain ⟨i0, hi, hz0, hz1, hz2⟩ := info_parts info_hit
  have hq := fun w a n c => Lib.run_eql_slice_nil (P := Tryz.prog) w 44 92 a n c 0 0 Tryz.underlying44
  have H1 := Lib.hid h1
  rcases A with _ | a
  · obtain ⟨rfl, rfl⟩ := hA rfl
    obtain rfl : vs = [] := List.eq_nil_of_length_eq_zero (by simpa using ha.1)
    clear hA ha h1
    go_enter Tryz.func40, Tryz.ntmps40
    go_wp2
    go_ret
    exact ⟨none, 0, rfl, OwnV.nil _ _ _ _, Kept.refl _ _⟩
  · have Ha := Lib.hid ha
    have Hz : Hid (3 = i0.size) := hz1.symm
    clear hA ha h1
    go_enter Tryz.func40, Tryz.ntmps40
    go_wp2_with (at_builtin; refine wpList_append_rowV _ rfl _ _ _ rfl 92 i0 (.agg #[.int .i64 0, .bool false, .slice none 0 0]) Tryz.underlying44 hi hz0 ?_ ?_ w.heap.size (some ⟨w.heap.size, 0, none⟩) 0 0 [] rfl ?_ (some a) n c vs rfl ?_ H1.out ?_ ?_ ?_ ?_)
    · rw [← Hz.out]; rfl
    · rw [← Hz.out]; omega
    · exact ⟨by simp, Nat.le_refl _, by simp, .inr ⟨_, [], rfl, Nat.le_refl _, Blk.made w 92 #[], by simp⟩⟩
    · rw [← Hz.out]; exact Ha.out.new ((Kept.refl _ _).alloc _)
    · rw [hz2]; omega
    · omega
    · simp
    intro A2 c2 w2 hown hg _
    go_wp2
    go_ret
    exact ⟨A2, c2, by simp, by simpa using hown.out, ((Kept.refl _ _).alloc _).grown hg.out (by simp; omega)⟩

/-- What a mask is: bytes in a block of Q that is not gc. -/
def MaskAt (Q : Nat → Prop) (w : World) (gc : Nat) (A : Option Addr) (c : Nat) (l : List Nat) : Prop :=
  Bts w A l.length l ∧ l.length ≤ c ∧ c ≤ maxLen ∧ ∀ a, A = some a → Q a.block ∧ a.block ≠ gc ∧ At w a.block 5

/-- A list of hits that is read. -/
def HitsT (Q : Nat → Prop) (w : World) (gc : Nat) (A : Option Addr) (hs : List Hit) : Prop :=
  0 < hs.length → ∃ g o, A = some ⟨g, o, none⟩ ∧ Q g ∧ At w g 92 ∧ ∀ (i : Nat) (h : Hit), hs[i]? = some h →
    w.cell? ⟨g, o + 3 * i, none⟩ = some (.int .i64 (h.after : Nat)) ∧ w.cell? ⟨g, o + 3 * i + 1, none⟩ = some (.bool h.fails) ∧
      ∃ Am cm, w.cell? ⟨g, o + 3 * i + 2, none⟩ = some (.slice Am h.mask.length cm) ∧ MaskAt Q w gc Am cm h.mask

section
variable {Q Q' S : Nat → Prop} {w w' : World} {gc : Nat} {A : Option Addr} {c : Nat} {l : List Nat} {hs : List Hit}
theorem MaskAt.kept (h : MaskAt Q w gc A c l) (hk : Kept S w w') (hn : ∀ b, Q b → b ≠ gc → At w b 5 → ¬ S b) (hq : ∀ b, Q b → b < w.heap.size → Q' b) : MaskAt Q' w' gc A c l := by
  obtain ⟨h1, h2, h3, h4⟩ := h
  have hne : ∀ a, A = some a → ¬ S a.block := fun a ha => hn _ (h4 a ha).1 (h4 a ha).2.1 (h4 a ha).2.2
  exact ⟨h1.kept hk hne, h2, h3, fun a ha => ⟨hq _ (h4 a ha).1 (h4 a ha).2.2.lt, (h4 a ha).2.1, (h4 a ha).2.2.kept hk (hne a ha)⟩⟩
theorem HitsT.kept (h : HitsT Q w gc A hs) (hk : Kept S w w') (h1 : ∀ b, Q b → At w b 92 → ¬ S b) (hn : ∀ b, Q b → b ≠ gc → At w b 5 → ¬ S b) (hq : ∀ b, Q b → b < w.heap.size → Q' b) : HitsT Q' w' gc A hs := by
  intro h0
  obtain ⟨g, o, rfl, hg, ht, hc⟩ := h h0
  have hS := h1 g hg ht
  refine ⟨g, o, rfl, hq g hg ht.lt, ht.kept hk hS, fun i x hx => ?_⟩
  obtain ⟨c1, c2, Am, cm, c3, hm⟩ := hc i x hx
  exact ⟨hk.cell c1 hS, hk.cell c2 hS, Am, cm, hk.cell c3 hS, hm.kept hk hn hq⟩
theorem HitsT.nil (Q : Nat → Prop) (w : World) (gc : Nat) (A : Option Addr) : HitsT Q w gc A [] := fun h => absurd h (by simp)
end

def boolV (b : Bool) : Value := .bool b
/-- The chip in block g, whose parts lie in the blocks gc, gb, bl, bb; all that is its own is in Q. -/
structure NRep (Q : Nat → Prop) (w : World) (g gc gb bl bb cc cb : Nat) (Ah : Option Addr) (ch : Nat) (s : CSt) : Prop where
  low : ∀ b, Q b → b < w.heap.size
  ok : s.Ok
  qg : Q g
  qc : Q gc
  qb : Q gb
  ql : Q bl
  qn : Q bb
  chip : Blk w g 61 [.int .i64 (s.nb : Nat), .int .i64 (s.np : Nat), .int .i64 (s.nz : Nat), .int .i64 (s.ns : Nat), .slice (some ⟨gc, 0, none⟩) s.by_.length cc, .slice (some ⟨gb, 0, none⟩) s.bad.length cb,
    .bool s.dead, .int .i64 (s.deeds : Nat), .func (.func 59) #[] #[.pointer (some ⟨bl, 0, none⟩), .pointer (some ⟨bb, 0, none⟩)]]
  cells : ∃ junk, Blk w gc 5 (s.by_.map byt ++ junk)
  ccap : s.by_.length ≤ cc ∧ cc ≤ maxLen
  bads : ∃ junk, Blk w gb 4 (s.bad.map boolV ++ junk)
  bcap : s.bad.length ≤ cb ∧ cb ≤ maxLen
  list : Blk w bl 44 [.slice Ah s.hits.length ch]
  hcap : s.hits.length ≤ ch ∧ ch ≤ maxLen
  cnt : Blk w bb 3 [.int .i64 (s.since : Nat)]
  hits : HitsT Q w gc Ah s.hits

def NChip (Q : Nat → Prop) (w : World) (g : Nat) (s : CSt) : Prop := ∃ gc gb bl bb cc cb Ah ch, NRep Q w g gc gb bl bb cc cb Ah ch s

section
variable {Q Q' S : Nat → Prop} {w w' : World} {g gc gb bl bb cc cb : Nat} {Ah : Option Addr} {ch : Nat} {s : CSt}
theorem NRep.kept (h : NRep Q w g gc gb bl bb cc cb Ah ch s) (hk : Kept S w w') (hn : ∀ b, Q b → ¬ S b) : NRep Q w' g gc gb bl bb cc cb Ah ch s where
  low := fun b hb => Nat.lt_of_lt_of_le (h.low b hb) hk.size
  ok := h.ok
  qg := h.qg
  qc := h.qc
  qb := h.qb
  ql := h.ql
  qn := h.qn
  chip := h.chip.kept hk (hn _ h.qg)
  cells := by obtain ⟨j, hj⟩ := h.cells; exact ⟨j, hj.kept hk (hn _ h.qc)⟩
  ccap := h.ccap
  bads := by obtain ⟨j, hj⟩ := h.bads; exact ⟨j, hj.kept hk (hn _ h.qb)⟩
  bcap := h.bcap
  list := h.list.kept hk (hn _ h.ql)
  hcap := h.hcap
  cnt := h.cnt.kept hk (hn _ h.qn)
  hits := h.hits.kept hk (fun b hb _ => hn b hb) (fun b hb _ _ => hn b hb) (fun _ hb _ => hb)
theorem NRep.new (h : NRep Q w g gc gb bl bb cc cb Ah ch s) (hk : New w w') : NRep Q w' g gc gb bl bb cc cb Ah ch s := h.kept hk fun _ _ f => f
theorem NRep.drewN (h : NRep Q w g gc gb bl bb cc cb Ah ch s) (n : Nat) : NRep Q (w.drewN n) g gc gb bl bb cc cb Ah ch s := h.new ((Kept.refl _ _).drewN n)
theorem NChip.kept (h : NChip Q w g s) (hk : Kept S w w') (hn : ∀ b, Q b → ¬ S b) : NChip Q w' g s := by
  obtain ⟨gc, gb, bl, bb, cc, cb, Ah, ch, h⟩ := h
  exact ⟨gc, gb, bl, bb, cc, cb, Ah, ch, h.kept hk hn⟩
theorem NChip.new (h : NChip Q w g s) (hk : New w w') : NChip Q w' g s := h.kept hk fun _ _ f => f
theorem NChip.ok (h : NChip Q w g s) : s.Ok := by
  obtain ⟨gc, gb, bl, bb, cc, cb, Ah, ch, h⟩ := h
  exact h.ok
theorem NChip.low (h : NChip Q w g s) : ∀ b, Q b → b < w.heap.size := by
  obtain ⟨gc, gb, bl, bb, cc, cb, Ah, ch, h⟩ := h
  exact h.low
theorem NRep.mono (h : NRep Q w g gc gb bl bb cc cb Ah ch s) (hq : ∀ b, Q b → Q' b) (hl : ∀ b, Q' b → b < w.heap.size) : NRep Q' w g gc gb bl bb cc cb Ah ch s :=
  { h with low := hl, qg := hq _ h.qg, qc := hq _ h.qc, qb := hq _ h.qb, ql := hq _ h.ql, qn := hq _ h.qn, hits := h.hits.kept (Kept.refl (fun _ => False) w) (fun _ _ _ f => f) (fun _ _ _ _ f => f) (fun b hb _ => hq b hb) }

/-- The blocks of the parts differ. -/
theorem NRep.ne (h : NRep Q w g gc gb bl bb cc cb Ah ch s) : g ≠ gc ∧ g ≠ gb ∧ g ≠ bl ∧ g ≠ bb ∧ gc ≠ gb ∧ gc ≠ bl ∧ gc ≠ bb ∧ gb ≠ bl ∧ gb ≠ bb ∧ bl ≠ bb := by
  obtain ⟨_, hc⟩ := h.cells
  obtain ⟨_, hb⟩ := h.bads
  exact ⟨h.chip.ne_of hc (by decide), h.chip.ne_of hb (by decide), h.chip.ne_of h.list (by decide), h.chip.ne_of h.cnt (by decide), hc.ne_of hb (by decide), hc.ne_of h.list (by decide), hc.ne_of h.cnt (by decide),
    hb.ne_of h.list (by decide), hb.ne_of h.cnt (by decide), h.list.ne_of h.cnt (by decide)⟩

/-- The chip's own block is written anew: whether it is dead, how many deeds. -/
theorem NRep.setChip (h : NRep Q w g gc gb bl bb cc cb Ah ch s) (hk : Kept (· = g) w w') (dead : Bool) (deeds : Nat) (hd : deeds ≤ 4611686018427387904)
    (hb : Blk w' g 61 [.int .i64 (s.nb : Nat), .int .i64 (s.np : Nat), .int .i64 (s.nz : Nat), .int .i64 (s.ns : Nat), .slice (some ⟨gc, 0, none⟩) s.by_.length cc, .slice (some ⟨gb, 0, none⟩) s.bad.length cb,
      .bool dead, .int .i64 (deeds : Nat), .func (.func 59) #[] #[.pointer (some ⟨bl, 0, none⟩), .pointer (some ⟨bb, 0, none⟩)]]) :
    NRep Q w' g gc gb bl bb cc cb Ah ch { s with dead := dead, deeds := deeds } := by
  obtain ⟨n1, n2, n3, n4, _⟩ := h.ne
  exact { low := fun b hb => Nat.lt_of_lt_of_le (h.low b hb) hk.size, ok := { h.ok with deeds := hd }, qg := h.qg, qc := h.qc, qb := h.qb, ql := h.ql, qn := h.qn, chip := hb,
          cells := by obtain ⟨j, hj⟩ := h.cells; exact ⟨j, hj.kept hk (Ne.symm n1)⟩, ccap := h.ccap,
          bads := by obtain ⟨j, hj⟩ := h.bads; exact ⟨j, hj.kept hk (Ne.symm n2)⟩, bcap := h.bcap,
          list := h.list.kept hk (Ne.symm n3), hcap := h.hcap, cnt := h.cnt.kept hk (Ne.symm n4),
          hits := h.hits.kept hk (fun b _ hb => hb.ne_of h.chip.at_ (by decide)) (fun b _ _ hb => hb.ne_of h.chip.at_ (by decide)) (fun _ hb _ => hb) }
/-- The cells are written anew. -/
theorem NRep.setCells (h : NRep Q w g gc gb bl bb cc cb Ah ch s) (hk : Kept (· = gc) w w') (l : List Nat) (hl : l.length = s.by_.length) (hb : IsBytes l) (junk : List Value) (hblk : Blk w' gc 5 (l.map byt ++ junk)) :
    NRep Q w' g gc gb bl bb cc cb Ah ch { s with by_ := l } := by
  obtain ⟨n1, n2, n3, n4, n5, n6, n7, _⟩ := h.ne
  obtain ⟨_, hc⟩ := h.cells
  exact { low := fun b hb => Nat.lt_of_lt_of_le (h.low b hb) hk.size, ok := { h.ok with len := hl.trans h.ok.len, bytes := hb }, qg := h.qg, qc := h.qc, qb := h.qb, ql := h.ql, qn := h.qn, 
          chip := by have := h.chip.kept hk n1; rw [← hl] at this; exact this,
          cells := ⟨junk, hblk⟩, ccap := by show l.length ≤ _ ∧ _; rw [hl]; exact h.ccap,
          bads := by obtain ⟨j, hj⟩ := h.bads; exact ⟨j, hj.kept hk (Ne.symm n5)⟩, bcap := h.bcap,
          list := h.list.kept hk (Ne.symm n6), hcap := h.hcap, cnt := h.cnt.kept hk (Ne.symm n7),
          hits := h.hits.kept hk (fun b _ hb => hb.ne_of hc.at_ (by decide)) (fun b _ hne _ => hne) (fun _ hb _ => hb) }
/-- The marks are written anew. -/
theorem NRep.setBads (h : NRep Q w g gc gb bl bb cc cb Ah ch s) (hk : Kept (· = gb) w w') (l : List Bool) (hl : l.length = s.bad.length) (junk : List Value) (hblk : Blk w' gb 4 (l.map boolV ++ junk)) :
    NRep Q w' g gc gb bl bb cc cb Ah ch { s with bad := l } := by
  obtain ⟨n1, n2, n3, n4, n5, n6, n7, n8, n9, _⟩ := h.ne
  obtain ⟨_, hb⟩ := h.bads
  exact { low := fun b hb => Nat.lt_of_lt_of_le (h.low b hb) hk.size, ok := { h.ok with badl := hl.trans h.ok.badl }, qg := h.qg, qc := h.qc, qb := h.qb, ql := h.ql, qn := h.qn, 
          chip := by have := h.chip.kept hk n2; rw [← hl] at this; exact this,
          cells := by obtain ⟨j, hj⟩ := h.cells; exact ⟨j, hj.kept hk n5⟩, ccap := h.ccap,
          bads := ⟨junk, hblk⟩, bcap := by show l.length ≤ _ ∧ _; rw [hl]; exact h.bcap,
          list := h.list.kept hk (Ne.symm n8), hcap := h.hcap, cnt := h.cnt.kept hk (Ne.symm n9),
          hits := h.hits.kept hk (fun b _ h' => h'.ne_of hb.at_ (by decide)) (fun b _ _ h' => h'.ne_of hb.at_ (by decide)) (fun _ hb _ => hb) }
/-- What strikes, and how many deeds since, are written anew. -/
theorem NRep.setHits (h : NRep Q w g gc gb bl bb cc cb Ah ch s) (hk : Kept (fun b => b = bl ∨ b = bb) w w') (hs : List Hit) (since : Nat) (Ah' : Option Addr) (ch' : Nat) (hcap : hs.length ≤ ch' ∧ ch' ≤ maxLen) (hok : ∀ x ∈ hs, HitOk x) (hsi : since ≤ 9223372036854775807)
    (hl : Blk w' bl 44 [.slice Ah' hs.length ch']) (hc : Blk w' bb 3 [.int .i64 (since : Nat)]) (hh : HitsT Q w gc Ah' hs) :
    NRep Q w' g gc gb bl bb cc cb Ah' ch' { s with hits := hs, since := since } := by
  obtain ⟨n1, n2, n3, n4, n5, n6, n7, n8, n9, _⟩ := h.ne
  have hne : ∀ {b : Nat} {t : TypeId}, At w b t → t ≠ 44 → t ≠ 3 → ¬ (b = bl ∨ b = bb) := fun hb h1 h2 hx => by
    rcases hx with hx | hx
    · exact hb.ne_of h.list.at_ h1 hx
    · exact hb.ne_of h.cnt.at_ h2 hx
  exact { low := fun b hb => Nat.lt_of_lt_of_le (h.low b hb) hk.size, ok := { h.ok with hits := hok, since := hsi }, qg := h.qg, qc := h.qc, qb := h.qb, ql := h.ql, qn := h.qn, 
          chip := h.chip.kept hk (hne h.chip.at_ (by decide) (by decide)),
          cells := by obtain ⟨j, hj⟩ := h.cells; exact ⟨j, hj.kept hk (hne hj.at_ (by decide) (by decide))⟩, ccap := h.ccap,
          bads := by obtain ⟨j, hj⟩ := h.bads; exact ⟨j, hj.kept hk (hne hj.at_ (by decide) (by decide))⟩, bcap := h.bcap,
          list := hl, hcap := hcap, cnt := hc,
          hits := hh.kept hk (fun b _ h' => hne h' (by decide) (by decide)) (fun b _ _ h' => hne h' (by decide) (by decide)) (fun _ hb _ => hb) }
end
end Go.Proofs.YtgfdiboaiifdnaaGreat
