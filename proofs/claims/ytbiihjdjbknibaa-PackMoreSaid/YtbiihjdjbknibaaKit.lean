/-
  Words of our own for memory, over any program: what a call leaves as it was (Kept), a block that is known whole (Blk), a list of bytes behind a slice (Bts), a row of bytes that a call made (OwnB), append onto such a row, and the last step of a law's row from 'only new memory was written'.
-/
import Derived.WalkKit
import Derived.ProofKit
import Derived.OpenShut
import Derived.Maps.AppendAt
import Derived.Deep.Draws
import Derived.Deep.QuietTactic
import Derived.BigQuiet
import Derived.Lib.Hide
namespace Go.Proofs.Ytbiihjdjbknibaa
set_option maxRecDepth 100000
open Go.RowKit

/-- Blocks that were there, but for those in S, are as they were; what runs outside too. -/
structure Kept (S : Nat → Prop) (w w' : World) : Prop where
  os : w'.os = w.os
  tape : w'.tape = w.tape
  output : w'.output = w.output
  size : w.heap.size ≤ w'.heap.size
  block : ∀ k, k < w.heap.size → ¬ S k → w'.heap[k]? = w.heap[k]?

/-- Nothing that was there has turned. -/
abbrev New (w w' : World) : Prop := Kept (fun _ => False) w w'

section
variable {S S' : Nat → Prop} {a b c w w' : World}
theorem Kept.refl (S : Nat → Prop) (w : World) : Kept S w w := ⟨rfl, rfl, rfl, Nat.le_refl _, fun _ _ _ => rfl⟩
theorem Kept.mono (h : Kept S w w') (hs : ∀ k, k < w.heap.size → S k → S' k) : Kept S' w w' :=
  ⟨h.os, h.tape, h.output, h.size, fun k hk hn => h.block k hk (fun hS => hn (hs k hk hS))⟩
theorem Kept.trans (h : Kept S a b) (k : Kept S' b c) (hs : ∀ i, i < a.heap.size → S' i → S i) : Kept S a c :=
  ⟨k.os.trans h.os, k.tape.trans h.tape, k.output.trans h.output, Nat.le_trans h.size k.size,
    fun i hi hn => (k.block i (Nat.lt_of_lt_of_le hi h.size) (fun h' => hn (hs i hi h'))).trans (h.block i hi hn)⟩
theorem Kept.new (h : Kept S a b) (k : New b c) : Kept S a c := h.trans k fun _ _ f => f.elim
theorem Kept.drew (h : Kept S a w) : Kept S a w.drew := ⟨h.os, h.tape, h.output, h.size, h.block⟩
theorem Kept.drewN (h : Kept S a w) (n : Nat) : Kept S a (w.drewN n) := ⟨h.os, h.tape, h.output, h.size, h.block⟩
theorem Kept.of_drewN {n : Nat} (h : Kept S (w.drewN n) w') : Kept S w w' := ⟨h.os, h.tape, h.output, h.size, h.block⟩
theorem Kept.alloc (h : Kept S a w) (o : Obj) : Kept S a (w.alloc o) :=
  h.trans (S' := S) ⟨rfl, rfl, rfl, by simp, fun k hk _ => Below.heap_alloc _ _ _ hk⟩ fun _ _ x => x
theorem Kept.setCell (h : Kept S a w) {p : Addr} (hp : p.block < a.heap.size → S p.block) (u : Value) : Kept S a (w.setCell p u) :=
  ⟨h.os, h.tape, h.output, by simpa [World.setCell] using h.size, fun i hi hn => (Below.heap_setCell w p u i (by rintro rfl; exact hn (hp hi))).trans (h.block i hi hn)⟩
theorem Kept.set1 (w : World) (g i : Nat) (u : Value) : Kept (· = g) w (w.setCell ⟨g, i, none⟩ u) := (Kept.refl (· = g) w).setCell (p := ⟨g, i, none⟩) (fun _ => rfl) u
theorem Kept.grown {row : Option Nat} (h : Kept S a w) (hg : w.grownBy w' row) (hr : ∀ k, k < a.heap.size → row = some k → S k) : Kept S a w' :=
  h.trans (S' := fun k => row = some k) ⟨hg.os, hg.tape, hg.output, hg.size, fun k hk hn => hg.block k hk (fun e => hn e.symm)⟩ hr
theorem Kept.below (h : New w w') : Below w.heap.size w w' := ⟨h.os, h.tape, h.output, h.size, fun k hk => h.block k hk id⟩
theorem New.of_below (h : Below w.heap.size w w') : New w w' := ⟨h.os, h.tape, h.output, h.size, fun k hk _ => h.block k hk⟩
theorem Kept.cell (h : Kept S w w') {p : Addr} {v : Value} (hc : w.cell? p = some v) (hn : ¬ S p.block) : w'.cell? p = some v :=
  (World.cell?_of_block (h.block _ (World.block_lt_of_cell? w p hc) hn)).trans hc
end

/-- Block g is just the cells cs, of element type t, none frozen. -/
def Blk (w : World) (g : Nat) (t : TypeId) (cs : List Value) : Prop := w.heap[g]? = some (.cells cs.toArray t (0, 0))

section
variable {S : Nat → Prop} {w w' : World} {g : Nat} {t : TypeId} {cs : List Value}
theorem Blk.lt (h : Blk w g t cs) : g < w.heap.size := by
  rcases Nat.lt_or_ge g w.heap.size with hlt | hge
  · exact hlt
  · unfold Blk at h; rw [Array.getElem?_eq_none hge] at h; cases h
theorem Blk.cell (h : Blk w g t cs) (i : Nat) : w.cell? ⟨g, i, none⟩ = cs[i]? := by
  rw [cell_of_row w g i cs.toArray t (0, 0) h]; simp
theorem Blk.free (h : Blk w g t cs) (i : Nat) : w.frozen? ⟨g, i, none⟩ = false := by
  unfold Blk at h
  simp [World.frozen?, h]
theorem Blk.made (w : World) (t : TypeId) (cs : Array Value) : Blk (w.alloc (.cells cs t)) w.heap.size t cs.toList := by
  unfold Blk; simpa using heap_alloc_new w (.cells cs t)
theorem Blk.drew (h : Blk w g t cs) : Blk w.drew g t cs := h
theorem Blk.drewN (h : Blk w g t cs) (n : Nat) : Blk (w.drewN n) g t cs := h
theorem Blk.kept (h : Blk w g t cs) (hk : Kept S w w') (hn : ¬ S g) : Blk w' g t cs := (hk.block g h.lt hn).trans h
theorem Blk.alloc (h : Blk w g t cs) (o : Obj) : Blk (w.alloc o) g t cs := (Below.heap_alloc w o g h.lt).trans h
theorem Blk.put (h : Blk w g t cs) (i : Nat) (u : Value) : Blk (w.setCell ⟨g, i, none⟩ u) g t (cs.set i u) := by
  unfold Blk at h ⊢
  simp [World.setCell, Array.getElem?_modify, h]
theorem Blk.ne_of {g' : Nat} {t' : TypeId} {cs' : List Value} (h : Blk w g t cs) (h' : Blk w g' t' cs') (hne : t ≠ t') : g ≠ g' := by
  rintro rfl
  unfold Blk at h h'
  rw [h] at h'
  injection h' with h'
  injection h' with _ ht
  exact hne ht
end

/-- The element type of block g. -/
def At (w : World) (g : Nat) (t : TypeId) : Prop := ∃ cs fr, w.heap[g]? = some (.cells cs t fr)
section
variable {S : Nat → Prop} {w w' : World} {g g' : Nat} {t t' : TypeId} {cs : List Value}
theorem At.lt (h : At w g t) : g < w.heap.size := by
  obtain ⟨cs, fr, h⟩ := h
  rcases Nat.lt_or_ge g w.heap.size with hlt | hge
  · exact hlt
  · rw [Array.getElem?_eq_none hge] at h; cases h
theorem Blk.at_ (h : Blk w g t cs) : At w g t := ⟨_, _, h⟩
theorem At.ne_of (h : At w g t) (h' : At w g' t') (hne : t ≠ t') : g ≠ g' := by
  rintro rfl
  obtain ⟨_, _, h⟩ := h; obtain ⟨_, _, h'⟩ := h'
  rw [h] at h'
  injection h' with h'
  injection h' with _ ht
  exact hne ht
theorem At.kept (h : At w g t) (hk : Kept S w w') (hn : ¬ S g) : At w' g t := by
  obtain ⟨cs, fr, e⟩ := h
  exact ⟨cs, fr, (hk.block g (At.lt ⟨cs, fr, e⟩) hn).trans e⟩
end

def byt (x : Nat) : Value := .int .u8 (x : Int)

/-- The slice (A, n, _) reads as the bytes l. -/
def Bts (w : World) (A : Option Addr) (n : Nat) (l : List Nat) : Prop :=
  l.length = n ∧ (∀ x ∈ l, x < 256) ∧ (0 < n → ∃ g o : Nat, A = some ⟨g, o, none⟩ ∧ ∀ (j x : Nat), l[j]? = some x → w.cell? ⟨g, o + j, none⟩ = some (.int .u8 (x : Int)))

section
variable {S : Nat → Prop} {w w' : World} {A : Option Addr} {n : Nat} {l : List Nat}
theorem Bts.nil (w : World) (A : Option Addr) : Bts w A 0 [] := ⟨rfl, by simp, fun h => absurd h (by omega)⟩
theorem Bts.drew (h : Bts w A n l) : Bts w.drew A n l := h
theorem Bts.drewN (h : Bts w A n l) (k : Nat) : Bts (w.drewN k) A n l := h
theorem Bts.at_ {k : Nat} (h : Bts w A n l) (hk : k < n) : ∃ g o x, A = some ⟨g, o, none⟩ ∧ l[k]? = some x ∧ x < 256 ∧ w.cell? ⟨g, o + k, none⟩ = some (.int .u8 (x : Int)) := by
  obtain ⟨hl, hb, hc⟩ := h
  obtain ⟨g, o, e, hc⟩ := hc (by omega)
  have hk' : k < l.length := by omega
  exact ⟨g, o, l[k], e, List.getElem?_eq_getElem hk', hb _ (List.getElem_mem hk'), hc _ _ (List.getElem?_eq_getElem hk')⟩
theorem Bts.kept (h : Bts w A n l) (hk : Kept S w w') (hn : ∀ a, A = some a → ¬ S a.block) : Bts w' A n l := by
  obtain ⟨hl, hb, hc⟩ := h
  refine ⟨hl, hb, fun h0 => ?_⟩
  obtain ⟨g, o, e, hc⟩ := hc h0
  exact ⟨g, o, e, fun j x hx => hk.cell (hc j x hx) (show ¬ S g from hn _ e)⟩
theorem Bts.new (h : Bts w A n l) (hk : New w w') : Bts w' A n l := h.kept hk fun _ _ f => f
theorem Bts.cut {k c : Nat} (h : Bts w A n l) (hk : k ≤ n) (hc : n ≤ c) : Bts w (if c = k then A else A.map (·.add k)) (n - k) (l.drop k) := by
  obtain ⟨hl, hb, hcell⟩ := h
  refine ⟨by simp [hl], fun x hx => hb x (List.mem_of_mem_drop hx), fun h0 => ?_⟩
  obtain ⟨g, o, rfl, hat⟩ := hcell (by omega)
  rw [if_neg (by omega)]
  refine ⟨g, o + k, by simp [Addr.add_lit], fun j x hx => ?_⟩
  rw [List.getElem?_drop] at hx
  have := hat _ _ hx
  rwa [Nat.add_assoc]
theorem Bts.take {k : Nat} (h : Bts w A n l) (hk : k ≤ n) : Bts w A k (l.take k) := by
  obtain ⟨hl, hb, hcell⟩ := h
  refine ⟨by simp; omega, fun x hx => hb x (List.mem_of_mem_take hx), fun h0 => ?_⟩
  obtain ⟨g, o, rfl, hat⟩ := hcell (by omega)
  refine ⟨g, o, rfl, fun j x hx => hat j x ?_⟩
  rw [List.getElem?_take] at hx
  split at hx
  · exact hx
  · cases hx
end

/-- A row of bytes that the call made itself: from block B on, whole, with its spare room. -/
def OwnB (w : World) (t : TypeId) (B : Nat) (A : Option Addr) (c : Nat) (l : List Nat) : Prop :=
  (∀ x ∈ l, x < 256) ∧ ((A = none ∧ c = 0 ∧ l = []) ∨
    ∃ g sp, A = some ⟨g, 0, none⟩ ∧ B ≤ g ∧ Blk w g t ((l ++ sp).map byt) ∧ (∀ x ∈ sp, x < 256) ∧ c = l.length + sp.length ∧ c ≤ maxLen)

section
variable {S : Nat → Prop} {w w' : World} {t : TypeId} {B B' : Nat} {A : Option Addr} {c : Nat} {l : List Nat}
theorem OwnB.nil (w : World) (t : TypeId) (B : Nat) : OwnB w t B none 0 [] := ⟨by simp, .inl ⟨rfl, rfl, rfl⟩⟩
theorem OwnB.drewN (h : OwnB w t B A c l) (k : Nat) : OwnB (w.drewN k) t B A c l := h
theorem OwnB.bts (h : OwnB w t B A c l) : Bts w A l.length l := by
  obtain ⟨hb, h⟩ := h
  refine ⟨rfl, hb, fun h0 => ?_⟩
  rcases h with ⟨rfl, rfl, rfl⟩ | ⟨g, sp, rfl, hB, hblk, _, _, _⟩
  · exact absurd h0 (by simp)
  · refine ⟨g, 0, rfl, fun j x hx => ?_⟩
    rw [hblk.cell]
    have hj : j < l.length := (List.getElem?_eq_some_iff.1 hx).1
    rw [Nat.zero_add, List.map_append, List.getElem?_append_left (by simpa using hj), List.getElem?_map, hx]
    rfl
theorem OwnB.at_ (h : OwnB w t B A c l) : ∀ a, A = some a → At w a.block t ∧ B ≤ a.block := by
  rintro a rfl
  rcases h.2 with ⟨h, _⟩ | ⟨g, sp, h, hB, hblk, _, _, _⟩
  · cases h
  · injection h with h; subst h; exact ⟨hblk.at_, hB⟩
theorem OwnB.le (h : OwnB w t B A c l) : l.length ≤ c ∧ c ≤ maxLen := by
  rcases h.2 with ⟨rfl, rfl, rfl⟩ | ⟨g, sp, rfl, hB, hblk, _, h1, h2⟩
  · simp
  · omega
theorem OwnB.mono (h : OwnB w t B A c l) (hB : B' ≤ B) : OwnB w t B' A c l := by
  obtain ⟨hb, h⟩ := h
  refine ⟨hb, ?_⟩
  rcases h with h | ⟨g, sp, h1, h2, h3⟩
  · exact .inl h
  · exact .inr ⟨g, sp, h1, by omega, h3⟩
theorem OwnB.kept (h : OwnB w t B A c l) (hk : Kept S w w') (hn : ∀ a, A = some a → ¬ S a.block) : OwnB w' t B A c l := by
  obtain ⟨hb, h⟩ := h
  refine ⟨hb, ?_⟩
  rcases h with h | ⟨g, sp, rfl, hB, hblk, h4⟩
  · exact .inl h
  · exact .inr ⟨g, sp, rfl, hB, hblk.kept hk (hn _ rfl), h4⟩
theorem OwnB.new (h : OwnB w t B A c l) (hk : New w w') : OwnB w' t B A c l := h.kept hk fun _ _ f => f
end

theorem Bts.one (w : World) (t : TypeId) (x g : Nat) (hx : x < 256) (hg : g = w.heap.size) : Bts (w.alloc (.cells #[.int .u8 (x : Int)] t)) (some ⟨g, 0, none⟩) 1 [x] := by
  subst hg
  refine ⟨rfl, by simpa using hx, fun _ => ⟨_, 0, rfl, fun j y hy => ?_⟩⟩
  match j, hy with
  | 0, hy =>
    simp at hy
    subst hy
    exact (Blk.made w t #[.int .u8 (x : Int)]).cell 0
theorem OwnB.of_blk {w : World} {t : TypeId} {g B : Nat} {l sp : List Nat} {c : Nat} (h : Blk w g t ((l ++ sp).map byt)) (hB : B ≤ g) (hb : ∀ x ∈ l ++ sp, x < 256) (hc : c = l.length + sp.length) (hm : c ≤ maxLen) :
    OwnB w t B (some ⟨g, 0, none⟩) c l :=
  ⟨fun x hx => hb x (List.mem_append_left _ hx), .inr ⟨g, sp, rfl, hB, h, fun x hx => hb x (List.mem_append_right _ hx), hc, hm⟩⟩
theorem zeros_lt {n : Nat} : ∀ x ∈ List.replicate n 0, x < 256 := fun x hx => by have := List.eq_of_mem_replicate hx; omega

section
variable {P : Program} (w : World)

theorem zeros_u8 (k : Nat) : Builtin.zeroCells (Value.cells (.int .u8 0)) k = ((List.replicate k 0).map byt).toArray := by
  simp [Builtin.zeroCells, Value.cells, byt]
  apply Array.ext
  · simp
  · intro i h1 h2; simp [Nat.mod_one]

/-- append onto a row of the call's own, what is appended nil, empty or not. -/
theorem run_append_bytes (t ty e : TypeId) (i : TypeInfo) (ht : P.underlying t = some (.slice e)) (hi : P.info? e = some i) (hz : i.zero = some (.int .u8 0)) (hs : i.size = 1) (hby : i.bytes = 1)
    (B : Nat) (A : Option Addr) (c : Nat) (l : List Nat) (hown : OwnB w e B A c l) (A' : Option Addr) (m c' : Nat) (k : List Nat) (hr : Bts w A' m k)
    (hbytes : l.length + m ≤ 140737488355328) (hbase : B ≤ w.heap.size) (n : Nat) (hn : n = l.length) :
    ∃ A2 c2 w', (Builtin.append_ #[t, t] ty #[.slice A n c, .slice A' m c']).run P w = .ok (.slice A2 (n + m) c2) w' ∧ OwnB w' e B A2 c2 (l ++ k) ∧ w.grownBy w' (A.map (·.block)) ∧
      (A2 = A ∨ A2 = some ⟨w.heap.size, 0, none⟩) := by
  subst hn
  obtain ⟨hb, hown⟩ := hown
  obtain ⟨hlen, hkb, hkc⟩ := hr
  have hb2 : ∀ x ∈ l ++ k, x < 256 := by
    intro x hx
    rcases List.mem_append.1 hx with h | h
    · exact hb x h
    · exact hkb x h
  have hgrown : ∀ old, l.length + m ≤ grownCap w (l.length + m) old e ∧ grownCap w (l.length + m) old e ≤ maxLen := fun old =>
    ⟨grownCap_ge w _ old e, grownCap_le_maxLen w _ old e (by unfold maxLen; omega)⟩
  by_cases hm : m = 0
  · subst hm
    have : k = [] := List.eq_nil_of_length_eq_zero hlen
    subst this
    refine ⟨A, c, w, ?_, ⟨by simpa using hb, by simpa using hown⟩, ⟨rfl, rfl, rfl, Nat.le_refl _, fun _ _ _ => rfl⟩, .inl rfl⟩
    rcases hown with ⟨rfl, rfl, rfl⟩ | ⟨g, sp, rfl, hB, hblk, _, h1, h2⟩
    · rcases A' with _ | a
      · simp [Builtin.append_, run_underlying ht, sizeOf, typeInfo, hi, Builtin.lenOf, Builtin.firstCells]
      · simp [Builtin.append_, run_underlying ht, sizeOf, typeInfo, hi, Builtin.lenOf, Builtin.firstCells, loadCells, loadCellsFrom]
    · have hle : l.length ≤ c := by omega
      rcases A' with _ | a
      · simp [Builtin.append_, run_underlying ht, sizeOf, typeInfo, hi, Builtin.lenOf, Builtin.firstCells, hle, storeCells]
      · simp [Builtin.append_, run_underlying ht, sizeOf, typeInfo, hi, Builtin.lenOf, Builtin.firstCells, hle, storeCells, loadCells, loadCellsFrom]
  · obtain ⟨gs, os, rfl, hcell⟩ := hkc (by omega)
    have hnews : ∀ j v, (k.map byt)[j]? = some v → w.cell? ((⟨gs, os, none⟩ : Addr).add j) = some v := by
      intro j v hv
      rw [List.getElem?_map] at hv
      obtain ⟨x, hx, rfl⟩ := Option.map_eq_some_iff.1 hv
      have := hcell j x hx
      rw [← Addr.add_lit] at this
      exact this
    have hl' : (k.map byt).length = m * i.size := by simp [hs, hlen]
    rcases hown with ⟨rfl, rfl, rfl⟩ | ⟨g, sp, rfl, hB, hblk, hsp, h1, h2⟩
    · have hr := run_append_nil (P := P) w t ty e i (.int .u8 0) ht hi hz ⟨gs, os, none⟩ m c' (k.map byt) hl' hnews (by omega) (by simp at hbytes; omega) (by rw [hby]; simp at hbytes; omega)
      obtain ⟨hg1, hg2⟩ := hgrown 0
      simp only [List.length_nil, Nat.zero_add] at hg1 hg2
      refine ⟨some ⟨w.heap.size, 0, none⟩, _, w.drew.alloc (.cells ((k.map byt).toArray ++ Builtin.zeroCells (Value.cells (.int .u8 0)) (grownCap w m 0 e - m)) e), by simpa [hlen] using hr, ⟨hb2, .inr ⟨w.heap.size, List.replicate (grownCap w m 0 e - m) 0, rfl, hbase, ?_, ?_, ?_, hg2⟩⟩, ⟨rfl, rfl, rfl, by simp, fun q hq _ => Below.heap_alloc w.drew _ q hq⟩, .inr rfl⟩
      · have := Blk.made w.drew e ((k.map byt).toArray ++ Builtin.zeroCells (Value.cells (.int .u8 0)) (grownCap w m 0 e - m))
        rw [zeros_u8] at this ⊢
        simpa using this
      · intro x hx; have := List.eq_of_mem_replicate hx; omega
      · simp [hlen]; omega
    · by_cases hroom : l.length + m ≤ c
      · have hfit : l.length * i.size + (k.map byt).length ≤ (((l ++ sp).map byt).toArray).size := by simp [hs, hlen]; omega
        have h1c : ∀ u ∈ k.map byt, u.oneCell' = true := by
          intro u hu
          obtain ⟨x, _, rfl⟩ := List.mem_map.1 hu
          rfl
        have hr := run_append_room (P := P) w t ty e i ht hi g l.length c (((l ++ sp).map byt).toArray) hblk ⟨gs, os, none⟩ m c' (k.map byt) hl' hnews h1c hroom hfit
        refine ⟨_, _, _, hr, ⟨hb2, .inr ⟨g, sp.drop m, rfl, hB, ?_, fun x hx => hsp x (List.mem_of_mem_drop hx), by simp; omega, h2⟩⟩,
          ⟨rfl, rfl, rfl, by simp, fun q _ hq => setRow_other w g q _ (fun e => hq (by simp [e]))⟩, .inl rfl⟩
        have := setRow_heap w g (((l ++ sp).map byt).toArray) ((((l ++ sp).map byt).toArray.toList.take (l.length * i.size) ++ k.map byt ++ ((l ++ sp).map byt).toArray.toList.drop (l.length * i.size + (k.map byt).length)).toArray) e (0, 0) hblk
        unfold Blk
        rw [this]
        congr 2
        apply Array.ext'
        simp [hs, hlen, List.drop_append]
      · have holds : ∀ j v, (l.map byt)[j]? = some v → w.cell? ((⟨g, 0, none⟩ : Addr).add j) = some v := by
          intro j v hv
          rw [Addr.add_lit, Nat.zero_add, hblk.cell, List.map_append]
          have hj : j < (l.map byt).length := (List.getElem?_eq_some_iff.1 hv).1
          rw [List.getElem?_append_left hj, hv]
        have hr := run_append_grow (P := P) w t ty e i (.int .u8 0) ht hi hz ⟨g, 0, none⟩ l.length c (l.map byt) (by simp [hs]) holds ⟨gs, os, none⟩ m c' (k.map byt) hl' hnews (by omega) (by omega)
          (growslice_fits (by omega) (by rw [hby]; omega))
        obtain ⟨hg1, hg2⟩ := hgrown c
        refine ⟨_, _, _, hr, ⟨hb2, .inr ⟨w.heap.size, List.replicate (grownCap w (l.length + m) c e - (l.length + m)) 0, rfl, hbase, ?_, ?_, ?_, hg2⟩⟩, ⟨rfl, rfl, rfl, by simp, fun q hq _ => Below.heap_alloc w.drew _ q hq⟩, .inr rfl⟩
        · have := Blk.made w.drew e ((l.map byt).toArray ++ (k.map byt).toArray ++ Builtin.zeroCells (Value.cells (.int .u8 0)) (grownCap w (l.length + m) c e - (l.length + m)))
          rw [zeros_u8] at this ⊢
          simpa using this
        · intro x hx; have := List.eq_of_mem_replicate hx; omega
        · simp [hlen]; omega

/-- The same at the operation of a walk. -/
theorem wpList_append_bytes {ops : Array Oper} {rest : List Oper} {o : Oper} {a : Act} {Q : Exit → Act → World → Prop} (hgd : o.guard = none) (s x : Operand) (t : TypeId)
    (ho : o.op = .call { callee := .builtin .append, args := #[s, x], argTypes := #[t, t] })
    (e : TypeId) (i : TypeInfo) (ht : P.underlying t = some (.slice e)) (hi : P.info? e = some i) (hz : i.zero = some (.int .u8 0)) (hs : i.size = 1) (hby : i.bytes = 1)
    (B : Nat) (A : Option Addr) (n c : Nat) (l : List Nat) (hsv : a.eval s = .slice A n c) (hown : OwnB w e B A c l) (hn : n = l.length)
    (A' : Option Addr) (m c' : Nat) (k : List Nat) (hx : a.eval x = .slice A' m c') (hr : Bts w A' m k)
    (hbytes : l.length + m ≤ 140737488355328) (hbase : B ≤ w.heap.size)
    (h : ∀ A2 c2 w', OwnB w' e B A2 c2 (l ++ k) → w.grownBy w' (A.map (·.block)) → (A2 = A ∨ A2 = some ⟨w.heap.size, 0, none⟩) → wpList P ops Q rest (a.put o.dst (.slice A2 (n + m) c2)) w') :
    wpList P ops Q (o :: rest) a w := by
  refine wpList_plain hgd fun _ hK => ?_
  obtain ⟨A2, c2, w', hrun, h2, h3, h4⟩ := run_append_bytes (P := P) w t o.type e i ht hi hz hs hby B A c l hown A' m c' k hr hbytes hbase n hn
  unfold Oper.wp execOp
  simp only [ho, resolve, invoke, builtin, Sem.run_bind, Sem.run_pure, Result.andThen_ok, List.map_toArray, List.map_cons, List.map_nil, hsv, hx, hrun]
  exact hK _ _ (h A2 c2 w' h2 h3 h4)
end

theorem made_u8 (n : Nat) : madeCells (Value.cells (.int .u8 0)) n = ((List.replicate n 0).map byt).toArray := by
  simp [madeCells, Value.cells, byt]
  apply Array.ext
  · simp
  · intro i h1 h2; simp [Nat.mod_one]

/-- Bytes as a block's cells. -/
def rawB (l : List Nat) : Array Value := (l.map byt).toArray
theorem Blk.madeB (w : World) (t : TypeId) (l : List Nat) : Blk (w.alloc (.cells (rawB l) t)) w.heap.size t (l.map byt) := heap_alloc_new w _

theorem Bts.lit (w : World) (t : TypeId) (fr : Nat × Nat) (l : List Nat) (hb : ∀ x ∈ l, x < 256) (n : Nat) (hn : n = l.length) : Bts (w.alloc (.cells (rawB l) t fr)) (some ⟨w.heap.size, 0, none⟩) n l := by
  subst hn
  refine ⟨rfl, hb, fun _ => ⟨_, 0, rfl, fun j x hx => ?_⟩⟩
  rw [cell_of_row _ w.heap.size (0 + j) (rawB l) t fr (heap_alloc_new w _)]
  simp [rawB, hx, byt]

theorem run_make_bytes {P : Program} (t e : TypeId) (i : TypeInfo) (ht : P.underlying t = some (.slice e)) (hi : P.info? e = some i) (hz : i.zero = some (.int .u8 0)) (hs : i.size = 1) (hby : i.bytes = 1)
    (kl kc : IntKind) (L C : Int) (n c : Nat) (hL : L = n) (hC : C = c) (hnc : n ≤ c) (hb : c ≤ 281474976710656) (u : World) :
    (Instr.makeSlice t (.int kl L) (.int kc C)).run P u = .ok (.slice (some ⟨u.heap.size, 0, none⟩) n c) (u.alloc (.cells (rawB (List.replicate c 0)) e)) := by
  subst hL hC
  have h := run_make (P := P) u t e i (.int .u8 0) ht hi hz kl kc n c (by omega) (by omega) (by rw [hby]; omega) (by omega)
  simp only [Int.toNat_natCast] at h
  rw [h, hs, Nat.mul_one, made_u8]
  rfl

theorem ret_bool {a b : Bool} (h : a = b) : Ending.returned (.bool a) = .returned (.bool b) := by rw [h]

section
open Go.WideShapes Go.ChangeShapes
variable {H : Type} {enc : TypeId × Value → H} {P : Program}
/-- The last step of a law's row where only new memory was written: one bool comes back, what was handed in reads as it did. -/
theorem post_of_new {f : Func} {s : ChangeSpec} {W W' : World} {args : Array Value} {v : Value} {ds gs : List (DataW H)} {before pa : List MemPlace}
    (hW : DataW.Whole enc P f.params.toList s.vars false W args.toList ds gs before)
    (hres : ∀ (b : Nat) (sp : Nat → Bool) (hd : Bool), DataW.TrodAll enc P W' b sp hd f.resultTypes.toList (v.resultList f.resultTypes.size) (s.fn H (ds ++ gs)).results [])
    (hargs : ∀ sp : Nat → Bool, (∀ p ∈ before, sp p.block = true) → DataW.TrodAll enc P W' 0 sp true f.params.toList args.toList (s.fn H (ds ++ gs)).args pa)
    (hvars : ∀ sp : Nat → Bool, (∀ p ∈ before, sp p.block = true) → DataW.TrodVars enc P W' sp s.vars (s.fn H (ds ++ gs)).vars [])
    (hps : before = pa) (hb : New W W') :
    s.post enc P f false true false false W args v W' := by
  subst hps
  have hold : ∀ p ∈ before, (fun b => decide (b < W.heap.size)) p.block = true := fun p hp => by simpa using hW.lt p hp
  refine ⟨ds, gs, before, [], before, [], hW, hres _ _ _, hargs _ hold, hvars _ hold, World.keptBut_mono (fun p hp => ⟨hp, ?_⟩) (hb.below.frame (· ∈ before)), fun h => by cases h⟩
  exact Or.inr (Or.inl hp)
end
end Go.Proofs.Ytbiihjdjbknibaa
