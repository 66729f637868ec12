/-
  Contracts over lists of facts: are they in order; where a key stands.
  Contracts over lists of facts: where a key stands; what is found.
  Contracts over lists of facts: what is found.
  The block that a row lies in.
  Contracts over lists of facts: facts appended, with values of their own.
  Contracts over lists of facts: are they the same.
  Changes in memory: a list that is read, a list of the call's own; a copy of it.
-/
import Derived.Test.YtbiihjdjbknibaaMb
import Derived.Lib.QuietBelow
import Derived.Test.YtbiihjdjbknibaaKit
import Derived.Deep.RegionLaw
namespace Go.Proofs.Ytbiihjdjbknibaa

section
set_option maxRecDepth 100000
open Go.RowKit

theorem before_new (a b : KY) (r : Bool) (h : befK a b = r) (u : World) :
    Calls Try.prog 60 #[.agg #[.int .i64 a.i, .int .u8 (a.t : Nat), .string a.n, .int .i64 a.c], .agg #[.int .i64 b.i, .int .u8 (b.t : Nat), .string b.n, .int .i64 b.c]] u fun e w' => e = .returned (.bool r) ∧ Below u.heap.size u w' :=
  (before_any a b u).mono fun e w' hh => ⟨by rw [hh.1, h], hh.2.below⟩

theorem new_regrown {w wr : World} (h : New w wr) (d : Nat) (os : Array Obj) : New w (Go.Sort.grow (redrawn wr d) os) := h.new (New.of_below (below_regrown wr d os))

end

section
set_option maxRecDepth 100000
open Go.RowKit

/-- At which place a key's fact stands, or would; does it stand there? -/
def plN (l : List FT) (k : KY) : Nat := (l.takeWhile fun f => befK f.k k).length
def plB (l : List FT) (k : KY) : Bool := match l[plN l k]? with
  | some x => decide (x.k = k)
  | none => false

theorem plN_le (l : List FT) (k : KY) : plN l k ≤ l.length := by
  unfold plN
  induction l with
  | nil => simp
  | cons f r ih => rw [List.takeWhile_cons]; split <;> simp <;> omega
theorem plN_iff {l : List FT} (h : ordF l = true) (k : KY) {i : Nat} {x : FT} (hx : l[i]? = some x) : befK x.k k = decide (i < plN l k) := by
  induction l generalizing i with
  | nil => simp at hx
  | cons f r ih =>
    obtain ⟨h1, h2⟩ := ordF_cons.1 h
    unfold plN
    rw [List.takeWhile_cons]
    cases hf : befK f.k k with
    | true =>
      simp only [if_true, List.length_cons]
      cases i with
      | zero =>
        simp at hx
        subst hx
        rw [hf]
        simp
      | succ i =>
        rw [ih h2 (by simpa using hx)]
        unfold plN
        simp
    | false =>
      simp only [Bool.false_eq_true, if_false, List.length_nil, Nat.not_lt_zero, decide_false]
      cases i with
      | zero =>
        simp at hx
        subst hx
        exact hf
      | succ i =>
        cases hb : befK x.k k with
        | false => rfl
        | true => rw [befK_trans (h1 x (List.mem_of_getElem? (by simpa using hx))) hb] at hf; cases hf

def PlP (w : World) (l : List FT) (k : KY) (e : Ending) (w' : World) : Prop := e = .returned (.tuple #[.int .i64 (plN l k : Nat), .bool (plB l k)]) ∧ New w w'

end

section
set_option maxRecDepth 100000
open Go.RowKit

theorem findF_at : ∀ {l : List FT} {k : KY} {i : Nat} {x : FT}, l[i]? = some x → x.k = k → (∀ j y, j < i → l[j]? = some y → y.k ≠ k) → findF l k = some x.v
  | [], _, _, _, h, _, _ => by simp at h
  | f :: r, k, 0, x, h, hk, _ => by
    simp at h
    subst h
    unfold findF
    rw [if_pos hk]
  | f :: r, k, i + 1, x, h, hk, hn => by
    unfold findF
    rw [if_neg (hn 0 f (by omega) rfl)]
    exact findF_at (by simpa using h) hk fun j y hj hy => hn (j + 1) y (by omega) (by simpa using hy)
theorem find_pl {l : List FT} (h : ordF l = true) (k : KY) : findF l k = if plB l k = true then (l[plN l k]?).map (·.v) else none := by
  by_cases hb : plB l k = true
  · rw [if_pos hb]
    unfold plB at hb
    cases hx : l[plN l k]? with
    | none => rw [hx] at hb; cases hb
    | some x =>
      rw [hx] at hb
      exact findF_at hx (of_decide_eq_true hb) fun j y hj hy e => by
        have := plN_iff h k hy
        rw [e, befK_irr] at this
        exact absurd (of_decide_eq_false this.symm) (by omega)
  · rw [if_neg hb]
    refine findF_none fun f hf e => hb ?_
    obtain ⟨i, hi⟩ := List.mem_iff_getElem?.1 hf
    have h1 := plN_iff h k hi
    rw [e, befK_irr] at h1
    have h2 : ¬ i < plN l k := of_decide_eq_false h1.symm
    unfold plB
    rcases Nat.lt_or_ge (plN l k) i with hlt | hge
    · have hpl : plN l k < l.length := by have := (List.getElem?_eq_some_iff.1 hi).1; omega
      have hx : l[plN l k]? = some l[plN l k] := List.getElem?_eq_getElem hpl
      have h3 := ord_at h hx hi hlt
      rw [e] at h3
      rw [plN_iff h k hx] at h3
      exact absurd (of_decide_eq_true h3) (by omega)
    · rw [show plN l k = i by omega, hi]
      exact decide_eq_true e

def findR (l : List FT) (k : KY) : Option (List Nat) := if ordF l = true then findF l k else none
/-- What Find answers, and leaves. -/
def FndP (w : World) (l : List FT) (k : KY) (e : Ending) (w' : World) : Prop :=
  ∃ A c, e = .returned (.tuple #[.slice A ((findR l k).getD []).length c, .bool (findR l k).isSome]) ∧ OwnB w' 5 w.heap.size A c ((findR l k).getD []) ∧ New w w'

end

section
set_option maxRecDepth 100000

/-- The block that a row lies in. -/
def InRow (A : Option Addr) (b : Nat) : Prop := ∃ a, A = some a ∧ a.block = b

end

section
set_option maxRecDepth 100000
open Go.RowKit

theorem info_fact : (Try.prog.info? 27).map (fun i => (i.zero, i.size, i.bytes)) = some (some (.agg #[.int .i64 0, .int .u8 0, .string ⟨#[]⟩, .int .i64 0, .slice none 0 0]), 5, 64) := by kernel_rfl

/-- One fact more behind a row of the call's own, at a step of a region that draws. -/
theorem step_append_fact {w wb : World} {ops : Array Oper} {o : Oper} {a : Act} {K : Act → World → Prop} {Q : Exit → Act → World → Prop} {E : Prop} (hgd : o.guard = none) (s x : Operand)
    (ho : o.op = .call { callee := .builtin .append, args := #[s, x], argTypes := #[22, 22] })
    (B : Nat) (A : Option Addr) (k ch : Nat) (vs : List Value) (hsv : a.eval s = .slice A k ch) (hown : OwnV wb 27 5 B A k ch vs) (hk : New wb w)
    (g c' : Nat) (us : List Value) (hx : a.eval x = .slice (some ⟨g, 0, none⟩) 1 c') (hb : Blk w g 27 us) (hul : us.length = 5) (h1 : ∀ u ∈ us, u.oneCell' = true) (hn : (k + 1) * 64 ≤ 140737488355328) (hbase : B ≤ wb.heap.size)
    (h : ∀ A2 c2 w', Hid (OwnV w' 27 5 B A2 (k + 1) c2 (vs ++ us)) → Hid (Kept (InRow A) wb w') → Hid (A2 = A ∨ ∃ y, A2 = some y ∧ wb.heap.size ≤ y.block) → Hid (Kept (InRow A) w w') → K (a.put o.dst (.slice A2 (k + 1) c2)) w') :
    if Region.wanted o (yielded ops a.tmps) = true then Oper.wp Try.prog o a w K Q else E := by
  obtain ⟨i0, hi, hz0, hz1, hz2⟩ := info_parts info_fact
  have hr : RowV w (some ⟨g, 0, none⟩) 1 i0.size us := by
    rw [hz1]
    exact ⟨by rw [hul], fun _ => ⟨g, 0, rfl, fun j v hj => by rw [Nat.zero_add, hb.cell]; exact hj⟩⟩
  have ho' : OwnV w 27 i0.size B A k ch vs := by rw [hz1]; exact hown.new hk
  refine step_append_rowV w hgd s x 22 ho 27 i0 (.agg #[.int .i64 0, .int .u8 0, .string ⟨#[]⟩, .int .i64 0, .slice none 0 0]) Try.underlying22 hi hz0 (by rw [hz1]; rfl) (by rw [hz1]; omega) B A k ch vs hsv ho' (some ⟨g, 0, none⟩) 1 c' us hx hr h1 (by rw [hz2]; omega) (by omega) (Nat.le_trans hbase hk.size) ?_
  intro A2 c2 w' h3 h4 h5
  refine h A2 c2 w' (by have := h3.out; rw [hz1] at this; exact this) ?_ ?_ ?_
  · refine (hk.mono (S' := InRow A) fun _ _ f => f.elim).grown h4.out fun q _ hA => ?_
    obtain ⟨a, ha, e⟩ := Option.map_eq_some_iff.1 hA
    exact ⟨a, ha, e⟩
  · rcases h5.out with e | e
    · exact .inl e
    · exact .inr ⟨_, e, hk.size⟩
  · refine (Kept.refl (InRow A) w).grown h4.out fun q _ hA => ?_
    obtain ⟨a, ha, e⟩ := Option.map_eq_some_iff.1 hA
    exact ⟨a, ha, e⟩

/-- What own answers, and leaves. -/
def OwnFP (w : World) (B : Nat) (Ao : Option Addr) (eo : List FE) (l : List FT) (e : Ending) (w' : World) : Prop :=
  ∃ A2 c2 es2, e = .returned (.slice A2 (eo.length + l.length) c2) ∧ fts es2 = l ∧ FOwn w' B A2 c2 (eo ++ es2) ∧ Kept (InRow Ao) w w' ∧ (∀ a, A2 = some a → InRow Ao a.block ∨ w.heap.size ≤ a.block)

theorem fts_len (es : List FE) : (fts es).length = es.length := by unfold fts; rw [List.length_map]
theorem fts_append (a b : List FE) : fts (a ++ b) = fts a ++ fts b := by unfold fts; rw [List.map_append]

/-- One fact more. -/
theorem FOwn.more {w5 w7 : World} {B k : Nat} {A A2 : Option Addr} {c c2 : Nat} {es : List FE} {x : FT} {A4 : Option Addr} {c4 : Nat} (h : FOwn w5 B A c es) (o4 : OwnB w7 5 B A4 c4 x.v)
    (hx : x.v.length ≤ 140737488351232 ∧ x.k.n.size ≤ maxLen) (k7 : Kept (InRow A) w5 w7) (hk : es.length = k)
    (o7 : OwnV w7 27 5 B A2 (k + 1) c2 (fes es ++ [.int .i64 x.k.i, .int .u8 (x.k.t : Nat), .string x.k.n, .int .i64 x.k.c, .slice A4 x.v.length c4])) : FOwn w7 B A2 c2 (es ++ [⟨x, A4, c4⟩]) := by
  refine ⟨?_, fun e he => ?_⟩
  · rw [List.length_append, fes_append, hk]
    exact o7
  · rcases List.mem_append.1 he with he | he
    · obtain ⟨h1, h2⟩ := h.2 e he
      refine ⟨h1.kept k7 fun a ha hr => ?_, h2⟩
      obtain ⟨b, hb, e2⟩ := hr
      exact (h1.at_ a ha).1.ne_of (e2 ▸ (h.1.at_ b hb).1) (by decide) rfl
    · simp only [List.mem_cons, List.not_mem_nil, or_false] at he
      subst he
      exact ⟨o4, hx⟩

end

section
set_option maxRecDepth 100000
open Go.RowKit

theorem ft_eq {a b : FT} (h1 : a.k = b.k) (h2 : a.v = b.v) : a = b := by cases a; cases b; simp_all
instance : DecidableEq FT := fun a b => decidable_of_iff (a.k = b.k ∧ a.v = b.v) ⟨fun h => ft_eq h.1 h.2, fun h => by rw [h]; exact ⟨rfl, rfl⟩⟩

end

section
set_option maxRecDepth 100000
open Go.RowKit

theorem info_change : (Try.prog.info? 78).map (fun i => (i.zero, i.size, i.bytes)) = some (some (.agg #[.int .i64 0, .int .u8 0, .string ⟨#[]⟩, .int .i64 0, .slice none 0 0, .bool false]), 6, 72) := by kernel_rfl

/-- A change as it lies: its value's address and room. -/
structure CE where
  f : CT
  A : Option Addr
  c : Nat
def CE.cells (e : CE) : List Value := kcells e.f.k ++ [.slice e.A e.f.v.length e.c, .bool e.f.g]
def ces : List CE → List Value
  | [] => []
  | e :: r => e.cells ++ ces r
theorem ce_len (e : CE) : e.cells.length = 6 := rfl
theorem ces_len : ∀ (es : List CE), (ces es).length = es.length * 6
  | [] => rfl
  | e :: r => by simp only [ces, List.length_append, ce_len, ces_len r, List.length_cons]; omega
theorem ces_append : ∀ (a b : List CE), ces (a ++ b) = ces a ++ ces b
  | [], b => rfl
  | e :: a, b => by simp only [List.cons_append, ces, ces_append a b, List.append_assoc]
theorem ces_at : ∀ (es : List CE) (i j : Nat) (e : CE) (u : Value), es[i]? = some e → j < 6 → e.cells[j]? = some u → (ces es)[i * 6 + j]? = some u
  | [], i, j, e, u, h, _, _ => by simp at h
  | x :: r, 0, j, e, u, h, hj, hu => by
    simp at h
    subst h
    simp only [ces, Nat.zero_mul, Nat.zero_add]
    rw [List.getElem?_append_left (by rw [ce_len]; exact hj)]
    exact hu
  | x :: r, i + 1, j, e, u, h, hj, hu => by
    simp only [ces]
    rw [List.getElem?_append_right (by rw [ce_len]; omega), ce_len, show (i + 1) * 6 + j - 6 = i * 6 + j by omega]
    exact ces_at r i j e u (by simpa using h) hj hu
theorem ces_one : ∀ (es : List CE), ∀ u ∈ ces es, u.oneCell' = true
  | [], u, h => by simp [ces] at h
  | e :: r, u, h => by
    rcases List.mem_append.1 h with h | h
    · simp [CE.cells, kcells] at h
      rcases h with rfl | rfl | rfl | rfl | rfl | rfl <;> rfl
    · exact ces_one r u h

/-- Its value reads as it should, and is not too large. -/
def COk (w : World) (e : CE) : Prop := Bts w e.A e.f.v.length e.f.v ∧ (e.A = none → e.c = 0 ∧ e.f.v.length = 0) ∧ e.f.v.length ≤ 140737488351232 ∧ e.f.k.n.size ≤ maxLen
/-- The slice (A, n) reads as the changes es. -/
def CIn (w : World) (A : Option Addr) (n : Nat) (es : List CE) : Prop := RowV w A n 6 (ces es) ∧ ∀ e ∈ es, COk w e

section
variable {S : Nat → Prop} {w w' : World} {A : Option Addr} {n c B : Nat} {es : List CE}
theorem COk.kept {e : CE} (h : COk w e) (hk : Kept S w w') (hn : ∀ a, e.A = some a → ¬ S a.block) : COk w' e := ⟨h.1.kept hk hn, h.2⟩
theorem COk.new {e : CE} (h : COk w e) (hk : New w w') : COk w' e := h.kept hk fun _ _ f => f
theorem CIn.new (h : CIn w A n es) (hk : New w w') : CIn w' A n es := ⟨h.1.new hk, fun e he => (h.2 e he).new hk⟩
theorem CIn.len (h : CIn w A n es) : es.length = n := by have := h.1.1; rw [ces_len] at this; omega
theorem CIn.drewN (h : CIn w A n es) (q : Nat) : CIn (w.drewN q) A n es := h.new ((Kept.refl _ _).drewN q)
theorem CIn.nil (w : World) (A : Option Addr) : CIn w A 0 [] := ⟨RowV.nil w A 6, by simp⟩
/-- What stands at a place. -/
theorem rowC_at {i : Nat} (h : RowV w A n 6 (ces es)) (hi : i < n) : ∃ (g o : Nat) (e : CE), A = some ⟨g, o, none⟩ ∧ es[i]? = some e ∧
    w.cell? ⟨g, o + i * 6, none⟩ = some (.int .i64 e.f.k.i) ∧ w.cell? ⟨g, o + i * 6 + 1, none⟩ = some (.int .u8 (e.f.k.t : Nat)) ∧ w.cell? ⟨g, o + i * 6 + 2, none⟩ = some (.string e.f.k.n) ∧
    w.cell? ⟨g, o + i * 6 + 3, none⟩ = some (.int .i64 e.f.k.c) ∧ w.cell? ⟨g, o + i * 6 + 4, none⟩ = some (.slice e.A e.f.v.length e.c) ∧ w.cell? ⟨g, o + i * 6 + 5, none⟩ = some (.bool e.f.g) := by
  have hl : es.length = n := by have := h.1; rw [ces_len] at this; omega
  obtain ⟨h1, h2⟩ := h
  obtain ⟨g, o, rfl, hat⟩ := h2 (by omega)
  have hi' : i < es.length := by omega
  have he : es[i]? = some es[i] := List.getElem?_eq_getElem hi'
  have key : ∀ j u, j < 6 → es[i].cells[j]? = some u → w.cell? ⟨g, o + i * 6 + j, none⟩ = some u := fun j u hj hu => by
    rw [Nat.add_assoc]
    exact hat _ _ (ces_at es i j _ u he hj hu)
  exact ⟨g, o, es[i], rfl, he, key 0 _ (by omega) rfl, key 1 _ (by omega) rfl, key 2 _ (by omega) rfl, key 3 _ (by omega) rfl, key 4 _ (by omega) rfl, key 5 _ (by omega) rfl⟩
end

/-- The changes alone. -/
def cts (es : List CE) : List CT := es.map (·.f)
theorem cts_append (a b : List CE) : cts (a ++ b) = cts a ++ cts b := by unfold cts; rw [List.map_append]
theorem cts_len (es : List CE) : (cts es).length = es.length := by unfold cts; rw [List.length_map]

/-- What slices.Clone answers, and leaves. -/
def RetC (w : World) (n : Nat) (es : List CE) (e : Ending) (w' : World) : Prop :=
  ∃ A c, e = .returned (.slice A n c) ∧ OwnV w' 78 6 w.heap.size A n c (ces es) ∧ New w w'

end

end Go.Proofs.Ytbiihjdjbknibaa
