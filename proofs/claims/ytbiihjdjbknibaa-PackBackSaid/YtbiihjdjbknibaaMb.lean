/-
  Facts in memory: a list that is read, a list of the call's own; what stands at a place.
-/
import Derived.Test.YtbiihjdjbknibaaFl
import Derived.Test.YtbiihjdjbknibaaMa
import Derived.Test.YtbiihjdjbknibaaRo
namespace Go.Proofs.Ytbiihjdjbknibaa
set_option maxRecDepth 100000
open Go.RowKit

/-- A fact as it lies: its value's address and room. -/
structure FE where
  f : FT
  A : Option Addr
  c : Nat
def FE.cells (e : FE) : List Value := kcells e.f.k ++ [.slice e.A e.f.v.length e.c]
def fes : List FE → List Value
  | [] => []
  | e :: r => e.cells ++ fes r
theorem fe_len (e : FE) : e.cells.length = 5 := rfl
theorem fes_len : ∀ (es : List FE), (fes es).length = es.length * 5
  | [] => rfl
  | e :: r => by simp only [fes, List.length_append, fe_len, fes_len r, List.length_cons]; omega
theorem fes_append : ∀ (a b : List FE), fes (a ++ b) = fes a ++ fes b
  | [], b => rfl
  | e :: a, b => by simp only [List.cons_append, fes, fes_append a b, List.append_assoc]
theorem fes_at : ∀ (es : List FE) (i j : Nat) (e : FE) (u : Value), es[i]? = some e → j < 5 → e.cells[j]? = some u → (fes es)[i * 5 + j]? = some u
  | [], i, j, e, u, h, _, _ => by simp at h
  | x :: r, 0, j, e, u, h, hj, hu => by
    simp at h
    subst h
    simp only [fes, Nat.zero_mul, Nat.zero_add]
    rw [List.getElem?_append_left (by rw [fe_len]; exact hj)]
    exact hu
  | x :: r, i + 1, j, e, u, h, hj, hu => by
    simp only [fes]
    rw [List.getElem?_append_right (by rw [fe_len]; omega), fe_len, show (i + 1) * 5 + j - 5 = i * 5 + j by omega]
    exact fes_at r i j e u (by simpa using h) hj hu
theorem fes_take (es : List FE) (k : Nat) : fes (es.take k) = (fes es).take (k * 5) := by
  induction es generalizing k with
  | nil => simp [fes]
  | cons e r ih =>
    cases k with
    | zero => simp [fes]
    | succ k =>
      simp only [List.take_succ_cons, fes, ih]
      rw [List.take_append, fe_len, show (k + 1) * 5 - 5 = k * 5 by omega, List.take_of_length_le (l := e.cells) (by rw [fe_len]; omega)]
theorem fes_drop (es : List FE) (k : Nat) : fes (es.drop k) = (fes es).drop (k * 5) := by
  induction es generalizing k with
  | nil => simp [fes]
  | cons e r ih =>
    cases k with
    | zero => simp
    | succ k =>
      simp only [List.drop_succ_cons, fes, ih]
      rw [List.drop_append, fe_len, show (k + 1) * 5 - 5 = k * 5 by omega, List.drop_of_length_le (l := e.cells) (by rw [fe_len]; omega)]
      rfl

/-- Its value reads as it should, and is not too large. -/
def EOk (w : World) (e : FE) : Prop := Bts w e.A e.f.v.length e.f.v ∧ (e.A = none → e.c = 0 ∧ e.f.v.length = 0) ∧ e.f.v.length ≤ 140737488351232 ∧ e.f.k.n.size ≤ maxLen
/-- The slice (A, n) reads as the facts es. -/
def FIn (w : World) (A : Option Addr) (n : Nat) (es : List FE) : Prop := RowV w A n 5 (fes es) ∧ ∀ e ∈ es, EOk w e
/-- .. of the call's own, from block B on. -/
def FOwn (w : World) (B : Nat) (A : Option Addr) (c : Nat) (es : List FE) : Prop :=
  OwnV w 27 5 B A es.length c (fes es) ∧ ∀ e ∈ es, OwnB w 5 B e.A e.c e.f.v ∧ e.f.v.length ≤ 140737488351232 ∧ e.f.k.n.size ≤ maxLen

section
variable {S : Nat → Prop} {w w' : World} {A : Option Addr} {n c B : Nat} {es : List FE}
theorem EOk.kept {e : FE} (h : EOk w e) (hk : Kept S w w') (hn : ∀ a, e.A = some a → ¬ S a.block) : EOk w' e := ⟨h.1.kept hk hn, h.2⟩
theorem FIn.new (h : FIn w A n es) (hk : New w w') : FIn w' A n es := ⟨h.1.new hk, fun e he => (h.2 e he).kept hk fun _ _ f => f⟩
theorem FIn.len (h : FIn w A n es) : es.length = n := by have := h.1.1; rw [fes_len] at this; omega
theorem FIn.drewN (h : FIn w A n es) (q : Nat) : FIn (w.drewN q) A n es := h.new ((Kept.refl _ _).drewN q)
theorem FIn.nil (w : World) (A : Option Addr) : FIn w A 0 [] := ⟨RowV.nil w A 5, by simp⟩
theorem FOwn.nil (w : World) (B : Nat) : FOwn w B none 0 [] := ⟨OwnV.nil _ _ _ _, by simp⟩
theorem FOwn.new (h : FOwn w B A c es) (hk : New w w') : FOwn w' B A c es := ⟨h.1.new hk, fun e he => ⟨(h.2 e he).1.new hk, (h.2 e he).2⟩⟩
theorem FOwn.in_ (h : FOwn w B A c es) : FIn w A es.length es := by
  refine ⟨h.1.row, fun e he => ?_⟩
  obtain ⟨h1, h2, h3⟩ := h.2 e he
  refine ⟨h1.bts, fun hA => ?_, h2, h3⟩
  rcases h1.2 with ⟨_, e1, e2⟩ | ⟨g, sp, e1, _⟩
  · exact ⟨e1, by rw [e2]; rfl⟩
  · rw [hA] at e1; cases e1
theorem FIn.cut {k : Nat} (h : FIn w A n es) (hk : k ≤ n) (hc : n ≤ c) : FIn w (if c = k then A else A.map (·.add (k * 5))) (n - k) (es.drop k) := by
  have hl := h.len
  obtain ⟨⟨h1, h2⟩, h3⟩ := h
  refine ⟨⟨by rw [fes_len, List.length_drop]; omega, fun h0 => ?_⟩, fun e he => h3 e (List.mem_of_mem_drop he)⟩
  obtain ⟨g, o, rfl, hat⟩ := h2 (by omega)
  rw [if_neg (by omega)]
  refine ⟨g, o + k * 5, by simp [Addr.add_lit], fun j x hx => ?_⟩
  rw [fes_drop, List.getElem?_drop] at hx
  rw [Nat.add_assoc]
  exact hat _ _ hx
theorem FIn.take {k : Nat} (h : FIn w A n es) (hk : k ≤ n) : FIn w A k (es.take k) := by
  have hl := h.len
  obtain ⟨⟨h1, h2⟩, h3⟩ := h
  refine ⟨⟨by rw [fes_len, List.length_take]; congr 1; omega, fun h0 => ?_⟩, fun e he => h3 e (List.mem_of_mem_take he)⟩
  obtain ⟨g, o, rfl, hat⟩ := h2 (by omega)
  refine ⟨g, o, rfl, fun j x hx => hat j x ?_⟩
  rw [fes_take, List.getElem?_take] at hx
  split at hx
  · exact hx
  · cases hx
/-- What stands at a place. -/
theorem FIn.at_ {i : Nat} (h : FIn w A n es) (hi : i < n) : ∃ (g o : Nat) (e : FE), A = some ⟨g, o, none⟩ ∧ es[i]? = some e ∧ EOk w e ∧
    w.cell? ⟨g, o + i * 5, none⟩ = some (.int .i64 e.f.k.i) ∧ w.cell? ⟨g, o + i * 5 + 1, none⟩ = some (.int .u8 (e.f.k.t : Nat)) ∧ w.cell? ⟨g, o + i * 5 + 2, none⟩ = some (.string e.f.k.n) ∧
    w.cell? ⟨g, o + i * 5 + 3, none⟩ = some (.int .i64 e.f.k.c) ∧ w.cell? ⟨g, o + i * 5 + 4, none⟩ = some (.slice e.A e.f.v.length e.c) := by
  have hl := h.len
  obtain ⟨⟨h1, h2⟩, h3⟩ := h
  obtain ⟨g, o, rfl, hat⟩ := h2 (by omega)
  have hi' : i < es.length := by omega
  have he : es[i]? = some es[i] := List.getElem?_eq_getElem hi'
  have key : ∀ j u, j < 5 → es[i].cells[j]? = some u → w.cell? ⟨g, o + i * 5 + j, none⟩ = some u := fun j u hj hu => by
    rw [Nat.add_assoc]
    exact hat _ _ (fes_at es i j _ u he hj hu)
  exact ⟨g, o, es[i], rfl, he, h3 _ (List.getElem_mem hi'), key 0 _ (by omega) rfl, key 1 _ (by omega) rfl, key 2 _ (by omega) rfl, key 3 _ (by omega) rfl, key 4 _ (by omega) rfl⟩
end

/-- The facts alone. -/
def fts (es : List FE) : List FT := es.map (·.f)
theorem fts_lenE (es : List FE) : (fts es).length = es.length := by unfold fts; rw [List.length_map]

/-- Before answers, wherever it is asked. -/
theorem ord_at {l : List FT} (h : ordF l = true) {i j : Nat} {x y : FT} (hi : l[i]? = some x) (hj : l[j]? = some y) (hij : i < j) : befK x.k y.k = true := by
  induction l generalizing i j with
  | nil => simp at hi
  | cons f r ih =>
    obtain ⟨h1, h2⟩ := ordF_cons.1 h
    cases j with
    | zero => omega
    | succ j =>
      have hj' : r[j]? = some y := by simpa using hj
      cases i with
      | zero =>
        simp at hi
        subst hi
        exact h1 y (List.mem_of_getElem? hj')
      | succ i => exact ih h2 (by simpa using hi) hj' (by omega)
/-- Is each ahead of the next one, up to the place k? -/
theorem ord_upto {l : List FT} {k : Nat} {x y : FT} (h : ordF (l.take (k + 1)) = true) (hx : l[k]? = some x) (hy : l[k + 1]? = some y) : ordF (l.take (k + 2)) = befK x.k y.k := by
  have e : l.take (k + 2) = l.take (k + 1) ++ [y] := by rw [List.take_add_one, hy]; rfl
  cases hb : befK x.k y.k with
  | true =>
    rw [e]
    refine ordF_append.2 ⟨h, rfl, fun f hf => ?_⟩
    intro z hz
    simp only [List.mem_cons, List.not_mem_nil, or_false] at hz
    subst hz
    obtain ⟨i, hi⟩ := List.mem_iff_getElem?.1 hf
    have hil : i < k + 1 := by
      have := (List.getElem?_eq_some_iff.1 hi).1
      rw [List.length_take] at this
      omega
    have hxk : (l.take (k + 1))[k]? = some x := by rw [List.getElem?_take, if_pos (by omega), hx]
    rcases Nat.lt_or_ge i k with hik | hik
    · exact befK_trans (ord_at h hi hxk hik) hb
    · rw [show i = k by omega, hxk] at hi
      injection hi with hi
      rw [← hi]
      exact hb
  | false =>
    cases ho : ordF (l.take (k + 2)) with
    | false => rfl
    | true =>
      have := ord_at ho (i := k) (j := k + 1) (x := x) (y := y) (by rw [List.getElem?_take, if_pos (by omega), hx]) (by rw [List.getElem?_take, if_pos (by omega), hy]) (by omega)
      rw [hb] at this
      cases this
theorem ord_take {l : List FT} (h : ordF l = true) (k : Nat) : ordF (l.take k) = true := by
  have := List.take_append_drop k l
  rw [← this] at h
  exact (ordF_append.1 h).1
end Go.Proofs.Ytbiihjdjbknibaa
