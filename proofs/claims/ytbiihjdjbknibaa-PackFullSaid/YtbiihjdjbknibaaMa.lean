/-
  Mathematics of facts and of changes (no program): facts in order, what a change makes of them, what is found.
-/
import Derived.Test.YtbiihjdjbknibaaFa
namespace Go.Proofs.Ytbiihjdjbknibaa
set_option maxRecDepth 100000

/-- A fact, a change. -/
structure FT where
  k : KY
  v : List Nat
structure CT where
  k : KY
  v : List Nat
  g : Bool

/-- All keys of l stand behind k. -/
def allB (k : KY) (l : List FT) : Prop := ∀ f ∈ l, befK k f.k = true
def ordF : List FT → Bool
  | [] => true
  | [_] => true
  | f :: h :: r => befK f.k h.k && ordF (h :: r)
theorem ordF_cons {f : FT} {l : List FT} : ordF (f :: l) = true ↔ allB f.k l ∧ ordF l = true := by
  induction l generalizing f with
  | nil => simp [ordF, allB]
  | cons h r ih =>
    simp only [ordF, Bool.and_eq_true]
    constructor
    · rintro ⟨h1, h2⟩
      refine ⟨fun x hx => ?_, h2⟩
      rcases List.mem_cons.1 hx with rfl | hx
      · exact h1
      · exact befK_trans h1 ((ih.1 h2).1 x hx)
    · rintro ⟨h1, h2⟩
      exact ⟨h1 h (by simp), h2⟩
theorem ordF_append {a b : List FT} : ordF (a ++ b) = true ↔ ordF a = true ∧ ordF b = true ∧ ∀ f ∈ a, allB f.k b := by
  induction a with
  | nil => simp [ordF]
  | cons x a ih =>
    rw [List.cons_append, ordF_cons, ih, ordF_cons]
    constructor
    · rintro ⟨h1, h2, h3, h4⟩
      refine ⟨⟨fun f hf => h1 f (List.mem_append_left _ hf), h2⟩, h3, fun f hf => ?_⟩
      rcases List.mem_cons.1 hf with rfl | hf
      · exact fun y hy => h1 y (List.mem_append_right _ hy)
      · exact h4 f hf
    · rintro ⟨⟨h1, h2⟩, h3, h4⟩
      refine ⟨fun f hf => ?_, h2, h3, fun f hf => h4 f (List.mem_cons_of_mem _ hf)⟩
      rcases List.mem_append.1 hf with hf | hf
      · exact h1 f hf
      · exact h4 x (by simp) f hf

/-- What is found. -/
def findF : List FT → KY → Option (List Nat)
  | [], _ => none
  | f :: r, k => if f.k = k then some f.v else findF r k
theorem findF_none {l : List FT} {k : KY} (h : ∀ f ∈ l, f.k ≠ k) : findF l k = none := by
  induction l with
  | nil => rfl
  | cons f r ih =>
    unfold findF
    rw [if_neg (h f (by simp))]
    exact ih fun x hx => h x (by simp [hx])
theorem findF_append (a b : List FT) (k : KY) : findF (a ++ b) k = (findF a k).or (findF b k) := by
  induction a with
  | nil => rfl
  | cons f r ih =>
    simp only [List.cons_append, findF]
    split
    · rfl
    · exact ih
theorem ne_of_bef {a b : KY} (h : befK a b = true) : a ≠ b := fun e => by rw [e, befK_irr] at h; cases h
/-- Facts in order in which the same is found are the same. -/
theorem ord_ext : ∀ {a b : List FT}, ordF a = true → ordF b = true → (∀ k, findF a k = findF b k) → a = b
  | [], [], _, _, _ => rfl
  | [], y :: b, _, _, h => by
    have := h y.k
    simp [findF] at this
  | x :: a, [], _, _, h => by
    have := h x.k
    simp [findF] at this
  | x :: a, y :: b, ha, hb, h => by
    obtain ⟨a1, a2⟩ := ordF_cons.1 ha
    obtain ⟨b1, b2⟩ := ordF_cons.1 hb
    have hk : x.k = y.k := by
      rcases befK_tri x.k y.k with h1 | h1 | h1
      · exfalso
        have := h x.k
        rw [show findF (x :: a) x.k = some x.v from if_pos rfl] at this
        rw [findF_none (l := y :: b)] at this
        · cases this
        · intro f hf
          rcases List.mem_cons.1 hf with rfl | hf
          · exact (ne_of_bef h1).symm
          · exact (ne_of_bef (befK_trans h1 (b1 f hf))).symm
      · exact h1
      · exfalso
        have := h y.k
        rw [show findF (y :: b) y.k = some y.v from if_pos rfl] at this
        rw [findF_none (l := x :: a)] at this
        · cases this
        · intro f hf
          rcases List.mem_cons.1 hf with rfl | hf
          · exact (ne_of_bef h1).symm
          · exact (ne_of_bef (befK_trans h1 (a1 f hf))).symm
    have hv : x.v = y.v := by
      have := h x.k
      rw [show findF (x :: a) x.k = some x.v from if_pos rfl, hk, show findF (y :: b) y.k = some y.v from if_pos rfl] at this
      injection this
    have hr : a = b := by
      refine ord_ext a2 b2 fun k => ?_
      have := h k
      unfold findF at this
      by_cases e : x.k = k
      · rw [findF_none (l := a) fun f hf => e ▸ (ne_of_bef (a1 f hf)).symm, findF_none (l := b) fun f hf => e ▸ hk ▸ (ne_of_bef (b1 f hf)).symm]
      · rw [if_neg e, if_neg (hk ▸ e)] at this
        exact this
    cases x; cases y
    simp only at hk hv
    rw [hk, hv, hr]

/-- What a change makes of facts in order. -/
def updF (l : List FT) (c : CT) : List FT := l.filter (fun f => befK f.k c.k) ++ ((if c.g then [] else [⟨c.k, c.v⟩]) ++ l.filter (fun f => befK c.k f.k))
theorem ord_filter {l : List FT} (p : FT → Bool) (h : ordF l = true) : ordF (l.filter p) = true := by
  induction l with
  | nil => rfl
  | cons f r ih =>
    obtain ⟨h1, h2⟩ := ordF_cons.1 h
    rw [List.filter_cons]
    split
    · exact ordF_cons.2 ⟨fun x hx => h1 x (List.mem_filter.1 hx).1, ih h2⟩
    · exact ih h2
theorem ord_upd {l : List FT} (c : CT) (h : ordF l = true) : ordF (updF l c) = true := by
  unfold updF
  refine ordF_append.2 ⟨ord_filter _ h, ?_, fun f hf => ?_⟩
  · split
    · simpa using ord_filter _ h
    · exact ordF_cons.2 ⟨fun x hx => by have := (List.mem_filter.1 hx).2; simpa using this, ord_filter _ h⟩
  · have hfc : befK f.k c.k = true := by have := (List.mem_filter.1 hf).2; simpa using this
    intro x hx
    rcases List.mem_append.1 hx with hx | hx
    · split at hx
      · cases hx
      · simp only [List.mem_cons, List.not_mem_nil, or_false] at hx
        subst hx
        exact hfc
    · have : befK c.k x.k = true := by have := (List.mem_filter.1 hx).2; simpa using this
      exact befK_trans hfc this
theorem find_filter {l : List FT} {p : FT → Bool} {k : KY} (h : ∀ f : FT, f.k = k → p f = true) : findF (l.filter p) k = findF l k := by
  induction l with
  | nil => rfl
  | cons f r ih =>
    rw [List.filter_cons]
    by_cases e : f.k = k
    · rw [if_pos (h f e)]
      simp only [findF]
      rw [if_pos e, if_pos e]
    · simp only [findF]
      rw [if_neg e]
      split
      · simp only [findF]
        rw [if_neg e]
        exact ih
      · exact ih
theorem find_filter_no {l : List FT} {p : FT → Bool} {k : KY} (h : ∀ f : FT, f.k = k → p f = false) : findF (l.filter p) k = none := by
  refine findF_none fun f hf e => ?_
  have := (List.mem_filter.1 hf).2
  rw [h f e] at this
  cases this
theorem find_upd (l : List FT) (c : CT) (k : KY) : findF (updF l c) k = if c.k = k then (if c.g then none else some c.v) else findF l k := by
  unfold updF
  rw [findF_append, findF_append]
  by_cases e : c.k = k
  · rw [if_pos e]
    subst e
    rw [find_filter_no (fun f hf => by rw [hf]; exact befK_irr _), find_filter_no (fun f hf => by rw [hf]; exact befK_irr _)]
    cases c.g
    · simp [findF]
    · simp [findF]
  · rw [if_neg e]
    have hm : findF (if c.g then [] else [⟨c.k, c.v⟩]) k = none := by
      split
      · rfl
      · simp [findF, e]
    rw [hm]
    rcases befK_tri c.k k with h | h | h
    · rw [find_filter_no (fun f hf => by rw [hf]; exact befK_anti h), find_filter (fun f hf => by rw [hf]; exact h)]
      rfl
    · exact absurd h e
    · rw [find_filter (fun f hf => by rw [hf]; exact h), find_filter_no (fun f hf => by rw [hf]; exact befK_anti h)]
      simp

/-- All the changes, one behind the other. -/
def apF (l : List FT) (cs : List CT) : List FT := cs.foldl updF l
theorem ord_ap {l : List FT} (cs : List CT) (h : ordF l = true) : ordF (apF l cs) = true := by
  induction cs generalizing l with
  | nil => exact h
  | cons c cs ih => exact ih (ord_upd c h)
/-- The last change of a key. -/
def lastC : List CT → KY → Option CT
  | [], _ => none
  | c :: r, k => (lastC r k).or (if c.k = k then some c else none)
theorem find_ap (l : List FT) (cs : List CT) (k : KY) : findF (apF l cs) k = match lastC cs k with
    | some c => if c.g then none else some c.v
    | none => findF l k := by
  induction cs generalizing l with
  | nil => rfl
  | cons c cs ih =>
    show findF (apF (updF l c) cs) k = _
    rw [ih]
    have hl : lastC (c :: cs) k = (lastC cs k).or (if c.k = k then some c else none) := rfl
    rw [hl]
    cases h : lastC cs k with
    | some d => rfl
    | none =>
      rw [Option.none_or]
      simp only
      rw [find_upd]
      by_cases e : c.k = k
      · rw [if_pos e, if_pos e]
      · rw [if_neg e, if_neg e]
/-- Changes of which each key's last one is the same make the same. -/
theorem ap_same {l : List FT} {cs ds : List CT} (h : ordF l = true) (he : ∀ k, lastC cs k = lastC ds k) : apF l cs = apF l ds :=
  ord_ext (ord_ap cs h) (ord_ap ds h) fun k => by rw [find_ap, find_ap, he k]
end Go.Proofs.Ytbiihjdjbknibaa
