/-
  Mathematics of names and paths over lists of bytes (no program): what a name is, parts between strokes, what a text's names are, and that names and paths come back of one another.
-/
import Derived.Test.YtbiihjdjbknibaaRo
import Derived.Lib.Join
import Derived.Lib.Bytealg
namespace Go.Proofs.Ytbiihjdjbknibaa
set_option maxRecDepth 100000

/-- A byte that a name may have. -/
def okB (b : UInt8) : Bool := decide (97 ≤ b.toNat ∧ b.toNat ≤ 122 ∨ 48 ≤ b.toNat ∧ b.toNat ≤ 57 ∨ b.toNat = 46 ∨ b.toNat = 45)
def nameL (l : List UInt8) : Bool := decide (0 < l.length ∧ l.length ≤ 12 ∧ l ≠ [46] ∧ l ≠ [46, 46]) && l.all okB

/-- The parts between strokes. -/
def segs : List UInt8 → List (List UInt8)
  | [] => [[]]
  | c :: r => if c = 47 then [] :: segs r else match segs r with
    | [] => [[c]]
    | h :: t => (c :: h) :: t

theorem segs_ne (l : List UInt8) : segs l ≠ [] := by
  cases l with
  | nil => simp [segs]
  | cons c r =>
    unfold segs
    split
    · simp
    · split <;> simp

theorem segs_all : ∀ (l : List UInt8), (∀ x ∈ l, x ≠ 47) → segs l = [l]
  | [], _ => rfl
  | c :: r, h => by
    unfold segs
    rw [if_neg (h c (by simp)), segs_all r fun x hx => h x (by simp [hx])]

theorem segs_at : ∀ (i : Nat) (l : List UInt8), (∀ j, j < i → l[j]? ≠ some 47) → l[i]? = some 47 → segs l = l.take i :: segs (l.drop (i + 1))
  | i, [], _, h => by simp at h
  | 0, c :: r, _, h => by
    simp at h
    subst h
    conv => lhs; unfold segs
    simp
  | i + 1, c :: r, h0, h => by
    have hc : c ≠ 47 := fun e => h0 0 (by omega) (by simp [e])
    have ih := segs_at i r (fun j hj => by have := h0 (j + 1) (by omega); simpa using this) (by simpa using h)
    conv => lhs; unfold segs
    rw [if_neg hc, ih]
    simp

theorem indexByte_none : ∀ (l : List UInt8) (c : UInt8), Lib.indexByte l c = -1 → ∀ x ∈ l, x ≠ c
  | [], _, _ => by simp
  | b :: l, c, h => by
    unfold Lib.indexByte at h
    have hg := Lib.indexByte_ge l c
    by_cases hb : (b == c) = true
    · simp [hb] at h
    · simp only [hb] at h
      have h1 : Lib.indexByte l c = -1 := by
        by_cases h2 : (Lib.indexByte l c == -1) = true
        · exact beq_iff_eq.1 h2
        · simp [h2] at h
          try omega
      intro x hx
      rcases List.mem_cons.1 hx with rfl | hx
      · intro e; exact hb (by simp [e])
      · exact indexByte_none l c h1 x hx

theorem indexByte_some : ∀ (l : List UInt8) (c : UInt8) (i : Nat), Lib.indexByte l c = i → l[i]? = some c ∧ ∀ j, j < i → l[j]? ≠ some c
  | [], _, i, h => by simp [Lib.indexByte] at h
  | b :: l, c, i, h => by
    unfold Lib.indexByte at h
    have hg := Lib.indexByte_ge l c
    by_cases hb : (b == c) = true
    · simp only [hb, if_true] at h
      obtain rfl : i = 0 := by omega
      exact ⟨by simpa using hb, fun j hj => absurd hj (by omega)⟩
    · simp only [hb] at h
      have hb' : b ≠ c := fun e => hb (by simp [e])
      by_cases h2 : (Lib.indexByte l c == -1) = true
      · simp [h2] at h
        try omega
      · simp only [h2] at h
        have h2' : Lib.indexByte l c ≠ -1 := fun e => h2 (by simp [e])
        have h3 : Lib.indexByte l c = ((i - 1 : Nat) : Int) := by simp at h; omega
        have hi : i = (i - 1) + 1 := by simp at h; omega
        obtain ⟨e1, e2⟩ := indexByte_some l c (i - 1) h3
        rw [hi]
        refine ⟨by simpa using e1, fun j hj => ?_⟩
        rcases j with _ | j
        · simpa using hb'
        · simpa using e2 j (by omega)

/-- What a text's names are; none: it is no path. -/
def pathE (l : List UInt8) : Option (List (List UInt8)) :=
  if l = [47] then some [] else match l with
    | [] => none
    | c :: r => if c = 47 ∧ (segs r).all nameL = true then some (segs r) else none

/-- Parse's error and names. -/
def pE (l : List UInt8) : Nat := match pathE l with
  | none => 2
  | some g => if 6 < g.length then 3 else 0
def pN (l : List UInt8) : List (List UInt8) := if pE l = 0 then (pathE l).getD [] else []

/-- Join's error and path. -/
def jE (g : List (List UInt8)) : Nat := if g.all nameL = true then (if 6 < g.length then 3 else 0) else 2
def jS (g : List (List UInt8)) : List UInt8 := if jE g = 0 then 47 :: Lib.join g [47] else []

/-- Split's error, directory and name. -/
def sE (l : List UInt8) : Nat := if pE l = 0 ∧ pN l = [] then 2 else pE l
def sD (l : List UInt8) : List (List UInt8) := if sE l = 0 then (pN l).dropLast else []
def sN (l : List UInt8) : List UInt8 := if sE l = 0 then (pN l).getLastD [] else []

/-- Is a under b? -/
def uL (a b : List UInt8) : Bool := decide (pE a = 0 ∧ pE b = 0 ∧ (pN b).length < (pN a).length ∧ (pN a).take (pN b).length = pN b)

theorem pE_cases (l : List UInt8) : pE l = 0 ∨ pE l = 2 ∨ pE l = 3 := by
  unfold pE
  split
  · simp
  · split <;> simp
theorem jE_cases (g : List (List UInt8)) : jE g = 0 ∨ jE g = 2 ∨ jE g = 3 := by
  unfold jE
  split
  · split <;> simp
  · simp
theorem sE_cases (l : List UInt8) : sE l = 0 ∨ sE l = 2 ∨ sE l = 3 := by
  unfold sE
  split
  · simp
  · exact pE_cases l

theorem pN_le (l : List UInt8) : (pN l).length ≤ 6 := by
  unfold pN
  split
  · rename_i h
    unfold pE at h
    split at h
    · simp at h
    · rename_i g hg
      rw [hg]
      split at h
      · simp at h
      · simp; omega
  · simp

theorem name_ne {l : List UInt8} (h : nameL l = true) : l ≠ [] ∧ l.length ≤ 12 ∧ ∀ x ∈ l, x ≠ 47 := by
  unfold nameL at h
  simp only [Bool.and_eq_true, decide_eq_true_eq, List.all_eq_true] at h
  refine ⟨fun e => by simp [e] at h, h.1.2.1, fun x hx e => ?_⟩
  have := h.2 x hx
  subst e
  simp [okB] at this

theorem pN_names {l : List UInt8} : (pN l).all nameL = true := by
  unfold pN
  split
  · unfold pathE
    split
    · rfl
    · split
      · rfl
      · split
        · rename_i h; exact h.2
        · rfl
  · rfl

theorem join_segs : ∀ (l : List UInt8), Lib.join (segs l) [47] = l
  | [] => rfl
  | c :: r => by
    have ih := join_segs r
    have hne := segs_ne r
    unfold segs
    cases hs : segs r with
    | nil => exact absurd hs hne
    | cons x t =>
      rw [hs] at ih
      rw [Lib.join_cons] at ih
      split
      · rename_i e
        subst e
        rw [Lib.join_cons]
        simp only [Lib.joinTail, List.map_cons, List.flatten_cons, List.nil_append]
        simp only [Lib.joinTail] at ih
        rw [List.append_assoc, ih]
        rfl
      · simp only [Lib.join_cons, List.cons_append, ih]

theorem segs_append (x r : List UInt8) (h : ∀ y ∈ x, y ≠ 47) : segs (x ++ 47 :: r) = x :: segs r := by
  have := segs_at x.length (x ++ 47 :: r) (fun j hj e => by
    rw [List.getElem?_append_left hj] at e
    exact h _ (List.mem_of_getElem? e) rfl) (by simp)
  rw [this]
  simp

theorem segs_join : ∀ (g : List (List UInt8)), g ≠ [] → (∀ x ∈ g, ∀ y ∈ x, y ≠ 47) → segs (Lib.join g [47]) = g
  | [], h, _ => absurd rfl h
  | [x], _, h => by rw [Lib.join_one]; exact segs_all x (h x (by simp))
  | x :: y :: t, _, h => by
    have ih := segs_join (y :: t) (by simp) fun z hz => h z (by simp [hz])
    rw [Lib.join_cons] at ih ⊢
    have e : x ++ Lib.joinTail [47] (y :: t) = x ++ 47 :: (y ++ Lib.joinTail [47] t) := by simp [Lib.joinTail]
    rw [e, segs_append x _ (h x (by simp)), ih]

/-- A path of its names. -/
theorem path_back {l : List UInt8} (h : pE l = 0) : jE (pN l) = 0 ∧ jS (pN l) = l := by
  have hE : jE (pN l) = 0 := by
    unfold jE
    rw [if_pos pN_names, if_neg (by have := pN_le l; omega)]
  refine ⟨hE, ?_⟩
  unfold jS
  rw [if_pos hE]
  unfold pN
  rw [if_pos h]
  unfold pathE
  unfold pE pathE at h
  split
  · rename_i e; subst e; rfl
  · rename_i hn
    rw [if_neg hn] at h
    cases l with
    | nil => simp at h
    | cons c r =>
      simp only at h ⊢
      split
      · rename_i hc
        obtain ⟨rfl, _⟩ := hc
        simp [join_segs]
      · rename_i hc
        rw [if_neg hc] at h
        simp at h

/-- Names of their path. -/
theorem names_back {g : List (List UInt8)} (h : jE g = 0) : pE (jS g) = 0 ∧ pN (jS g) = g := by
  have h' := h
  unfold jE at h'
  split at h'
  · rename_i hall
    split at h'
    · simp at h'
    · rename_i hlen
      have hJ : jS g = 47 :: Lib.join g [47] := by unfold jS; rw [if_pos h]
      have hP : pathE (jS g) = some g := by
        rw [hJ]
        cases g with
        | nil => rfl
        | cons x r =>
          rw [List.all_eq_true] at hall
          have hx := name_ne (hall x (by simp))
          unfold pathE
          have hs := segs_join (x :: r) (by simp) fun z hz => (name_ne (hall z hz)).2.2
          have hne : Lib.join (x :: r) [47] ≠ [] := by
            rw [Lib.join_cons]
            intro e
            exact hx.1 (List.append_eq_nil_iff.1 e).1
          rw [if_neg (by simpa using hne)]
          simp only [hs]
          rw [if_pos (And.intro (by first | trivial | rfl) (by rw [List.all_eq_true]; exact hall))]
      have hE : pE (jS g) = 0 := by unfold pE; rw [hP]; simp only; rw [if_neg hlen]
      refine ⟨hE, ?_⟩
      unfold pN
      rw [if_pos hE, hP]
      rfl
  · simp at h'

theorem jS_bad {g : List (List UInt8)} (h : jE g ≠ 0) : jS g = [] := by unfold jS; rw [if_neg h]

theorem uL_trans {a b c : List UInt8} (h1 : uL a b = true) (h2 : uL b c = true) : uL a c = true := by
  unfold uL at *
  simp only [decide_eq_true_eq] at *
  obtain ⟨a1, b1, l1, t1⟩ := h1
  obtain ⟨_, c1, l2, t2⟩ := h2
  refine ⟨a1, c1, by omega, ?_⟩
  rw [← t2]
  conv => rhs; rw [← t1]
  rw [List.take_take, t2]
  congr 1
  omega
theorem uL_anti {a b : List UInt8} (h1 : uL a b = true) : uL b a = false := by
  unfold uL at *
  simp only [decide_eq_true_eq, decide_eq_false_iff_not] at *
  omega
theorem uL_irr (a : List UInt8) : uL a a = false := by
  unfold uL
  simp
theorem split_back {a : List UInt8} (h : sE a = 0) : jE (sD a) = 0 ∧ uL a (jS (sD a)) = true := by
  have hs := h
  unfold sE at h
  split at h
  · simp at h
  · rename_i hn
    have hne : pN a ≠ [] := fun e => hn ⟨h, e⟩
    have hD : sD a = (pN a).dropLast := by unfold sD; rw [if_pos hs]
    have hJ : jE (sD a) = 0 := by
      unfold jE
      have hall : (sD a).all nameL = true := by
        rw [hD, List.all_eq_true]
        intro x hx
        exact (List.all_eq_true.1 (pN_names (l := a))) x (List.dropLast_subset _ hx)
      have := pN_le a
      rw [if_pos hall, if_neg (by rw [hD, List.length_dropLast]; omega)]
    refine ⟨hJ, ?_⟩
    obtain ⟨e1, e2⟩ := names_back hJ
    unfold uL
    rw [e1, e2, hD]
    have : 0 < (pN a).length := List.length_pos_iff.2 hne
    simp only [decide_eq_true_eq, List.length_dropLast]
    refine ⟨h, by first | trivial | rfl, by omega, ?_⟩
    rw [List.dropLast_eq_take]

/-- Texts as values. -/
def tx (x : List UInt8) : Value := .string ⟨x.toArray⟩

theorem tx_data (s : ByteArray) : tx s.data.toList = .string s := by unfold tx; rw [Lib.mk_data]
end Go.Proofs.Ytbiihjdjbknibaa
