/-
  Facts cut into pages, over lists (no program): where a page ends, what follows of it.
-/
import Derived.Test.YtbiihjdjbknibaaJm
import Derived.Test.YtbiihjdjbknibaaJf
import Derived.Test.YtbiihjdjbknibaaOc
namespace Go.Proofs.Ytbiihjdjbknibaa
set_option maxRecDepth 100000

/-- A fact as a change. -/
def toC (f : FT) : CT := ⟨f.k, f.v, false⟩
/-- May a fact be a page's? -/
def mayF (f : FT) : Bool := mayK f.k && decide (1 ≤ f.v.length ∧ f.v.length ≤ 255)
/-- How many bytes it takes. -/
def costF (f : FT) : Nat := if mayK f.k = true then 2 + (keyB f.k).length + f.v.length else 0
def sumC : List FT → Nat
  | [] => 0
  | f :: r => costF f + sumC r
/-- One fact more: pages that are full, and what the next one has. -/
def ctS (room : Nat) (s : List (List FT) × List FT) (f : FT) : List (List FT) × List FT := if room < sumC s.2 + costF f then (s.1 ++ [s.2], [f]) else (s.1, s.2 ++ [f])
def ctK (room : Nat) (l : List FT) (k : Nat) : List (List FT) × List FT := (l.take k).foldl (ctS room) ([], [])
def parts (room : Nat) (l : List FT) : List (List FT) := if l = [] then [] else (ctK room l l.length).1 ++ [(ctK room l l.length).2]
/-- Where pages end. -/
def eds : Nat → List (List FT) → List Nat
  | _, [] => []
  | b, p :: r => (b + p.length) :: eds (b + p.length) r
def fits (room : Nat) (l : List FT) : Bool := l.all fun f => decide (costF f ≤ room)
def paOk (z : Int) (l : List FT) : Bool := decide (isPg z) && (ordF l && l.all mayF)
def paE (z : Int) (l : List FT) : Int := if paOk z l = true then (if fits (z - 6).toNat l = true then 0 else 3) else 2
def paP (z : Int) (l : List FT) : List (List FT) := if paE z l = 0 then parts (z - 6).toNat l else []
/-- The pages. -/
def pgL (z : Int) (l : List FT) : List (List Nat) := (paP z l).map fun p => puL z (p.map toC)

theorem sumC_append (a b : List FT) : sumC (a ++ b) = sumC a + sumC b := by
  induction a with
  | nil => simp [sumC]
  | cons x r ih => simp only [List.cons_append, sumC, ih]; omega

theorem mayF_parts {f : FT} (h : mayF f = true) : mayK f.k = true ∧ 1 ≤ f.v.length ∧ f.v.length ≤ 255 := by
  unfold mayF at h
  rw [Bool.and_eq_true] at h
  exact ⟨h.1, of_decide_eq_true h.2⟩

theorem mayF_of {f : FT} (h1 : mayK f.k = true) (h2 : 1 ≤ f.v.length) (h3 : f.v.length ≤ 255) : mayF f = true := by
  unfold mayF
  rw [h1, decide_eq_true ⟨h2, h3⟩]
  rfl

theorem mayF_no {f : FT} (h : mayK f.k = false ∨ ¬ 1 ≤ f.v.length ∨ ¬ f.v.length ≤ 255) : mayF f = false := by
  cases hb : mayF f
  · rfl
  · obtain ⟨a, b, c⟩ := mayF_parts hb
    rcases h with h | h | h
    · rw [a] at h; cases h
    · exact absurd b h
    · exact absurd c h

theorem mayF_toC {f : FT} (h : mayF f = true) : mayC (toC f) = true := by
  obtain ⟨a, b, c⟩ := mayF_parts h
  rw [mayC_v (f := toC f) a rfl]
  exact decide_eq_true ⟨b, c⟩

theorem costF_yes {f : FT} (h : mayK f.k = true) : costF f = 2 + (keyB f.k).length + f.v.length := by unfold costF; rw [if_pos h]
theorem costF_no {f : FT} (h : mayK f.k = false) : costF f = 0 := by unfold costF; rw [if_neg (by rw [h]; decide)]
theorem costF_two {f : FT} (h : mayF f = true) : 2 ≤ costF f := by
  rw [costF_yes (mayF_parts h).1]; omega

theorem chB_cost {f : FT} (h : mayF f = true) : (chB (toC f)).length = costF f := by
  obtain ⟨a, b, c⟩ := mayF_parts h
  rw [costF_yes a]
  show (if false = true then _ else 1 :: (keyB f.k ++ rowL f.v)).length = _
  rw [if_neg (by decide)]
  unfold rowL
  rw [if_pos c]
  simp only [List.length_cons, List.length_append]
  omega

theorem flat_cost {l : List FT} (h : ∀ f ∈ l, mayF f = true) : ((l.map toC).flatMap chB).length = sumC l := by
  induction l with
  | nil => rfl
  | cons f r ih =>
    rw [List.map_cons, List.flatMap_cons, List.length_append, chB_cost (h f List.mem_cons_self), ih fun g hg => h g (List.mem_cons_of_mem _ hg)]
    rfl

theorem sumC_two {l : List FT} (h : ∀ f ∈ l, mayF f = true) : 2 * l.length ≤ sumC l := by
  induction l with
  | nil => exact Nat.le_refl _
  | cons f r ih =>
    have h1 := costF_two (h f List.mem_cons_self)
    have h2 := ih fun g hg => h g (List.mem_cons_of_mem _ hg)
    simp only [sumC, List.length_cons]
    omega

theorem ctK_zero (room : Nat) (l : List FT) : ctK room l 0 = ([], []) := rfl
theorem ctK_next {room : Nat} {l : List FT} {k : Nat} {f : FT} (h : l[k]? = some f) : ctK room l (k + 1) = ctS room (ctK room l k) f := by
  unfold ctK
  rw [List.take_add_one, h]
  simp [List.foldl_append]
theorem ctK_take (room : Nat) (l : List FT) (k : Nat) : ctK room (l.take k) k = ctK room l k := by
  unfold ctK
  rw [List.take_take, Nat.min_self]
theorem ctK_new {room : Nat} {l : List FT} {k : Nat} {f : FT} (h : l[k]? = some f) (hc : room < sumC (ctK room l k).2 + costF f) : ctK room l (k + 1) = ((ctK room l k).1 ++ [(ctK room l k).2], [f]) := by
  rw [ctK_next h]; exact if_pos hc
theorem ctK_more {room : Nat} {l : List FT} {k : Nat} {f : FT} (h : l[k]? = some f) (hc : ¬ room < sumC (ctK room l k).2 + costF f) : ctK room l (k + 1) = ((ctK room l k).1, (ctK room l k).2 ++ [f]) := by
  rw [ctK_next h]; exact if_neg hc

theorem ctK_flat {room : Nat} {l : List FT} : ∀ k, k ≤ l.length → (ctK room l k).1.flatten ++ (ctK room l k).2 = l.take k
  | 0, _ => rfl
  | k + 1, hk => by
    have ih := ctK_flat (room := room) (l := l) k (by omega)
    obtain ⟨f, hf⟩ : ∃ f, l[k]? = some f := ⟨l[k], List.getElem?_eq_getElem (by omega)⟩
    rw [List.take_add_one, hf, ← ih]
    by_cases hc : room < sumC (ctK room l k).2 + costF f
    · rw [ctK_new hf hc]; simp
    · rw [ctK_more hf hc]; simp

theorem ctK_len {room : Nat} {l : List FT} {k : Nat} (hk : k ≤ l.length) : (ctK room l k).1.flatten.length + (ctK room l k).2.length = k := by
  have := congrArg List.length (ctK_flat (room := room) k hk)
  rw [List.length_append, List.length_take] at this
  omega

/-- What holds of the pages, as far as they are cut. -/
structure CtP (room : Nat) (l : List FT) (s : List (List FT) × List FT) (k : Nat) : Prop where
  ne : ∀ p ∈ s.1, p ≠ []
  sum : ∀ p ∈ s.1, sumC p ≤ room
  last : sumC s.2 ≤ room
  none : s.2 = [] → k = 0 ∧ s.1 = []
  full : ∀ (j : Nat) (p q : List FT) (f : FT), s.1[j]? = some p → (s.1 ++ [s.2])[j + 1]? = some (f :: q) → room < sumC p + costF f

theorem ctP_all {room : Nat} {l : List FT} (hc : ∀ f ∈ l, costF f ≤ room) : ∀ k, k ≤ l.length → CtP room l (ctK room l k) k
  | 0, _ => ⟨by simp [ctK_zero], by simp [ctK_zero], by simp [ctK_zero, sumC], fun _ => ⟨rfl, rfl⟩, by simp [ctK_zero]⟩
  | k + 1, hk => by
    have ih := ctP_all hc k (by omega)
    obtain ⟨f, hf⟩ : ∃ f, l[k]? = some f := ⟨l[k], List.getElem?_eq_getElem (by omega)⟩
    have hcf := hc f (List.mem_of_getElem? hf)
    generalize hs : ctK room l k = s at *
    obtain ⟨o, p⟩ := s
    by_cases h : room < sumC (ctK room l k).2 + costF f
    · rw [ctK_new hf h]
      rw [hs] at h ⊢
      dsimp only at *
      have hp : p ≠ [] := fun e => by rw [e] at h; simp [sumC] at h; omega
      refine ⟨?_, ?_, by simp only [sumC]; omega, (fun e => by cases e), ?_⟩
      · intro q hq
        rcases List.mem_append.1 hq with hq | hq
        · exact ih.ne q hq
        · rw [List.mem_singleton.1 hq]; exact hp
      · intro q hq
        rcases List.mem_append.1 hq with hq | hq
        · exact ih.sum q hq
        · rw [List.mem_singleton.1 hq]; exact ih.last
      · intro j p' q f' h1 h2
        by_cases hj : j + 1 < (o ++ [p]).length
        · rw [List.getElem?_append_left hj] at h2
          rw [List.getElem?_append_left (by simp at hj; omega)] at h1
          exact ih.full j p' q f' h1 h2
        · have hj2 : j < (o ++ [p]).length := (List.getElem?_eq_some_iff.1 h1).1
          have hjo : j = o.length := by simp at hj hj2; omega
          subst hjo
          simp at h1 h2
          obtain ⟨rfl, rfl⟩ := h2
          rw [← h1]
          exact h
    · rw [ctK_more hf h]
      rw [hs] at h ⊢
      dsimp only at *
      refine ⟨ih.ne, ih.sum, by rw [sumC_append]; simp only [sumC]; omega, (fun e => by simp at e), ?_⟩
      intro j p' q f' h1 h2
      have hj : j < o.length := (List.getElem?_eq_some_iff.1 h1).1
      by_cases hj2 : j + 1 < o.length
      · rw [List.getElem?_append_left hj2] at h2
        exact ih.full j p' q f' h1 (by rw [List.getElem?_append_left hj2]; exact h2)
      · have hjo : j + 1 = o.length := by omega
        rw [hjo] at h2
        simp at h2
        cases p with
        | nil => exact absurd (ih.none rfl).2 (by intro e; have e : o = [] := e; rw [e] at hj; simp at hj)
        | cons y r =>
          simp at h2
          refine ih.full j p' r f' h1 ?_
          rw [hjo]
          simp [h2.1]

theorem parts_nil (room : Nat) : parts room [] = [] := by unfold parts; rw [if_pos rfl]
theorem parts_ne {room : Nat} {l : List FT} (h : l ≠ []) : parts room l = (ctK room l l.length).1 ++ [(ctK room l l.length).2] := by unfold parts; rw [if_neg h]

theorem parts_flat (room : Nat) (l : List FT) : (parts room l).flatten = l := by
  by_cases h : l = []
  · rw [h, parts_nil]; rfl
  · rw [parts_ne h]
    have := ctK_flat (room := room) (l := l) l.length (Nat.le_refl _)
    rw [List.take_length] at this
    simpa using this

theorem parts_ok {room : Nat} {l : List FT} (hc : ∀ f ∈ l, costF f ≤ room) : ∀ p ∈ parts room l, p ≠ [] ∧ sumC p ≤ room := by
  by_cases h : l = []
  · rw [h, parts_nil]; simp
  · rw [parts_ne h]
    have hP := ctP_all hc l.length (Nat.le_refl _)
    intro p hp
    rcases List.mem_append.1 hp with hp | hp
    · exact ⟨hP.ne p hp, hP.sum p hp⟩
    · rw [List.mem_singleton.1 hp]
      exact ⟨fun e => h (List.eq_nil_of_length_eq_zero (hP.none e).1), hP.last⟩

theorem parts_full {room : Nat} {l : List FT} (hc : ∀ f ∈ l, costF f ≤ room) {j : Nat} {p q : List FT} {f : FT} (h1 : (parts room l)[j]? = some p) (h2 : (parts room l)[j + 1]? = some (f :: q)) : room < sumC p + costF f := by
  by_cases h : l = []
  · rw [h, parts_nil] at h1; simp at h1
  · rw [parts_ne h] at h1 h2
    have hP := ctP_all hc l.length (Nat.le_refl _)
    have hj : j + 1 < ((ctK room l l.length).1 ++ [(ctK room l l.length).2]).length := (List.getElem?_eq_some_iff.1 h2).1
    rw [List.length_append, List.length_singleton] at hj
    rw [List.getElem?_append_left (by omega)] at h1
    exact hP.full j p q f h1 h2

theorem len_flat : ∀ {ps : List (List FT)}, (∀ p ∈ ps, p ≠ []) → ps.length ≤ ps.flatten.length
  | [], _ => Nat.le_refl _
  | p :: r, h => by
    have h1 := len_flat (ps := r) fun q hq => h q (List.mem_cons_of_mem _ hq)
    have h2 : 1 ≤ p.length := by
      have := h p List.mem_cons_self
      cases p with
      | nil => exact absurd rfl this
      | cons x y => simp
    simp only [List.flatten_cons, List.length_append, List.length_cons]
    omega

theorem parts_len {room : Nat} {l : List FT} (hc : ∀ f ∈ l, costF f ≤ room) : (parts room l).length ≤ l.length := by
  have := len_flat (ps := parts room l) fun p hp => (parts_ok hc p hp).1
  rwa [parts_flat] at this

theorem eds_len : ∀ (b : Nat) (ps : List (List FT)), (eds b ps).length = ps.length
  | _, [] => rfl
  | b, p :: r => by simp only [eds, List.length_cons, eds_len]
theorem eds_append : ∀ (b : Nat) (ps : List (List FT)) (p : List FT), eds b (ps ++ [p]) = eds b ps ++ [b + ps.flatten.length + p.length]
  | b, [], p => by simp [eds]
  | b, q :: r, p => by
    simp only [List.cons_append, eds, eds_append, List.flatten_cons, List.length_append]
    congr 3
    omega
theorem eds_at : ∀ (b : Nat) (ps : List (List FT)) (j : Nat) (p : List FT), ps[j]? = some p → (eds b ps)[j]? = some (b + (ps.take j).flatten.length + p.length)
  | b, [], j, p, h => by simp at h
  | b, q :: r, 0, p, h => by simp at h; subst h; simp [eds]
  | b, q :: r, j + 1, p, h => by
    simp at h
    simp only [eds, List.getElem?_cons_succ, eds_at (b + q.length) r j p h, List.take_succ_cons, List.flatten_cons, List.length_append]
    congr 1
    omega
theorem flat_at {ps : List (List FT)} {j : Nat} {p : List FT} (h : ps[j]? = some p) : (ps.flatten.drop (ps.take j).flatten.length).take p.length = p ∧ (ps.take (j + 1)).flatten = (ps.take j).flatten ++ p ∧ (ps.take j).flatten.length + p.length ≤ ps.flatten.length := by
  obtain ⟨hj, he⟩ := List.getElem?_eq_some_iff.1 h
  have e : ps = ps.take j ++ (p :: ps.drop (j + 1)) := by
    rw [← he, ← List.drop_eq_getElem_cons hj, List.take_append_drop]
  have e2 : ps.flatten = (ps.take j).flatten ++ (p ++ (ps.drop (j + 1)).flatten) := by
    conv => lhs; rw [e]
    simp
  refine ⟨?_, ?_, ?_⟩
  · rw [e2, List.drop_left, List.take_left]
  · rw [List.take_add_one, h]; simp
  · rw [e2]; simp only [List.length_append]; omega

theorem fits_all {room : Nat} {l : List FT} (h : fits room l = true) : ∀ f ∈ l, costF f ≤ room := fun f hf => of_decide_eq_true (List.all_eq_true.1 h f hf)
theorem fits_no {room : Nat} {l : List FT} {f : FT} (hf : f ∈ l) (h : room < costF f) : fits room l = false := by
  cases hb : fits room l
  · rfl
  · have := fits_all hb f hf; omega
theorem paOk_parts {z : Int} {l : List FT} (h : paOk z l = true) : isPg z ∧ ordF l = true ∧ ∀ f ∈ l, mayF f = true := by
  unfold paOk at h
  rw [Bool.and_eq_true, Bool.and_eq_true] at h
  exact ⟨of_decide_eq_true h.1, h.2.1, List.all_eq_true.1 h.2.2⟩
theorem paOk_of {z : Int} {l : List FT} (h1 : isPg z) (h2 : ordF l = true) (h3 : ∀ f ∈ l, mayF f = true) : paOk z l = true := by
  unfold paOk
  rw [decide_eq_true h1, h2, List.all_eq_true.2 h3]
  rfl
theorem paE_two {z : Int} {l : List FT} (h : paOk z l = false) : paE z l = 2 ∧ paP z l = [] := by
  have e : paE z l = 2 := by unfold paE; rw [h]; rfl
  exact ⟨e, by unfold paP; rw [e]; rfl⟩
theorem paE_three {z : Int} {l : List FT} (h : paOk z l = true) (h2 : fits (z - 6).toNat l = false) : paE z l = 3 ∧ paP z l = [] := by
  have e : paE z l = 3 := by unfold paE; rw [h, h2]; rfl
  exact ⟨e, by unfold paP; rw [e]; rfl⟩
theorem paE_zero {z : Int} {l : List FT} (h : paOk z l = true) (h2 : fits (z - 6).toNat l = true) : paE z l = 0 ∧ paP z l = parts (z - 6).toNat l := by
  have e : paE z l = 0 := by unfold paE; rw [h, h2]; rfl
  exact ⟨e, by unfold paP; rw [if_pos e]⟩
theorem paE_ok {z : Int} {l : List FT} (h : paE z l = 0) : isPg z ∧ ordF l = true ∧ (∀ f ∈ l, mayF f = true) ∧ (∀ f ∈ l, costF f ≤ (z - 6).toNat) ∧ paP z l = parts (z - 6).toNat l := by
  cases h1 : paOk z l
  · rw [(paE_two h1).1] at h; omega
  · cases h2 : fits (z - 6).toNat l
    · rw [(paE_three h1 h2).1] at h; omega
    · obtain ⟨a, b, c⟩ := paOk_parts h1
      exact ⟨a, b, c, fits_all h2, (paE_zero h1 h2).2⟩
theorem paP_none {z : Int} {l : List FT} (h : paE z l ≠ 0) : paP z l = [] := by unfold paP; rw [if_neg h]

/-- A part's page. -/
theorem part_page {z : Int} {p : List FT} (hz : isPg z) (h0 : p ≠ []) (hm : ∀ f ∈ p, mayF f = true) (hs : sumC p ≤ (z - 6).toNat) :
    ∃ N : Nat, z = N ∧ 128 ≤ N ∧ N ≤ 256 ∧ tlOk (p.map toC) = true ∧ p.length ≤ 125 ∧ (rbK (p.map toC) (p.map toC).length).length = 1 + sumC p ∧ puL z (p.map toC) = page N 2 (rbK (p.map toC) (p.map toC).length) ∧ puE z (p.map toC) = 0 ∧
      (page N 2 (rbK (p.map toC) (p.map toC).length)).length = N ∧ sGetE (puL z (p.map toC)) = 0 ∧ sGetK (puL z (p.map toC)) = 2 ∧ sGetL (puL z (p.map toC)) = rbK (p.map toC) (p.map toC).length := by
  have h2 := sumC_two hm
  have hz' := hz
  unfold isPg at hz'
  have hl : p.length ≤ 125 := by omega
  have ht : tlOk (p.map toC) = true := by
    refine tlOk_of ?_ (by rw [List.length_map]; omega) ?_
    · rw [List.length_map]
      cases p with
      | nil => exact absurd rfl h0
      | cons x y => simp
    · intro c hc
      obtain ⟨f, hf, rfl⟩ := List.mem_map.1 hc
      exact mayF_toC (hm f hf)
  have hb : (rbK (p.map toC) (p.map toC).length).length = 1 + sumC p := by
    unfold rbK
    rw [List.take_length, List.length_cons, flat_cost hm]
    omega
  obtain ⟨N, rfl⟩ : ∃ N : Nat, z = N := ⟨z.toNat, by omega⟩
  obtain ⟨e1, e2⟩ := pu_yes2 (z := (N : Int)) ht
  have hlen : (rbK (p.map toC) (p.map toC).length).length + 5 ≤ N := by omega
  have e3 : puL (N : Int) (p.map toC) = page N 2 (rbK (p.map toC) (p.map toC).length) := by
    rw [e1]
    unfold sPutL
    rw [if_pos ⟨hz, by decide, by omega⟩]
    rfl
  have e4 : puE (N : Int) (p.map toC) = 0 := by
    rw [e2]
    unfold sPutE
    rw [if_pos ⟨hz, by decide⟩, if_pos (by omega)]
  obtain ⟨g1, g2, g3⟩ := get_page N 2 (rbK (p.map toC) (p.map toC).length) hz (by decide) hlen
  exact ⟨N, rfl, by omega, by omega, ht, hl, hb, e3, e4, page_length _ _ _ hlen, by rw [e3]; exact g1, by rw [e3]; exact g2, by rw [e3]; exact g3⟩

/-- What holds of each part. -/
theorem paP_part {z : Int} {l : List FT} (h : paE z l = 0) {p : List FT} (hp : p ∈ paP z l) : p ≠ [] ∧ (∀ f ∈ p, mayF f = true) ∧ sumC p ≤ (z - 6).toNat := by
  obtain ⟨_, _, hm, hc, e⟩ := paE_ok h
  rw [e] at hp
  obtain ⟨h1, h2⟩ := parts_ok hc p hp
  refine ⟨h1, fun f hf => hm f ?_, h2⟩
  rw [← parts_flat (z - 6).toNat l]
  exact List.mem_flatten.2 ⟨p, hp, hf⟩

theorem paP_flat {z : Int} {l : List FT} (h : paE z l = 0) : (paP z l).flatten = l := by rw [(paE_ok h).2.2.2.2, parts_flat]
theorem paP_len {z : Int} {l : List FT} : (paP z l).length ≤ l.length := by
  by_cases h : paE z l = 0
  · obtain ⟨_, _, _, hc, e⟩ := paE_ok h
    rw [e]; exact parts_len hc
  · rw [paP_none h]; simp
theorem pgL_len (z : Int) (l : List FT) : (pgL z l).length = (paP z l).length := by unfold pgL; rw [List.length_map]
theorem pgL_at {z : Int} {l : List FT} {j : Nat} {p : List FT} (h : (paP z l)[j]? = some p) : (pgL z l)[j]? = some (puL z (p.map toC)) := by unfold pgL; rw [List.getElem?_map, h]; rfl

/-- Facts of a page behind those ahead of it. -/
theorem ap_part {p : List FT} : ∀ {a : List FT}, ordF (a ++ p) = true → apF a (p.map toC) = a ++ p := by
  induction p with
  | nil => intro a _; simp [apF]
  | cons f r ih =>
    intro a h
    obtain ⟨_, h2, h3⟩ := ordF_append.1 h
    have e : updF a (toC f) = a ++ [f] := by
      have hb : ∀ g ∈ a, befK g.k (toC f).k = true := fun g hg => h3 g hg f List.mem_cons_self
      exact upd_all (c := toC f) hb rfl
    show apF (updF a (toC f)) (r.map toC) = _
    rw [e, ih (by simpa using h)]
    simp

/-- Facts ahead of others: their pages but the last one are the same. -/
theorem paP_more {z : Int} {l : List FT} (h : paE z l = 0) (k : Nat) (hk : k ≤ l.length) : paE z (l.take k) = 0 ∧ (paP z (l.take k)).length ≤ (paP z l).length ∧ ∀ j, j + 1 < (paP z (l.take k)).length → (paP z (l.take k))[j]? = (paP z l)[j]? := by
  obtain ⟨hz, ho, hm, hc, e⟩ := paE_ok h
  have hsub : ∀ f ∈ l.take k, f ∈ l := fun f hf => List.mem_of_mem_take hf
  obtain ⟨e1, e2⟩ := paE_zero (z := z) (l := l.take k) (paOk_of hz (ord_take ho k) fun f hf => hm f (hsub f hf)) (by
    unfold fits
    exact List.all_eq_true.2 fun f hf => decide_eq_true (hc f (hsub f hf)))
  rw [e, e2]
  refine ⟨e1, ?_⟩
  generalize (z - 6).toNat = room at *
  by_cases h0 : l.take k = []
  · rw [h0, parts_nil]; simp
  · have hl : l ≠ [] := fun e => h0 (by rw [e]; simp)
    rw [parts_ne h0, parts_ne hl, List.length_take, Nat.min_eq_left hk, ctK_take]
    have mono : ∀ d, k + d ≤ l.length → ∃ t, (ctK room l (k + d)).1 = (ctK room l k).1 ++ t := by
      intro d
      induction d with
      | zero => exact fun _ => ⟨[], by simp⟩
      | succ d ih =>
        intro hd
        obtain ⟨t, ht⟩ := ih (by omega)
        obtain ⟨f, hf⟩ : ∃ f, l[k + d]? = some f := ⟨l[k + d], List.getElem?_eq_getElem (by omega)⟩
        by_cases hcc : room < sumC (ctK room l (k + d)).2 + costF f
        · rw [← Nat.add_assoc, ctK_new hf hcc, ht]
          exact ⟨t ++ [(ctK room l (k + d)).2], by simp⟩
        · rw [← Nat.add_assoc, ctK_more hf hcc, ht]
          exact ⟨t, rfl⟩
    obtain ⟨t, ht⟩ := mono (l.length - k) (by omega)
    rw [show k + (l.length - k) = l.length by omega] at ht
    rw [ht]
    refine ⟨by simp, fun j hj => ?_⟩
    rw [List.length_append, List.length_singleton] at hj
    rw [List.getElem?_append_left (by omega), List.append_assoc, List.getElem?_append_left (by omega)]
end Go.Proofs.Ytbiihjdjbknibaa
