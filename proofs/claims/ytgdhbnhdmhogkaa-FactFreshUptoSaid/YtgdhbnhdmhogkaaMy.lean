/-
  The library's stable sort of changes: rows that are sorted block by block (no program).
-/
import Derived.Test.YtgdhbnhdmhogkaaMw
namespace Go.Proofs.Ytgdhbnhdmhogkaa
open Go.RowKit

/-- M is O, each block of B sorted. -/
inductive SB (B : Nat) : List CE → List CE → Prop
  | nil : SB B [] []
  | cons {O M O' M' : List CE} : O'.length = B → SrtOf O' M' → SB B O M → SB B (O' ++ O) (M' ++ M)
theorem SB.snoc {B : Nat} {O M O' M' : List CE} (h : SB B O M) (hl : O'.length = B) (hs : SrtOf O' M') : SB B (O ++ O') (M ++ M') := by
  induction h with
  | nil =>
    have := SB.cons hl hs SB.nil
    simpa using this
  | cons h1 h2 _ ih =>
    rw [List.append_assoc, List.append_assoc]
    exact SB.cons h1 h2 ih
theorem SB.len {B : Nat} {O M : List CE} (h : SB B O M) : M.length = O.length := by
  induction h with
  | nil => rfl
  | cons _ h2 _ ih => rw [List.length_append, List.length_append, h2.1, ih]
/-- Two blocks at the head, where there is room for two. -/
theorem SB.two {B : Nat} {O M O2 : List CE} (h : SB B O M) (h2 : O2.length < B) (hr : 2 * B ≤ O.length + O2.length) :
    ∃ A1 A2 A M1 M2 R, O = A1 ++ (A2 ++ A) ∧ M = M1 ++ (M2 ++ R) ∧ A1.length = B ∧ A2.length = B ∧ SrtOf A1 M1 ∧ SrtOf A2 M2 ∧ SB B A R := by
  cases h with
  | nil => simp at hr; omega
  | cons h1 hs h3 =>
    cases h3 with
    | nil => simp at hr; omega
    | cons k1 ks k3 => exact ⟨_, _, _, _, _, _, rfl, rfl, h1, k1, hs, ks, k3⟩
/-- One block, or none, where there is no room for two. -/
theorem SB.one {B : Nat} {O M O2 : List CE} (h : SB B O M) (hr : O.length + O2.length < 2 * B) : (O = [] ∧ M = []) ∨ (O.length = B ∧ SrtOf O M) := by
  cases h with
  | nil => exact .inl ⟨rfl, rfl⟩
  | cons h1 hs h3 =>
    cases h3 with
    | nil => exact .inr ⟨by simpa using h1, by simpa using hs⟩
    | cons k1 ks k3 => simp at hr; omega
theorem SrtOf.nil : SrtOf [] [] := ⟨rfl, trivial, fun _ => rfl⟩
theorem SB.all {B : Nat} {O1 M1 O2 M2 : List CE} (h : SB B O1 M1) (hs : SrtOf O2 M2) (h2 : O2.length < B) (hr : O1.length + O2.length ≤ B) : SrtOf (O1 ++ O2) (M1 ++ M2) := by
  rcases h.one (O2 := O2) (by omega) with ⟨rfl, rfl⟩ | ⟨h3, h4⟩
  · exact hs
  · have e2 : O2 = [] := List.length_eq_zero_iff.1 (by omega)
    have e3 : M2 = [] := List.length_eq_zero_iff.1 (by rw [hs.1, e2]; rfl)
    rw [e2, e3, List.append_nil, List.append_nil]
    exact h4
theorem SrtOf.of_ins {O M : List CE} (h1 : M.length = O.length) (h2 : ordC (cts M)) (h3 : ∀ k, M.filter (fun d => decide (d.f.k = k)) = O.filter (fun d => decide (d.f.k = k))) : SrtOf O M := ⟨h1, h2, h3⟩

/-- At the head of the doubling: blocks of B, then a tail. -/
def SBT (B : Nat) (O L : List CE) : Prop := ∃ O1 O2 M1 M2, O = O1 ++ O2 ∧ L = M1 ++ M2 ∧ SB B O1 M1 ∧ SrtOf O2 M2 ∧ O2.length < B
theorem SBT.len {B : Nat} {O L : List CE} (h : SBT B O L) : L.length = O.length := by
  obtain ⟨O1, O2, M1, M2, rfl, rfl, h1, h2, _⟩ := h
  rw [List.length_append, List.length_append, h1.len, h2.1]
theorem SBT.all {B : Nat} {O L : List CE} (h : SBT B O L) (hn : O.length ≤ B) : SrtOf O L := by
  obtain ⟨O1, O2, M1, M2, rfl, rfl, h1, h2, h3⟩ := h
  exact h1.all h2 h3 (by rw [List.length_append] at hn; exact hn)
/-- In the first loop: a elements are done. -/
def SB1 (a : Nat) (O L : List CE) : Prop := ∃ O1 M1 R, O = O1 ++ R ∧ L = M1 ++ R ∧ SB 20 O1 M1 ∧ O1.length = a
/-- In the merging of blocks of B: a elements are done. -/
def SB2 (B a : Nat) (O L : List CE) : Prop := ∃ O1 M1 A R O2 T, O = O1 ++ (A ++ O2) ∧ L = M1 ++ (R ++ T) ∧ SB (2 * B) O1 M1 ∧ O1.length = a ∧ SB B A R ∧ SrtOf O2 T ∧ O2.length < B
theorem SBT.start {B : Nat} {O L : List CE} (h : SBT B O L) : SB2 B 0 O L := by
  obtain ⟨O1, O2, M1, M2, rfl, rfl, h1, h2, h3⟩ := h
  exact ⟨[], [], O1, M1, O2, M2, rfl, rfl, SB.nil, rfl, h1, h2, h3⟩
/-- A round of the merging. -/
theorem SB2.step {B a : Nat} {O L : List CE} (h : SB2 B a O L) (hr : a + 2 * B ≤ O.length) :
    ∃ P U V S, L = P ++ (U ++ (V ++ S)) ∧ P.length = a ∧ U.length = B ∧ V.length = B ∧ ordC (cts U) ∧ ordC (cts V) ∧ ∀ M, SrtOf (U ++ V) M → SB2 B (a + 2 * B) O (P ++ (M ++ S)) := by
  obtain ⟨O1, M1, A, R, O2, T, rfl, rfl, h1, h2, h3, h4, h5⟩ := h
  obtain ⟨A1, A2, A, N1, N2, R, rfl, rfl, k1, k2, k3, k4, k5⟩ := h3.two h5 (by simp only [List.length_append] at hr ⊢; omega)
  refine ⟨M1, N1, N2, R ++ T, by simp only [List.append_assoc], by rw [h1.len]; exact h2, by rw [k3.1]; exact k1, by rw [k4.1]; exact k2, k3.2.1, k4.2.1, fun M hM => ?_⟩
  refine ⟨O1 ++ (A1 ++ A2), M1 ++ M, A, R, O2, T, by simp only [List.append_assoc], by simp only [List.append_assoc], h1.snoc (by rw [List.length_append]; omega) (k3.parts k4 hM), by simp only [List.length_append]; omega, k5, h4, h5⟩
/-- Its end: a block and the tail are merged. -/
theorem SB2.last {B a : Nat} {O L : List CE} (h : SB2 B a O L) (hr : O.length < a + 2 * B) (hm : a + B < O.length) :
    ∃ P U V, L = P ++ (U ++ (V ++ [])) ∧ P.length = a ∧ U.length = B ∧ a + B + V.length = O.length ∧ ordC (cts U) ∧ ordC (cts V) ∧ ∀ M, SrtOf (U ++ V) M → SBT (2 * B) O (P ++ (M ++ [])) := by
  obtain ⟨O1, M1, A, R, O2, T, rfl, rfl, h1, h2, h3, h4, h5⟩ := h
  simp only [List.length_append] at hr hm
  rcases h3.one (O2 := O2) (by omega) with ⟨rfl, rfl⟩ | ⟨k1, k2⟩
  · simp at hm; omega
  · refine ⟨M1, R, T, by simp only [List.append_nil], by rw [h1.len]; exact h2, by rw [k2.1]; exact k1, by simp only [List.length_append]; rw [h4.1]; omega, k2.2.1, h4.2.1, fun M hM => ?_⟩
    refine ⟨O1, A ++ O2, M1, M, rfl, by simp only [List.append_nil], h1, k2.parts h4 hM, by rw [List.length_append]; omega⟩
/-- .. or there is nothing to merge. -/
theorem SB2.rest {B a : Nat} {O L : List CE} (h : SB2 B a O L) (hr : O.length < a + 2 * B) (hm : O.length ≤ a + B) : SBT (2 * B) O L := by
  obtain ⟨O1, M1, A, R, O2, T, rfl, rfl, h1, h2, h3, h4, h5⟩ := h
  simp only [List.length_append] at hr hm
  rcases h3.one (O2 := O2) (by omega) with ⟨rfl, rfl⟩ | ⟨k1, k2⟩
  · exact ⟨O1, O2, M1, T, rfl, rfl, h1, h4, by omega⟩
  · have e2 : O2 = [] := List.length_eq_zero_iff.1 (by omega)
    have e3 : T = [] := List.length_eq_zero_iff.1 (by rw [h4.1, e2]; rfl)
    refine ⟨O1, A, M1, R, by rw [e2, List.append_nil], by rw [e3, List.append_nil], h1, k2, by omega⟩
theorem SB1.start (O : List CE) : SB1 0 O O := ⟨[], [], O, rfl, rfl, SB.nil, rfl⟩
theorem SB1.step {a : Nat} {O L : List CE} (h : SB1 a O L) (hr : a + 20 ≤ O.length) :
    ∃ P U S, L = P ++ (U ++ S) ∧ P.length = a ∧ U.length = 20 ∧ ∀ M, SrtOf U M → SB1 (a + 20) O (P ++ (M ++ S)) := by
  obtain ⟨O1, M1, R, rfl, rfl, h1, h2⟩ := h
  rw [List.length_append] at hr
  refine ⟨M1, R.take 20, R.drop 20, by rw [List.take_append_drop], by rw [h1.len]; exact h2, by rw [List.length_take]; omega, fun M hM => ?_⟩
  refine ⟨O1 ++ R.take 20, M1 ++ M, R.drop 20, by rw [List.append_assoc, List.take_append_drop], by rw [List.append_assoc], h1.snoc (by rw [List.length_take]; omega) hM, by rw [List.length_append, List.length_take]; omega⟩
theorem SB1.last {a : Nat} {O L : List CE} (h : SB1 a O L) (hr : O.length < a + 20) :
    ∃ P U, L = P ++ (U ++ []) ∧ P.length = a ∧ a + U.length = O.length ∧ ∀ M, SrtOf U M → SBT 20 O (P ++ (M ++ [])) := by
  obtain ⟨O1, M1, R, rfl, rfl, h1, h2⟩ := h
  rw [List.length_append] at hr
  refine ⟨M1, R, by rw [List.append_nil], by rw [h1.len]; exact h2, by rw [List.length_append]; omega, fun M hM => ?_⟩
  exact ⟨O1, R, M1, M, rfl, by rw [List.append_nil], h1, hM, by omega⟩
end Go.Proofs.Ytgdhbnhdmhogkaa
