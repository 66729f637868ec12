/-
  Mathematics of merging in place: where the third search ends (no program).
-/
import Derived.Test.YtgdhbnhdmhogkaaMv
namespace Go.Proofs.Ytgdhbnhdmhogkaa
open Go.RowKit

def CutA (U V : List CE) (a mid lo i : Nat) : Prop := i = lo ∨ ∀ x y, U[i - 1 - a]? = some x → V[mid - i]? = some y → befK y.f.k x.f.k = false
def CutB (U V : List CE) (a mid hi j : Nat) : Prop := j = hi ∨ ∀ x y, U[j - a]? = some x → V[mid - 1 - j]? = some y → befK y.f.k x.f.k = true
def CutH (a m b mid lo hi : Nat) : Prop := a ≤ lo ∧ lo ≤ hi ∧ hi ≤ m ∧ hi ≤ mid ∧ mid + m ≤ lo + b ∧ (lo + b = mid + m ∨ lo = a) ∧ (hi = mid ∨ hi = m)

theorem ordC_take {U : List CE} (h : ordC (cts U)) (k : Nat) : ordC (cts (U.take k)) ∧ ordC (cts (U.drop k)) := by
  rw [← List.take_append_drop k U, cts_append, ordC_append] at h
  exact ⟨h.1, h.2.1⟩
theorem last_take {U : List CE} {k : Nat} {x : CE} (hk : k ≤ U.length) (h : (U.take k).getLast? = some x) : U[k - 1]? = some x ∧ 0 < k := by
  rw [List.getLast?_eq_getElem?, List.length_take, Nat.min_eq_left hk] at h
  rcases Nat.eq_zero_or_pos k with h0 | h0
  · subst h0; simp at h
  · rw [List.getElem?_take, if_pos (by omega)] at h
    exact ⟨h, h0⟩
theorem head_drop {U : List CE} {k : Nat} {x : CE} (h : (U.drop k).head? = some x) : U[k]? = some x := by
  rw [List.head?_eq_getElem?, List.getElem?_drop] at h
  exact h

theorem cut_end {U V : List CE} {a m b mid lo hi s : Nat} (hU : a + U.length = m) (hV : m + V.length = b) (oU : ordC (cts U)) (oV : ordC (cts V)) (h : CutH a m b mid lo hi) (h1 : lo ≤ s) (h2 : s ≤ hi) (cA : CutA U V a mid lo s) (cB : CutB U V a mid hi s) :
    (∀ u ∈ U.take (s - a), ∀ v ∈ V.drop (mid - s), befK v.f.k u.f.k = false) ∧ (∀ v ∈ V.take (mid - s), ∀ u ∈ U.drop (s - a), befK v.f.k u.f.k = true) := by
  obtain ⟨c1, c2, c3, c4, c5, c6, c7⟩ := h
  constructor
  · rcases cA with rfl | cA
    · rcases c6 with c6 | rfl
      · rw [List.drop_of_length_le (by omega)]
        intro u _ v hv
        cases hv
      · rw [Nat.sub_self, List.take_zero]
        intro u hu
        cases hu
    · refine cut_le (ordC_take oU _).1 (ordC_take oV _).2 fun x y hx hy => ?_
      obtain ⟨e1, e2⟩ := last_take (by omega) hx
      exact cA x y (by rw [show s - 1 - a = s - a - 1 by omega]; exact e1) (head_drop hy)
  · rcases cB with rfl | cB
    · rcases c7 with rfl | rfl
      · rw [Nat.sub_self, List.take_zero]
        intro u hu
        cases hu
      · rw [List.drop_of_length_le (l := U) (by omega)]
        intro u _ v hv
        cases hv
    · refine cut_lt (ordC_take oV _).1 (ordC_take oU _).2 fun y x hy hx => ?_
      obtain ⟨e1, e2⟩ := last_take (by omega) hy
      exact cB x y (head_drop hx) (by rw [show mid - 1 - s = mid - s - 1 by omega]; exact e1)

/-- What merging leaves. -/
def SymP (w : World) (g : Nat) (sp : List Value) (P O S : List CE) (e : Ending) (w' : World) : Prop := e = .returned (.tuple #[]) ∧ ∃ M, SrtOf O M ∧ Blk w' g 45 (ces (P ++ (M ++ S)) ++ sp) ∧ Kept (· = g) w w'

theorem symL_P (g n c a m b : Nat) (P U V S : List CE) (sp : List Value) (w : World) (hb : Blk w g 45 (ces (P ++ (U ++ (V ++ S))) ++ sp)) (ha : P.length = a) (hU : a + U.length = m) (hm : a + 1 = m) (hV : m + V.length = b) (ho : ordC (cts V)) (hbn : b ≤ n) (hn : n ≤ 140737488351232) :
    Calls Try.prog 49 #[.slice (some ⟨g, 0, none⟩) n c, .int .i64 (a : Nat), .int .i64 (m : Nat), .int .i64 (b : Nat), .func (.func 33) #[] #[]] w (SymP w g sp P (U ++ V) S) := by
  match U, (show U.length = 1 by omega) with
  | [u], _ =>
    refine (symL_any g n c a m b P V S u sp w hb ha hm hV ho hbn hn).mono ?_
    rintro e w' ⟨V1, V2, rfl, h1, h2, rfl, h3, h4⟩
    exact ⟨rfl, V1 ++ u :: V2, left_math ho h1 h2, by simpa only [List.append_assoc, List.cons_append] using h3, h4⟩
theorem symR_P (g n c a m b : Nat) (P U V S : List CE) (sp : List Value) (w : World) (hb : Blk w g 45 (ces (P ++ (U ++ (V ++ S))) ++ sp)) (ha : P.length = a) (hU : a + U.length = m) (hm : m + 1 = b) (hV : m + V.length = b) (h2 : a + 1 < m) (ho : ordC (cts U)) (hbn : b ≤ n) (hn : n ≤ 140737488351232) :
    Calls Try.prog 49 #[.slice (some ⟨g, 0, none⟩) n c, .int .i64 (a : Nat), .int .i64 (m : Nat), .int .i64 (b : Nat), .func (.func 33) #[] #[]] w (SymP w g sp P (U ++ V) S) := by
  match V, (show V.length = 1 by omega) with
  | [v], _ =>
    refine (symR_any g n c a m b P U S v sp w hb ha hU hm h2 ho hbn hn).mono ?_
    rintro e w' ⟨U1, U2, rfl, h1, h2, rfl, h3, h4⟩
    exact ⟨rfl, U1 ++ v :: U2, right_math ho h1 h2, by simpa only [List.append_assoc, List.cons_append] using h3, h4⟩
end Go.Proofs.Ytgdhbnhdmhogkaa
