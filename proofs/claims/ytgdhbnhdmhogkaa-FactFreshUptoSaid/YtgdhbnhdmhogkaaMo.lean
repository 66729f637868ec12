/-
  Changes sorted by insertion: what an insertion does; the closure that compares.
-/
import Derived.Test.YtgdhbnhdmhogkaaMi
import Derived.Deep.RegionHeld3
import Derived.BigRegion
namespace Go.Proofs.Ytgdhbnhdmhogkaa
open Go.RowKit

theorem ordC_append : ∀ {a b : List CT}, ordC (a ++ b) ↔ ordC a ∧ ordC b ∧ ∀ x ∈ a, ∀ y ∈ b, befK y.k x.k = false
  | [], b => by simp [ordC]
  | c :: a, b => by
    show (∀ d ∈ a ++ b, befK d.k c.k = false) ∧ ordC (a ++ b) ↔ ((∀ d ∈ a, befK d.k c.k = false) ∧ ordC a) ∧ ordC b ∧ _
    rw [ordC_append (a := a)]
    constructor
    · rintro ⟨h1, h2, h3, h4⟩
      refine ⟨⟨fun d hd => h1 d (List.mem_append_left _ hd), h2⟩, h3, fun x hx y hy => ?_⟩
      rcases List.mem_cons.1 hx with rfl | hx
      · exact h1 y (List.mem_append_right _ hy)
      · exact h4 x hx y hy
    · rintro ⟨⟨h1, h2⟩, h3, h4⟩
      refine ⟨fun d hd => ?_, h2, h3, fun x hx y hy => h4 x (List.mem_cons_of_mem _ hx) y hy⟩
      rcases List.mem_append.1 hd with hd | hd
      · exact h1 d hd
      · exact h4 c List.mem_cons_self d hd
theorem cts_append (a b : List CE) : cts (a ++ b) = cts a ++ cts b := by unfold cts; rw [List.map_append]
theorem mem_cts {l : List CE} {t : CT} (h : t ∈ cts l) : ∃ e ∈ l, e.f = t := List.mem_map.1 h

/-- An element is put in: behind all that are not behind it. -/
theorem ordC_ins {Q R : List CE} {x : CE} (h : ordC (cts (Q ++ R))) (hR : ∀ r ∈ R, befK x.f.k r.f.k = true) (hQ : ∀ q ∈ Q, befK x.f.k q.f.k = false) : ordC (cts (Q ++ x :: R)) := by
  rw [cts_append, ordC_append] at h ⊢
  obtain ⟨h1, h2, h3⟩ := h
  refine ⟨h1, ⟨fun d hd => ?_, h2⟩, fun a ha b hb => ?_⟩
  · obtain ⟨e, he, rfl⟩ := mem_cts hd
    exact befK_anti (hR e he)
  · obtain ⟨q, hq, rfl⟩ := mem_cts ha
    rcases List.mem_cons.1 hb with rfl | hb
    · exact hQ q hq
    · exact h3 _ ha b hb
theorem last_all {Q : List CE} {x y : CE} (h : ordC (cts (Q ++ [y]))) (hy : befK x.f.k y.f.k = false) : ∀ q ∈ Q ++ [y], befK x.f.k q.f.k = false := by
  rw [cts_append, ordC_append] at h
  intro q hq
  rcases List.mem_append.1 hq with hq | hq
  · exact befK_le_trans (h.2.2 q.f (List.mem_map.2 ⟨q, hq, rfl⟩) y.f (List.mem_cons_self ..)) hy
  · simp only [List.mem_cons, List.not_mem_nil, or_false] at hq
    rw [hq]
    exact hy
theorem filt_ins {Q R : List CE} {x : CE} (hR : ∀ r ∈ R, befK x.f.k r.f.k = true) (k : KY) :
    (Q ++ x :: R).filter (fun d => decide (d.f.k = k)) = (Q ++ R).filter (fun d => decide (d.f.k = k)) ++ [x].filter (fun d => decide (d.f.k = k)) := by
  rw [List.filter_append, List.filter_append, List.append_assoc]
  congr 1
  rw [List.filter_cons]
  by_cases e : x.f.k = k
  · have hn : R.filter (fun d => decide (d.f.k = k)) = [] := List.filter_eq_nil_iff.2 fun r hr hc => by
      have h1 := ne_of_bef (hR r hr)
      exact h1 (e.trans (of_decide_eq_true hc).symm)
    rw [hn, List.filter_cons, decide_eq_true e]
    rfl
  · rw [List.filter_cons, decide_eq_false e]
    simp
theorem set_swap {α : Type} (P : List α) (x y : α) (S : List α) : ((P ++ y :: x :: S).set (P.length + 1) y).set P.length x = P ++ x :: y :: S := by
  induction P with
  | nil => rfl
  | cons p P ih => simp only [List.cons_append, List.length_cons, List.set_cons_succ, ih]

theorem ces_set (sp : List Value) : ∀ (es : List CE) (i : Nat) (b : CE), i < es.length →
    ((((((ces es ++ sp).set (i * 6) (.int .i64 b.f.k.i)).set (i * 6 + 1) (.int .u8 (b.f.k.t : Nat))).set (i * 6 + 2) (.string b.f.k.n)).set (i * 6 + 3) (.int .i64 b.f.k.c)).set (i * 6 + 4) (.slice b.A b.f.v.length b.c)).set (i * 6 + 5) (.bool b.f.g) = ces (es.set i b) ++ sp
  | [], i, b, h => by simp at h
  | c :: es, 0, b, h => by simp [ces, CE.cells, kcells]
  | c :: es, i + 1, b, h => by
    have h1 := ces_set sp es i b (by simpa using h)
    have e0 : (i + 1) * 6 = i * 6 + 1 + 1 + 1 + 1 + 1 + 1 := by omega
    simp only [ces, List.set_cons_succ, CE.cells, kcells, e0, List.cons_append, List.nil_append]
    rw [← h1]
theorem crow_cell {w : World} {g i j : Nat} {l : List CE} {sp : List Value} {t : CE} {v : Value} (h : Blk w g 45 (ces l ++ sp)) (ht : l[i]? = some t) (hj : j < 6) (hv : t.cells[j]? = some v) : w.cell? ⟨g, i * 6 + j, none⟩ = some v := by
  have h1 := ces_at l i j t v ht hj hv
  rw [h.cell, List.getElem?_append_left (List.getElem?_eq_some_iff.1 h1).1, h1]
theorem crow_put {w w' : World} {g i : Nat} {l : List CE} {sp : List Value} {b : CE} (h : Blk w g 45 (ces l ++ sp)) (hi : i < l.length)
    (hw : w' = (((((w.setCell ⟨g, i * 6, none⟩ (.int .i64 b.f.k.i)).setCell ⟨g, i * 6 + 1, none⟩ (.int .u8 (b.f.k.t : Nat))).setCell ⟨g, i * 6 + 2, none⟩ (.string b.f.k.n)).setCell ⟨g, i * 6 + 3, none⟩ (.int .i64 b.f.k.c)).setCell ⟨g, i * 6 + 4, none⟩ (.slice b.A b.f.v.length b.c)).setCell ⟨g, i * 6 + 5, none⟩ (.bool b.f.g)) :
    Blk w' g 45 (ces (l.set i b) ++ sp) ∧ Kept (· = g) w w' := by
  subst hw
  refine ⟨?_, (((((Kept.set1 w g _ _).setCell (p := ⟨g, _, none⟩) (fun _ => rfl) _).setCell (p := ⟨g, _, none⟩) (fun _ => rfl) _).setCell (p := ⟨g, _, none⟩) (fun _ => rfl) _).setCell (p := ⟨g, _, none⟩) (fun _ => rfl) _).setCell (p := ⟨g, _, none⟩) (fun _ => rfl) _⟩
  have := (((((h.put (i * 6) (.int .i64 b.f.k.i)).put (i * 6 + 1) (.int .u8 (b.f.k.t : Nat))).put (i * 6 + 2) (.string b.f.k.n)).put (i * 6 + 3) (.int .i64 b.f.k.c)).put (i * 6 + 4) (.slice b.A b.f.v.length b.c)).put (i * 6 + 5) (.bool b.f.g)
  rw [ces_set sp l i b hi] at this
  exact this

set_option maxRecDepth 100000 in
theorem cmpC_any (x y : CE) (u : World) :
    Calls Try.prog 33 #[.agg #[.int .i64 x.f.k.i, .int .u8 (x.f.k.t : Nat), .string x.f.k.n, .int .i64 x.f.k.c, .slice x.A x.f.v.length x.c, .bool x.f.g], .agg #[.int .i64 y.f.k.i, .int .u8 (y.f.k.t : Nat), .string y.f.k.n, .int .i64 y.f.k.c, .slice y.A y.f.v.length y.c, .bool y.f.g]] u (NewNum u (cmpK x.f.k y.f.k)) := by
  have HC : Hid (∀ v, New u v → Calls Try.prog 34 #[.agg #[.int .i64 x.f.k.i, .int .u8 (x.f.k.t : Nat), .string x.f.k.n, .int .i64 x.f.k.c], .agg #[.int .i64 y.f.k.i, .int .u8 (y.f.k.t : Nat), .string y.f.k.n, .int .i64 y.f.k.c]] v (NewNum u (cmpK x.f.k y.f.k))) := fun v hv =>
    (compare_any x.f.k y.f.k v).mono fun e w' h => ⟨h.1, hv.new h.2⟩
  generalize cmpK x.f.k y.f.k = z at *
  go_enter Try.func33, Try.ntmps33
  go_wp2_with fail
  refine (HC.out _ (((Kept.refl _ _).alloc _).alloc _)).mono ?_
  rintro e w2 ⟨rfl, h2⟩
  go_wp2
  go_ret
  exact ⟨rfl, h2⟩
end Go.Proofs.Ytgdhbnhdmhogkaa
