/-
  Changes in memory: a list that is read, a list of the call's own; a copy of it.
-/
import Derived.Test.YtgdhbnhdmhogkaaMg
namespace Go.Proofs.Ytgdhbnhdmhogkaa
open Go.RowKit

theorem info_change : (Try.prog.info? 45).map (fun i => (i.zero, i.size, i.bytes)) = some (some (.agg #[.int .i64 0, .int .u8 0, .string ⟨#[]⟩, .int .i64 0, .slice none 0 0, .bool false]), 6, 72) := by kernel_rfl

/-- A change as it lies: its value's address and room. -/
structure CE where
  f : CT
  A : Option Addr
  c : Nat
def CE.cells (e : CE) : List Value := kcells e.f.k ++ [.slice e.A e.f.v.length e.c, .bool e.f.g]
def ces : List CE → List Value
  | [] => []
  | e :: r => e.cells ++ ces r
theorem ce_len (e : CE) : e.cells.length = 6 := rfl
theorem ces_len : ∀ (es : List CE), (ces es).length = es.length * 6
  | [] => rfl
  | e :: r => by simp only [ces, List.length_append, ce_len, ces_len r, List.length_cons]; omega
theorem ces_append : ∀ (a b : List CE), ces (a ++ b) = ces a ++ ces b
  | [], b => rfl
  | e :: a, b => by simp only [List.cons_append, ces, ces_append a b, List.append_assoc]
theorem ces_at : ∀ (es : List CE) (i j : Nat) (e : CE) (u : Value), es[i]? = some e → j < 6 → e.cells[j]? = some u → (ces es)[i * 6 + j]? = some u
  | [], i, j, e, u, h, _, _ => by simp at h
  | x :: r, 0, j, e, u, h, hj, hu => by
    simp at h
    subst h
    simp only [ces, Nat.zero_mul, Nat.zero_add]
    rw [List.getElem?_append_left (by rw [ce_len]; exact hj)]
    exact hu
  | x :: r, i + 1, j, e, u, h, hj, hu => by
    simp only [ces]
    rw [List.getElem?_append_right (by rw [ce_len]; omega), ce_len, show (i + 1) * 6 + j - 6 = i * 6 + j by omega]
    exact ces_at r i j e u (by simpa using h) hj hu
theorem ces_one : ∀ (es : List CE), ∀ u ∈ ces es, u.oneCell' = true
  | [], u, h => by simp [ces] at h
  | e :: r, u, h => by
    rcases List.mem_append.1 h with h | h
    · simp [CE.cells, kcells] at h
      rcases h with rfl | rfl | rfl | rfl | rfl | rfl <;> rfl
    · exact ces_one r u h

/-- Its value reads as it should, and is not too large. -/
def COk (w : World) (e : CE) : Prop := Bts w e.A e.f.v.length e.f.v ∧ (e.A = none → e.c = 0 ∧ e.f.v.length = 0) ∧ e.f.v.length ≤ 140737488351232 ∧ e.f.k.n.size ≤ maxLen
/-- The slice (A, n) reads as the changes es. -/
def CIn (w : World) (A : Option Addr) (n : Nat) (es : List CE) : Prop := RowV w A n 6 (ces es) ∧ ∀ e ∈ es, COk w e

section
variable {S : Nat → Prop} {w w' : World} {A : Option Addr} {n c B : Nat} {es : List CE}
theorem COk.kept {e : CE} (h : COk w e) (hk : Kept S w w') (hn : ∀ a, e.A = some a → ¬ S a.block) : COk w' e := ⟨h.1.kept hk hn, h.2⟩
theorem COk.new {e : CE} (h : COk w e) (hk : New w w') : COk w' e := h.kept hk fun _ _ f => f
theorem CIn.new (h : CIn w A n es) (hk : New w w') : CIn w' A n es := ⟨h.1.new hk, fun e he => (h.2 e he).new hk⟩
theorem CIn.len (h : CIn w A n es) : es.length = n := by have := h.1.1; rw [ces_len] at this; omega
theorem CIn.drewN (h : CIn w A n es) (q : Nat) : CIn (w.drewN q) A n es := h.new ((Kept.refl _ _).drewN q)
theorem CIn.nil (w : World) (A : Option Addr) : CIn w A 0 [] := ⟨RowV.nil w A 6, by simp⟩
/-- What stands at a place. -/
theorem rowC_at {i : Nat} (h : RowV w A n 6 (ces es)) (hi : i < n) : ∃ (g o : Nat) (e : CE), A = some ⟨g, o, none⟩ ∧ es[i]? = some e ∧
    w.cell? ⟨g, o + i * 6, none⟩ = some (.int .i64 e.f.k.i) ∧ w.cell? ⟨g, o + i * 6 + 1, none⟩ = some (.int .u8 (e.f.k.t : Nat)) ∧ w.cell? ⟨g, o + i * 6 + 2, none⟩ = some (.string e.f.k.n) ∧
    w.cell? ⟨g, o + i * 6 + 3, none⟩ = some (.int .i64 e.f.k.c) ∧ w.cell? ⟨g, o + i * 6 + 4, none⟩ = some (.slice e.A e.f.v.length e.c) ∧ w.cell? ⟨g, o + i * 6 + 5, none⟩ = some (.bool e.f.g) := by
  have hl : es.length = n := by have := h.1; rw [ces_len] at this; omega
  obtain ⟨h1, h2⟩ := h
  obtain ⟨g, o, rfl, hat⟩ := h2 (by omega)
  have hi' : i < es.length := by omega
  have he : es[i]? = some es[i] := List.getElem?_eq_getElem hi'
  have key : ∀ j u, j < 6 → es[i].cells[j]? = some u → w.cell? ⟨g, o + i * 6 + j, none⟩ = some u := fun j u hj hu => by
    rw [Nat.add_assoc]
    exact hat _ _ (ces_at es i j _ u he hj hu)
  exact ⟨g, o, es[i], rfl, he, key 0 _ (by omega) rfl, key 1 _ (by omega) rfl, key 2 _ (by omega) rfl, key 3 _ (by omega) rfl, key 4 _ (by omega) rfl, key 5 _ (by omega) rfl⟩
end

/-- The changes alone. -/
def cts (es : List CE) : List CT := es.map (·.f)
theorem cts_len (es : List CE) : (cts es).length = es.length := by unfold cts; rw [List.length_map]

/-- What slices.Clone answers, and leaves. -/
def RetC (w : World) (n : Nat) (es : List CE) (e : Ending) (w' : World) : Prop :=
  ∃ A c, e = .returned (.slice A n c) ∧ OwnV w' 45 6 w.heap.size A n c (ces es) ∧ New w w'

set_option maxRecDepth 100000 in
theorem cloneChanges_any (A : Option Addr) (n c : Nat) (es : List CE) (w : World) (ha : RowV w A n 6 (ces es)) (hn : n * 72 ≤ 140737488351232) (hA : A = none → c = 0 ∧ n = 0) :
    Calls Try.prog 31 #[.slice A n c] w (RetC w n es) := by
  obtain ⟨i0, hi, hz0, hz1, hz2⟩ := info_parts info_change
  have hq := fun w a n c => Lib.run_eql_slice_nil (P := Try.prog) w 23 45 a n c 0 0 Try.underlying23
  have H1 := Lib.hid (ces_one es)
  rcases A with _ | a
  · obtain ⟨rfl, rfl⟩ := hA rfl
    have h0 : ces es = [] := List.eq_nil_of_length_eq_zero (by simpa using ha.1)
    have E : Hid (RetC w 0 es (.returned (.slice none 0 0)) w) := ⟨none, 0, rfl, by rw [h0]; exact OwnV.nil _ _ _ _, Kept.refl _ _⟩
    clear hA ha
    go_enter Try.func31, Try.ntmps31
    go_wp2
    go_ret
    exact E.out
  · have Ha := Lib.hid ha
    have Hz : Hid (6 = i0.size) := hz1.symm
    clear hA ha
    go_enter Try.func31, Try.ntmps31
    go_wp2_with (at_builtin; refine wpList_append_rowV _ rfl _ _ _ rfl 45 i0 (.agg #[.int .i64 0, .int .u8 0, .string ⟨#[]⟩, .int .i64 0, .slice none 0 0, .bool false]) Try.underlying23 hi hz0 ?_ ?_ w.heap.size (some ⟨w.heap.size, 0, none⟩) 0 0 [] rfl ?_ (some a) n c (ces es) rfl ?_ H1.out ?_ ?_ ?_ ?_)
    · rw [← Hz.out]; rfl
    · rw [← Hz.out]; omega
    · exact ⟨by simp, Nat.le_refl _, by simp, .inr ⟨_, [], rfl, Nat.le_refl _, Blk.made w 45 #[], by simp⟩⟩
    · rw [← Hz.out]; exact Ha.out.new ((Kept.refl _ _).alloc _)
    · rw [hz2]; omega
    · omega
    · simp
    intro A2 c2 w2 hown hg _
    go_wp2
    go_ret
    exact ⟨A2, c2, by simp, by simpa [Hz.out.symm] using hown.out, ((Kept.refl _ _).alloc _).grown hg.out (by simp; omega)⟩
end Go.Proofs.Ytgdhbnhdmhogkaa
