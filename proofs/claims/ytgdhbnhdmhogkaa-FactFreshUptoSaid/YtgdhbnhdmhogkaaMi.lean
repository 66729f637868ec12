/-
  The library's stable sort of changes: what it has to leave; of no change, of one.
-/
import Derived.Test.YtgdhbnhdmhogkaaMf
import Derived.Test.YtgdhbnhdmhogkaaMh
namespace Go.Proofs.Ytgdhbnhdmhogkaa
open Go.ChangeShapes Go.WideShapes Go.ChangeAt Go.RowKit

/-- Changes by rising key. -/
def ordC : List CT → Prop
  | [] => True
  | c :: r => (∀ d ∈ r, befK d.k c.k = false) ∧ ordC r
/-- What a stable sort of the row (A, n) leaves. -/
def SortP (w : World) (B : Nat) (A : Option Addr) (n c : Nat) (es : List CE) (e : Ending) (w' : World) : Prop :=
  e = .returned (.tuple #[]) ∧ ∃ ds, ds.length = n ∧ ordC (cts ds) ∧ (∀ k, ds.filter (fun d => decide (d.f.k = k)) = es.filter (fun d => decide (d.f.k = k))) ∧ OwnV w' 45 6 B A n c (ces ds) ∧ Kept (InRow A) w w'
/-- The sort does so, of n changes. -/
def SortC (n : Nat) : Prop := ∀ (B : Nat) (A : Option Addr) (c : Nat) (es : List CE) (w : World), es.length = n → OwnV w 45 6 B A n c (ces es) → n ≤ maxLen →
  Calls Try.prog 32 #[.slice A n c, .func (.func 33) #[] #[]] w (SortP w B A n c es)

theorem SortP.same {w : World} {B n c : Nat} {A : Option Addr} {es : List CE} (hl : es.length = n) (ho : OwnV w 45 6 B A n c (ces es)) (hn : n ≤ 1) : SortP w B A n c es (.returned (.tuple #[])) w := by
  refine ⟨rfl, es, hl, ?_, fun _ => rfl, ho, Kept.refl _ _⟩
  rcases es with _ | ⟨e, _ | ⟨e', r⟩⟩
  · trivial
  · exact ⟨by simp, trivial⟩
  · simp at hl; omega

set_option maxRecDepth 100000 in
theorem ins_one (A : Option Addr) (n c : Nat) (w : World) (hn : n ≤ 1) :
    Calls Try.prog 48 #[.slice A n c, .int .i64 0, .int .i64 (n : Nat), .func (.func 33) #[] #[]] w (fun e w' => e = .returned (.tuple #[]) ∧ w' = w) := by
  have j1 : decide ((1 : Int) < (n : Int)) = false := decide_eq_false (by omega)
  go_enter Try.func48, Try.ntmps48
  go_wp2_with fail
  refine wp_loop_rounds 1 ?_
  rw [rounds_succ]
  go_wp2
  go_end0
  exact ⟨rfl, rfl⟩

set_option maxRecDepth 100000 in
theorem stable_one (A : Option Addr) (n c : Nat) (w : World) (hn : n ≤ 1) :
    Calls Try.prog 39 #[.slice A n c, .int .i64 (n : Nat), .func (.func 33) #[] #[]] w (fun e w' => e = .returned (.tuple #[]) ∧ w' = w) := by
  have HN := Lib.hid hn
  have j1 : decide ((20 : Int) ≤ (n : Int)) = false := decide_eq_false (by omega)
  have j2 : decide ((20 : Int) < (n : Int)) = false := decide_eq_false (by omega)
  clear hn
  go_enter Try.func39, Try.ntmps39
  go_wp2_with fail
  refine wp_loop_rounds 1 ?_
  rw [rounds_succ]
  go_wp2_with fail
  refine (ins_one A n c _ HN.out).mono ?_
  rintro r w2 ⟨rfl, rfl⟩
  go_wp2_with fail
  refine wp_loop_rounds 1 ?_
  rw [rounds_succ]
  go_wp2
  go_end0
  exact ⟨rfl, rfl⟩

set_option maxRecDepth 100000 in
theorem sort_one {n : Nat} (hn : n ≤ 1) : SortC n := by
  intro B A c es w hl ho _
  have HR := Lib.hid (SortP.same hl ho hn)
  have HN := Lib.hid hn
  clear hl ho hn
  go_enter Try.func32, Try.ntmps32
  go_wp2_with fail
  refine (stable_one A n c _ HN.out).mono ?_
  rintro r w2 ⟨rfl, rfl⟩
  go_wp2
  go_end0
  exact HR.out
end Go.Proofs.Ytgdhbnhdmhogkaa
