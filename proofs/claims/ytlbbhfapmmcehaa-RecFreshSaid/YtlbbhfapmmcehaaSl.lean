/-
  The contract of the reference's Less.
-/
import Derived.Test.YtlbbhfapmmcehaaSj
namespace Go.Proofs.Ytlbbhfapmmcehaa
set_option maxRecDepth 100000
open Go.ChangeShapes Go.WideShapes Go.ChangeAt Go.RowKit

theorem take_same (l k : List Nat) (j x y : Nat) (hx : l[j]? = some x) (hy : k[j]? = some y) : (decide (l.take j = k.take j) && (((x : Int) == (y : Int)) : Bool)) = decide (l.take (j + 1) = k.take (j + 1)) := by
  have hl : j < l.length := (List.getElem?_eq_some_iff.1 hx).1
  have hk : j < k.length := (List.getElem?_eq_some_iff.1 hy).1
  rw [List.take_succ_eq_append_getElem hl, List.take_succ_eq_append_getElem hk, (List.getElem?_eq_some_iff.1 hx).2, (List.getElem?_eq_some_iff.1 hy).2, Bool.eq_iff_iff]
  simp only [Bool.and_eq_true, decide_eq_true_eq, beq_iff_eq]
  constructor
  · rintro ⟨h1, h2⟩
    rw [h1, show x = y from by omega]
  · intro h
    have := List.append_inj h (by rw [List.length_take, List.length_take]; omega)
    refine ⟨this.1, ?_⟩
    have h2 := this.2
    simp at h2
    omega

theorem pow_small (t kk : Nat) (h : kk = 2 ^ t) (ht : t < 8) : 1 ≤ kk ∧ kk ≤ 128 := by
  have h8 : t = 0 ∨ t = 1 ∨ t = 2 ∨ t = 3 ∨ t = 4 ∨ t = 5 ∨ t = 6 ∨ t = 7 := by omega
  rcases h8 with rfl | rfl | rfl | rfl | rfl | rfl | rfl | rfl <;> simp at h <;> omega

def clean (y x t : Nat) : Prop := ∀ s, s < t → ¬ (y / 2 ^ s % 2 = 1 ∧ x / 2 ^ s % 2 = 0)

theorem bits_next {y x t : Nat} (h : clean y x t) (hf : ¬ (y / 2 ^ t % 2 = 1 ∧ x / 2 ^ t % 2 = 0)) : clean y x (t + 1) := by
  intro s hs
  rcases Nat.lt_or_ge s t with h' | h'
  · exact h s h'
  · obtain rfl : s = t := by omega
    exact hf

theorem rNoughts_v (A : Option Addr) (n c : Nat) (l : List Nat) (w : World) (ha : Bts w A n l) (hn : n ≤ 140737488355328) (no : Nat) (h : noughts l = no) :
    Calls Try.prog 56 #[.slice A n c] w fun e w' => e = .returned (.int .i64 no) ∧ w = w' := by subst h; exact rNoughts_any A n c l w ha hn
end Go.Proofs.Ytlbbhfapmmcehaa
