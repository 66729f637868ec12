/-
  The law's own geometry.
-/
import Derived.Test.YtfhngcnphcjmgaaRl
import Derived.Handy
namespace Go.Proofs.Ytfhngcnphcjmgaa
open Go.ChangeShapes Go.WideShapes Go.ChangeAt Go.RowKit

/-- The law's bounds on a geometry. -/
def wiB (a : Int) : Int := if 12 < a then 8 + a % 5 else a
def wiP (b : Int) : Int := if 6 < b then 4 + b % 3 else b

set_option maxRecDepth 100000 in
set_option maxHeartbeats 800000 in
theorem wi_any (a b c d : Int) (w : World) (K : Ending → World → Prop) (h : ∀ w', New w w' → K (.returned (.agg #[.int .i64 (wiB a), .int .i64 (wiP b), .int .i64 c, .int .i64 d])) w') :
    Calls Try.prog 44 #[.agg #[.int .i64 a, .int .i64 b, .int .i64 c, .int .i64 d]] w K := by
  have H := Lib.hid h
  clear h
  have m1 : 12 < a → a.tmod 5 = a % 5 := fun h => Int.tmod_eq_emod_of_nonneg (by omega)
  have m2 : 6 < b → b.tmod 3 = b % 3 := fun h => Int.tmod_eq_emod_of_nonneg (by omega)
  have w1 : IntKind.i64.wrap (a % 5) = a % 5 := by rw [IntKind.wrap_i64]; omega
  have w2 : IntKind.i64.wrap (8 + a % 5) = 8 + a % 5 := by rw [IntKind.wrap_i64]; omega
  have w3 : IntKind.i64.wrap (b % 3) = b % 3 := by rw [IntKind.wrap_i64]; omega
  have w4 : IntKind.i64.wrap (4 + b % 3) = 4 + b % 3 := by rw [IntKind.wrap_i64]; omega
  by_cases ha : 12 < a
  · have ea : wiB a = 8 + a % 5 := by unfold wiB; rw [if_pos ha]
    have M1 := m1 ha
    by_cases hb : 6 < b
    · have eb : wiP b = 4 + b % 3 := by unfold wiP; rw [if_pos hb]
      have M2 := m2 hb
      rw [ea, eb] at H
      clear ea eb m1 m2
      go_enter Try.func44, Try.ntmps44
      go_wp2
      go_returns
      exact H.out _ (((Kept.refl _ _).alloc _).alloc _)
    · have eb : wiP b = b := by unfold wiP; rw [if_neg hb]
      rw [ea, eb] at H
      clear ea eb m1 m2
      go_enter Try.func44, Try.ntmps44
      go_wp2
      go_returns
      exact H.out _ (((Kept.refl _ _).alloc _).alloc _)
  · have ea : wiB a = a := by unfold wiB; rw [if_neg ha]
    by_cases hb : 6 < b
    · have eb : wiP b = 4 + b % 3 := by unfold wiP; rw [if_pos hb]
      have M2 := m2 hb
      rw [ea, eb] at H
      clear ea eb m1 m2
      go_enter Try.func44, Try.ntmps44
      go_wp2
      go_returns
      exact H.out _ (((Kept.refl _ _).alloc _).alloc _)
    · have eb : wiP b = b := by unfold wiP; rw [if_neg hb]
      rw [ea, eb] at H
      clear ea eb m1 m2
      go_enter Try.func44, Try.ntmps44
      go_wp2
      go_returns
      exact H.out _ (((Kept.refl _ _).alloc _).alloc _)
end Go.Proofs.Ytfhngcnphcjmgaa
