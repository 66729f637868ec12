/-
  A key taken off of bytes: the program's contract, and the reference's.
-/
import Derived.Test.YtgdhbnhdmhogkaaFi
namespace Go.Proofs.Ytgdhbnhdmhogkaa
open Go.RowKit
variable {Q : Nat → Prop}

theorem gk_no {l : List Nat} (h : tkE l ≠ 0) : Ending.returned (.tuple #[.agg #[.int .i64 0, .int .u8 0, .string ⟨#[]⟩, .int .i64 0], .int .i64 (tkE l)]) =
    .returned (.tuple #[.agg #[.int .i64 (gkK l).i, .int .u8 ((gkK l).t : Nat), .string (gkK l).n, .int .i64 (gkK l).c], .int .i64 (gkE l)]) := by
  have e : gkE l = tkE l := by unfold gkE; rw [if_pos h]
  have e2 : gkK l = ⟨0, 0, ⟨#[]⟩, 0⟩ := by unfold gkK; rw [e, if_neg h]
  rw [e, e2]
  rfl
theorem gk_form {l : List Nat} (h : tkE l = 0) (h2 : mayK (tkK l) = false) : Ending.returned (.tuple #[.agg #[.int .i64 0, .int .u8 0, .string ⟨#[]⟩, .int .i64 0], .int .i64 5]) =
    .returned (.tuple #[.agg #[.int .i64 (gkK l).i, .int .u8 ((gkK l).t : Nat), .string (gkK l).n, .int .i64 (gkK l).c], .int .i64 (gkE l)]) := by
  have e : gkE l = 5 := by unfold gkE; rw [if_neg (by simpa using h), if_neg (by simp [h2])]
  have e2 : gkK l = ⟨0, 0, ⟨#[]⟩, 0⟩ := by unfold gkK; rw [e, if_neg (by decide)]
  rw [e, e2]
  rfl
theorem gk_ok {l : List Nat} (h : tkE l = 0) (h2 : mayK (tkK l) = true) (k : KY) (hk : k = tkK l) : Ending.returned (.tuple #[.agg #[.int .i64 k.i, .int .u8 (k.t : Nat), .string k.n, .int .i64 k.c], .int .i64 0]) =
    .returned (.tuple #[.agg #[.int .i64 (gkK l).i, .int .u8 ((gkK l).t : Nat), .string (gkK l).n, .int .i64 (gkK l).c], .int .i64 (gkE l)]) := by
  have e : gkE l = 0 := by unfold gkE; rw [if_neg (by simpa using h), if_pos h2]
  have e2 : gkK l = tkK l := by unfold gkK; rw [if_pos e]
  rw [e, e2, hk]
end Go.Proofs.Ytgdhbnhdmhogkaa
