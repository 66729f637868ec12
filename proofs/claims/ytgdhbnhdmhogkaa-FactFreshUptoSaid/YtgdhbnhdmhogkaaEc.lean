/-
  Contracts of layer 1's reader: what it answers, what is left of it.
-/
import Derived.Test.YtgdhbnhdmhogkaaEb
namespace Go.Proofs.Ytgdhbnhdmhogkaa
open Go.RowKit
variable {Q : Nat → Prop}

/-- The number of bytes, the lowest first. -/
def leV : List Nat → Nat
  | [] => 0
  | x :: r => x + 256 * leV r
theorem leV_append (a b : List Nat) : leV (a ++ b) = leV a + 256 ^ a.length * leV b := by
  induction a with
  | nil => simp [leV]
  | cons x r ih => simp [leV, ih, Nat.pow_succ, Nat.mul_add, Nat.add_assoc, Nat.mul_assoc, Nat.mul_comm]
theorem leV_lt (a : List Nat) (h : ∀ x ∈ a, x < 256) : leV a < 256 ^ a.length := by
  induction a with
  | nil => simp [leV]
  | cons x r ih =>
    have h1 := h x (by simp)
    have h2 := ih fun y hy => h y (by simp [hy])
    simp only [leV, List.length_cons, Nat.pow_succ]
    omega

theorem pow256 (k : Nat) : (256 : Nat) ^ k = 2 ^ (8 * k) := by rw [show (256 : Nat) = 2 ^ 8 from rfl, Nat.pow_mul]
theorem or_shift (m x k : Nat) (hm : m < 256 ^ k) (hx : x < 256) (hk : k < 8) : bits .or .u64 (m : Int) (IntKind.u64.wrap ((x : Int) * 2 ^ (8 * k))) = ((m + 256 ^ k * x : Nat) : Int) := by
  rw [pow256] at hm ⊢
  have hp : (2 : Nat) ^ (8 * k) ≤ 2 ^ 56 := Nat.pow_le_pow_right (by omega) (by omega)
  have hlt : 2 ^ (8 * k) * x < 18446744073709551616 := by
    calc 2 ^ (8 * k) * x ≤ 2 ^ 56 * x := Nat.mul_le_mul_right _ hp
      _ < 18446744073709551616 := by omega
  have e : IntKind.u64.wrap ((x : Int) * 2 ^ (8 * k)) = ((2 ^ (8 * k) * x : Nat) : Int) := by
    have e2 : ((x : Int) * 2 ^ (8 * k)) = ((2 ^ (8 * k) * x : Nat) : Int) := by
      rw [Int.natCast_mul, Int.natCast_pow, Int.mul_comm]; rfl
    rw [IntKind.wrap_u64, e2]
    omega
  rw [e, u64_or_nat _ _ (by omega) hlt, Nat.or_comm, ← Nat.two_pow_add_eq_or_of_lt hm, Nat.add_comm]
theorem leV_take (l : List Nat) (k x : Nat) (hx : l[k]? = some x) : leV (l.take (k + 1)) = leV (l.take k) + 256 ^ k * x := by
  have hk : k < l.length := (List.getElem?_eq_some_iff.1 hx).1
  have e : l[k] = x := (List.getElem?_eq_some_iff.1 hx).2
  rw [List.take_succ_eq_append_getElem hk, leV_append, List.length_take, Nat.min_eq_left (by omega), e]
  simp [leV]

def takeE (l : List Nat) (s : Int) : Int := if isSz s then (if s.toNat ≤ l.length then 0 else 4) else 2
def takeL (l : List Nat) (s : Int) : List Nat := if isSz s then (if s.toNat ≤ l.length then l.drop s.toNat else []) else l
def takeV (l : List Nat) (s : Int) : Nat := if isSz s then (if s.toNat ≤ l.length then leV (l.take s.toNat) else 0) else 0

/-- A row that is taken off: is there one? -/
def isRow (l : List Nat) : Prop := ∃ n r, l = n :: r ∧ n ≤ r.length
end Go.Proofs.Ytgdhbnhdmhogkaa
