/-
  The contract of the reference's Put.
-/
import Derived.Test.YtgfdiboaiifdnaaGreatSl
namespace Go.Proofs.YtgfdiboaiifdnaaGreat
open Go.ChangeShapes Go.WideShapes Go.ChangeAt Go.RowKit

def RPutP (w : World) (n : Int) (k : Nat) (b : List Nat) (e : Ending) (w' : World) : Prop :=
  ∃ A c, e = .returned (.tuple #[.slice A (sPutL n k b).length c, .int .i64 (sPutE n k b)]) ∧ OwnB w' 5 w.heap.size A c (sPutL n k b) ∧ New w w'

/-- How long a slice is. -/
def slLen : Value → Nat
  | .slice _ n _ => n
  | _ => 0

/-- What stands there while it is filled up. -/
def fill (k : Nat) (b : List Nat) (j : Nat) : List Nat := 0 :: 0 :: k :: (b.length % 256) :: (b.length / 256) :: (b ++ List.replicate j 255)
theorem fill_length (k : Nat) (b : List Nat) (j : Nat) : (fill k b j).length = b.length + j + 5 := by simp [fill]
theorem fill_next (k : Nat) (b : List Nat) (j : Nat) : fill k b j ++ [255] = fill k b (j + 1) := by
  simp [fill, List.replicate_succ']
theorem fill_rest (n k : Nat) (b : List Nat) (h : b.length + 5 ≤ n) (hn : n ≤ 256) : (fill k b (n - 5 - b.length)).drop 2 = rest n k b := by
  unfold rest fill
  rw [leB_two]
  have : b.length / 256 % 256 = b.length / 256 := Nat.mod_eq_of_lt (by omega)
  simp [this]
theorem fill_page (n k m : Nat) (b : List Nat) (h : b.length + 5 ≤ n) (hn : n ≤ 256) (hm : m = noughts (rest n k b)) : ((fill k b (n - 5 - b.length)).set 0 (m % 256)).set 1 (m / 256 % 256) = page n k b := by
  subst hm
  have e := fill_rest n k b h hn
  unfold page
  rw [leB_two, ← e]
  simp [fill]
theorem fill_bytes (k : Nat) (b : List Nat) (j : Nat) (hk : k < 256) (hb : IsBytes b) (hl : b.length ≤ 251) : IsBytes (fill k b j) := by
  intro x hx
  simp only [fill, List.mem_cons, List.mem_append] at hx
  rcases hx with rfl | rfl | rfl | rfl | rfl | hx | hx
  · omega
  · omega
  · exact hk
  · omega
  · omega
  · exact hb x hx
  · have := List.eq_of_mem_replicate hx; omega
end Go.Proofs.YtgfdiboaiifdnaaGreat
