/-
  The contract of the reference's Load.
-/
import Derived.Test.YtfhngcnphcjmgaaRe
namespace Go.Proofs.Ytfhngcnphcjmgaa
open Go.ChangeShapes Go.WideShapes Go.ChangeAt Go.RowKit

def RLoadP (w : World) (a b c d : Nat) (l : List Nat) (bl : List Int) (e : Ending) (w' : World) : Prop :=
  (allIn a bl → RefP w (loadS a b c d l bl) e w') ∧ (¬ allIn a bl → e = .returned (.tuple #[.pointer none, .int .i64 2]) ∧ New w w')
theorem RLoadP.no {w w' : World} {a b c d : Nat} {l : List Nat} {bl : List Int} {x : Int} (hx : x ∈ bl) (hn : ¬ (0 ≤ x ∧ x < a)) (hk : New w w') : RLoadP w a b c d l bl (.returned (.tuple #[.pointer none, .int .i64 2])) w' :=
  ⟨fun h => absurd (h x hx) hn, fun _ => ⟨rfl, hk⟩⟩

/-- The chip while its bytes are laid. -/
def ldS (a b c d : Nat) (l : List Nat) (k : Nat) : CSt := { newS a b c d with by_ := l.take k ++ List.replicate (a * b * c - k) 255 }
theorem ld_len {l : List Nat} {N k : Nat} (hl : l.length = N) (hk : k ≤ N) : (l.take k ++ List.replicate (N - k) 255).length = N := by simp; omega
theorem ld_step {l : List Nat} {N k x : Nat} (hl : l.length = N) (hk : k < N) (hx : l[k]? = some x) : (l.take k ++ List.replicate (N - k) 255).set k x = l.take (k + 1) ++ List.replicate (N - (k + 1)) 255 := by
  have h1 : (l.take k).length = k := by simp; omega
  have hkl : k < l.length := by omega
  rw [List.set_append_right _ _ (by omega), h1, Nat.sub_self, show N - k = (N - (k + 1)) + 1 from by omega, List.replicate_succ, List.set_cons_zero, List.take_succ_eq_append_getElem hkl, (List.getElem?_eq_some_iff.1 hx).2]
  simp
theorem ld_bytes {l : List Nat} (k m : Nat) (hb : IsBytes l) : IsBytes (l.take k ++ List.replicate m 255) := fun x hx => by
  rcases List.mem_append.1 hx with h | h
  · exact hb x (List.mem_of_mem_take h)
  · have := List.eq_of_mem_replicate h; omega
end Go.Proofs.Ytfhngcnphcjmgaa
