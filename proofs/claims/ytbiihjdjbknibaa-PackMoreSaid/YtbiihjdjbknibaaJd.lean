/-
  Contracts: pages of drops, and what bodies of drops say, of the program and of the reference.
-/
import Derived.Test.YtbiihjdjbknibaaJe
namespace Go.Proofs.Ytbiihjdjbknibaa
set_option maxRecDepth 100000
open Go.RowKit

/-- A drop's page, or the error. -/
def pdL (n : Int) (q : Nat) : List Nat := if q = 0 then [] else sPutL n 3 (leB q 8)
def pdE (n : Int) (q : Nat) : Int := if q = 0 then 2 else sPutE n 3 (leB q 8)
/-- What a drop's body says, or the error. -/
def gdV (l : List Nat) : Nat := if l.length = 8 then leV l else 0
def gdE (l : List Nat) : Int := if gdV l = 0 then 5 else 0

theorem sz8 : isSz 8 := .inr (.inr (.inr rfl))

theorem fit8 {q : Nat} (h : q < 18446744073709551616) : fitB q 8 = true := decide_eq_true h

theorem leB8_len (q : Nat) : (leB q 8).length = 8 := leB_length q 8

/-- A number and an error come back. -/
def NumP (w : World) (v : Nat) (E : Int) (e : Ending) (w' : World) : Prop := e = .returned (.tuple #[.int .u64 (v : Nat), .int .i64 E]) ∧ New w w'

theorem num_5 {w u : World} {gv : Nat} {ge : Int} (h1 : gv = 0) (h2 : ge = 5) (k : New w u) : NumP w gv ge (.returned (.tuple #[.int .u64 0, .int .i64 5])) u := by subst h1 h2; exact ⟨rfl, k⟩

theorem num_0 {w u : World} {gv : Nat} {ge : Int} (h2 : ge = 0) (k : New w u) : NumP w gv ge (.returned (.tuple #[.int .u64 (gv : Nat), .int .i64 0])) u := by subst h2; exact ⟨rfl, k⟩

theorem gd_take {l : List Nat} (h : l.length = 8) : takeV l 8 = leV l ∧ takeE l 8 = 0 ∧ takeL l 8 = [] := by
  have e : ((8 : Int)).toNat = 8 := rfl
  unfold takeV takeE takeL
  rw [if_pos sz8, if_pos sz8, if_pos sz8, e, if_pos (by omega), if_pos (by omega), if_pos (by omega), List.take_of_length_le (by omega), List.drop_of_length_le (by omega)]
  exact ⟨rfl, rfl, rfl⟩

theorem gd_more {l : List Nat} (h : 8 < l.length) : takeE l 8 = 0 ∧ 0 < (takeL l 8).length := by
  have e : ((8 : Int)).toNat = 8 := rfl
  unfold takeE takeL
  rw [if_pos sz8, if_pos sz8, e, if_pos (by omega), if_pos (by omega), List.length_drop]
  exact ⟨rfl, by omega⟩

theorem gd_less {l : List Nat} (h : l.length < 8) : takeE l 8 = 4 := by
  have e : ((8 : Int)).toNat = 8 := rfl
  unfold takeE
  rw [if_pos sz8, e, if_neg (by omega)]

theorem gd_eq {l : List Nat} (h : l.length = 8) : gdV l = leV l := by unfold gdV; rw [if_pos h]

theorem gd_ne {l : List Nat} (h : l.length ≠ 8) : gdV l = 0 ∧ gdE l = 5 := by
  have : gdV l = 0 := by unfold gdV; rw [if_neg h]
  exact ⟨this, by unfold gdE; rw [if_pos this]⟩

theorem pdL_len (n : Int) (q : Nat) : (pdL n q).length ≤ 256 := by
  unfold pdL sPutL
  split
  · simp
  split
  · rename_i h
    have h1 := h.1
    unfold isPg at h1
    rw [page_length _ _ _ (by omega)]
    omega
  · simp
end Go.Proofs.Ytbiihjdjbknibaa
