/-
  A key taken off of bytes: what they say, and the program's contract.
-/
import Derived.Test.YtgdhbnhdmhogkaaFh
import Derived.Handy
namespace Go.Proofs.Ytgdhbnhdmhogkaa
open Go.RowKit
variable {Q : Nat → Prop}

def tkT (l : List Nat) : Nat := takeV (takeL l 2) 1
def tk3 (l : List Nat) : List Nat := takeL (takeL l 2) 1
/-- A key's bytes taken off, whatever it says: the error, what is left, the key. -/
def tkE (l : List Nat) : Int :=
  if takeE l 2 ≠ 0 then takeE l 2 else if takeE (takeL l 2) 1 ≠ 0 then takeE (takeL l 2) 1 else if tkT l = 2 then rwE (tk3 l) else if tkT l = 3 then takeE (tk3 l) 1 else 0
def tkR (l : List Nat) : List Nat :=
  if takeE l 2 ≠ 0 then takeL l 2 else if takeE (takeL l 2) 1 ≠ 0 then takeL (takeL l 2) 1 else if tkT l = 2 then rwR (tk3 l) else if tkT l = 3 then takeL (tk3 l) 1 else tk3 l
def tkK (l : List Nat) : KY := ⟨(takeV l 2 : Nat), tkT l, if tkT l = 2 then strN (rwL (tk3 l)) else ⟨#[]⟩, if tkT l = 3 then (takeV (tk3 l) 1 : Nat) else 0⟩
def gkE (l : List Nat) : Int := if tkE l ≠ 0 then tkE l else if mayK (tkK l) = true then 0 else 5
def gkK (l : List Nat) : KY := if gkE l = 0 then tkK l else ⟨0, 0, ⟨#[]⟩, 0⟩

theorem sz1 : isSz 1 := .inl rfl
theorem sz2 : isSz 2 := .inr (.inl rfl)
theorem takeV_lt {l : List Nat} (h : ∀ x ∈ l, x < 256) {s : Nat} (hs : isSz (s : Nat)) : takeV l (s : Nat) < 256 ^ s := by
  unfold takeV
  rw [if_pos hs, Int.toNat_natCast]
  split
  · rename_i hl
    have := leV_lt (l.take s) fun x hx => h x (List.mem_of_mem_take hx)
    rwa [List.length_take, Nat.min_eq_left hl] at this
  · exact Nat.pow_pos (by omega)
theorem takeL_in {l : List Nat} (h : ∀ x ∈ l, x < 256) (s : Int) : ∀ x ∈ takeL l s, x < 256 := by
  unfold takeL
  split
  · split
    · exact fun x hx => h x (List.mem_of_mem_drop hx)
    · simp
  · exact h
theorem takeE_cases (l : List Nat) {s : Int} (hs : isSz s) : takeE l s = 0 ∨ takeE l s = 4 := by
  unfold takeE
  rw [if_pos hs]
  split <;> simp
theorem rwE_cases (l : List Nat) : rwE l = 0 ∨ rwE l = 4 := by
  cases l with
  | nil => simp [rwE]
  | cons n r => simp only [rwE]; split <;> simp
theorem rwL_len {l : List Nat} (h : ∀ x ∈ l, x < 256) : (rwL l).length ≤ 255 := by
  cases l with
  | nil => simp [rwL]
  | cons n r =>
    have := h n (by simp)
    simp only [rwL]
    split
    · rw [List.length_take]; omega
    · simp
theorem tkK_name {l : List Nat} (h : ∀ x ∈ l, x < 256) : (tkK l).n.size ≤ 255 := by
  unfold tkK
  dsimp only
  split
  · rw [strN_size]; exact rwL_len (takeL_in (takeL_in h 2) 1)
  · exact Nat.zero_le _
theorem tkE_cases (l : List Nat) : tkE l = 0 ∨ tkE l = 4 := by
  unfold tkE
  split
  · exact takeE_cases l sz2
  · split
    · exact takeE_cases _ sz1
    · split
      · exact rwE_cases _
      · split
        · exact takeE_cases _ sz1
        · exact .inl rfl

theorem key_store {w w' : World} {g : Nat} {k0 k : KY} (h : Blk w g 25 (kcells k0))
    (hw : w' = (((w.setCell ⟨g, 0, none⟩ (.int .i64 k.i)).setCell ⟨g, 1, none⟩ (.int .u8 (k.t : Nat))).setCell ⟨g, 2, none⟩ (.string k.n)).setCell ⟨g, 3, none⟩ (.int .i64 k.c)) :
    Blk w' g 25 (kcells k) ∧ Kept (· = g) w w' := by
  subst hw
  exact ⟨(((h.put 0 (.int .i64 k.i)).put 1 (.int .u8 (k.t : Nat))).put 2 (.string k.n)).put 3 (.int .i64 k.c), (((Kept.set1 w g _ _).setCell (p := ⟨g, _, none⟩) (fun _ => rfl) _).setCell (p := ⟨g, _, none⟩) (fun _ => rfl) _).setCell (p := ⟨g, _, none⟩) (fun _ => rfl) _⟩
theorem kcells4 {w : World} {g : Nat} {k : KY} (h : Blk w g 25 (kcells k)) :
    w.cell? ⟨g, 0, none⟩ = some (.int .i64 k.i) ∧ w.cell? ⟨g, 1, none⟩ = some (.int .u8 (k.t : Nat)) ∧ w.cell? ⟨g, 2, none⟩ = some (.string k.n) ∧ w.cell? ⟨g, 3, none⟩ = some (.int .i64 k.c) :=
  ⟨h.cell 0, h.cell 1, h.cell 2, h.cell 3⟩
theorem kfree4 {w : World} {g : Nat} {k : KY} (h : Blk w g 25 (kcells k)) :
    w.frozen? ⟨g, 0, none⟩ = false ∧ w.frozen? ⟨g, 1, none⟩ = false ∧ w.frozen? ⟨g, 2, none⟩ = false ∧ w.frozen? ⟨g, 3, none⟩ = false :=
  ⟨h.free 0, h.free 1, h.free 2, h.free 3⟩
end Go.Proofs.Ytgdhbnhdmhogkaa
