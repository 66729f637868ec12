/-
  A short list of taken blocks is sorted: by insertion, as the library does it below 20.
-/
import Derived.Test.YtgfdiboaiifdnaaGreatGk
import Derived.Deep.RegionHeld3
import Derived.BigRegion
namespace Go.Proofs.YtgfdiboaiifdnaaGreat
open Go.ChangeShapes Go.WideShapes Go.ChangeAt Go.RowKit

/-- A taken block as it is told. -/
structure TK where
  b : Nat
  k : Nat
  e : Nat
  s : Nat
  bad : Bool
def TK.cells (t : TK) : List Value := [.int .i64 (t.b : Nat), .int .u8 (t.k : Nat), .int .u32 (t.e : Nat), .int .u64 (t.s : Nat), .bool t.bad]
def tRow : List TK → List Value → List Value
  | [], junk => junk
  | t :: l, junk => t.cells ++ tRow l junk
theorem tRow_get (junk : List Value) (l : List TK) (j : Nat) (v : Value) : ∀ (i : Nat) (t : TK), l[i]? = some t → j < 5 → t.cells[j]? = some v → (tRow l junk)[i * 5 + j]? = some v := by
  induction l with
  | nil => intro i b h; simp at h
  | cons c l ih =>
    intro i b h hj hv
    cases i with
    | zero =>
      simp at h
      subst h
      simp only [tRow, Nat.zero_mul, Nat.zero_add]
      rw [List.getElem?_append_left (by simp [TK.cells]; omega)]
      exact hv
    | succ i =>
      simp only [tRow]
      rw [List.getElem?_append_right (by simp [TK.cells]; omega), show (i + 1) * 5 + j - c.cells.length = i * 5 + j by simp [TK.cells]; omega]
      exact ih i b (by simpa using h) hj hv
theorem tRow_set (junk : List Value) (l : List TK) (b : TK) : ∀ (i : Nat), i < l.length → (((((tRow l junk).set (i * 5) (.int .i64 (b.b : Nat))).set (i * 5 + 1) (.int .u8 (b.k : Nat))).set (i * 5 + 2) (.int .u32 (b.e : Nat))).set (i * 5 + 3) (.int .u64 (b.s : Nat))).set (i * 5 + 4) (.bool b.bad) = tRow (l.set i b) junk := by
  induction l with
  | nil => intro i h; simp at h
  | cons c l ih =>
    intro i h
    cases i with
    | zero => simp [tRow, TK.cells]
    | succ i =>
      have h1 := ih i (by simpa using h)
      have e0 : (i + 1) * 5 = i * 5 + 1 + 1 + 1 + 1 + 1 := by omega
      simp only [tRow, List.set_cons_succ, TK.cells, e0, List.cons_append, List.nil_append]
      rw [← h1]

def seqAt (l : List TK) (i : Nat) : Nat := ((l[i]?).map TK.s).getD 0
/-- The elements at j and j + 1 change their places. -/
def swp (l : List TK) (j : Nat) : List TK := match l[j]?, l[j + 1]? with | some x, some y => (l.set (j + 1) x).set j y | _, _ => l
def bub : Nat → List TK → List TK
  | 0, l => l
  | j + 1, l => if seqAt l (j + 1) < seqAt l j then bub j (swp l j) else l
def insG (l : List TK) : Nat → List TK
  | 0 => l
  | k + 1 => bub (k + 1) (insG l k)
theorem swp_len (l : List TK) (j : Nat) : (swp l j).length = l.length := by unfold swp; split <;> simp
theorem bub_len : ∀ (j : Nat) (l : List TK), (bub j l).length = l.length := by
  intro j
  induction j with
  | zero => intro l; rfl
  | succ j ih =>
    intro l
    simp only [bub]
    split
    · rw [ih, swp_len]
    · rfl
theorem insG_len (l : List TK) : ∀ k, (insG l k).length = l.length := by
  intro k
  induction k with
  | zero => rfl
  | succ k ih => simp only [insG]; rw [bub_len, ih]

def cmpV (x y : Nat) : Int := if x < y then -1 else if y < x then 1 else 0

set_option maxRecDepth 100000 in
set_option maxHeartbeats 800000 in
theorem cmpNaN_any (x : Nat) (w : World) : Calls Tryz.prog 50 #[.int .u64 (x : Nat)] w fun e w' => e = .returned (.bool false) ∧ w = w' := by
  go_enter Tryz.func50, Tryz.ntmps50
  go_wp2
  go_ret
  exact ⟨by simp, rfl⟩

set_option maxRecDepth 100000 in
set_option maxHeartbeats 800000 in
theorem cmpU_any (x y : Nat) (w : World) : Calls Tryz.prog 23 #[.int .u64 (x : Nat), .int .u64 (y : Nat)] w fun e w' => e = .returned (.int .i64 (cmpV x y)) ∧ w = w' := by
  rcases Nat.lt_trichotomy x y with h | h | h
  · have E : cmpV x y = -1 := by unfold cmpV; rw [if_pos h]
    rw [E]
    have j1 : decide (x < y) = true := decide_eq_true h
    go_enter Tryz.func23, Tryz.ntmps23
    go_wp2_with (first | (go_at_call 50; refine (cmpNaN_any _ _).mono ?_; rintro e w' ⟨rfl, rfl⟩))
    go_ret
    exact ⟨rfl, rfl⟩
  · have E : cmpV x y = 0 := by unfold cmpV; rw [if_neg (by omega), if_neg (by omega)]
    rw [E]
    subst h
    go_enter Tryz.func23, Tryz.ntmps23
    go_wp2_with (first | (go_at_call 50; refine (cmpNaN_any _ _).mono ?_; rintro e w' ⟨rfl, rfl⟩))
    go_ret
    exact ⟨rfl, rfl⟩
  · have E : cmpV x y = 1 := by unfold cmpV; rw [if_neg (by omega), if_pos h]
    rw [E]
    have j1 : decide (x < y) = false := decide_eq_false (by omega)
    have j2 : decide (y < x) = true := decide_eq_true h
    go_enter Tryz.func23, Tryz.ntmps23
    go_wp2_with (first | (go_at_call 50; refine (cmpNaN_any _ _).mono ?_; rintro e w' ⟨rfl, rfl⟩))
    go_ret
    exact ⟨rfl, rfl⟩

set_option maxRecDepth 100000 in
set_option maxHeartbeats 800000 in
theorem tkCmp_any (x y : TK) (w : World) : Calls Tryz.prog 22 #[.agg #[.int .i64 (x.b : Nat), .int .u8 (x.k : Nat), .int .u32 (x.e : Nat), .int .u64 (x.s : Nat), .bool x.bad], .agg #[.int .i64 (y.b : Nat), .int .u8 (y.k : Nat), .int .u32 (y.e : Nat), .int .u64 (y.s : Nat), .bool y.bad]] w
    fun e w' => e = .returned (.int .i64 (cmpV x.s y.s)) ∧ New w w' := by
  go_enter Tryz.func22, Tryz.ntmps22
  go_wp2_with fail
  refine (cmpU_any _ _ _).mono ?_
  rintro e w' ⟨rfl, rfl⟩
  go_wp2
  go_ret
  exact ⟨rfl, ((Kept.refl _ _).alloc _).alloc _⟩
end Go.Proofs.YtgfdiboaiifdnaaGreat
