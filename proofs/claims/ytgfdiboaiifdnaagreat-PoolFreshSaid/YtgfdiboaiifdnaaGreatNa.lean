/-
  Contracts of layer 3's small functions: geometries, erased bytes, clones of lists.
-/
import Derived.Test.YtgfdiboaiifdnaaGreatNm
import Derived.Test.YtgfdiboaiifdnaaGreatRo
import Derived.Test.YtgfdiboaiifdnaaGreatSd
import Derived.Test.YtgfdiboaiifdnaaGreatSc
namespace Go.Proofs.YtgfdiboaiifdnaaGreat
open Go.ChangeShapes Go.WideShapes Go.ChangeAt Go.RowKit

theorem info_bool : (Tryz.prog.info? 4).map (fun i => (i.zero, i.size, i.bytes)) = some (some (.bool false), 1, 1) := by kernel_rfl

theorem info_hit : (Tryz.prog.info? 92).map (fun i => (i.zero, i.size, i.bytes)) = some (some (.agg #[.int .i64 0, .bool false, .slice none 0 0]), 3, 40) := by kernel_rfl

/-- Is n one of the numbers from a to b? -/
def inB (n a b : Int) : Bool := decide (a ≤ n) && decide (n ≤ b)
theorem inB_yes {n a b : Int} (h : a ≤ n ∧ n ≤ b) : inB n a b = true := by unfold inB; simp; omega
theorem inB_no {n a b : Int} (h : ¬ (a ≤ n ∧ n ≤ b)) : inB n a b = false := by unfold inB; rw [Bool.eq_false_iff]; simp; omega

theorem within_any (n a b : Int) (w : World) :
    Calls Tryz.prog 57 #[.int .i64 n, .int .i64 a, .int .i64 b] w fun e w' => e = .returned (.bool (inB n a b)) ∧ w = w' := by
  by_cases h : a ≤ n
  · have e : inB n a b = decide (n ≤ b) := by unfold inB; simp [h]
    rw [e]
    by_cases h2 : n ≤ b
    · rw [decide_eq_true h2]
      go_enter Tryz.func57, Tryz.ntmps57
      go_wp2
      go_ret
      exact ⟨rfl, rfl⟩
    · rw [decide_eq_false h2]
      go_enter Tryz.func57, Tryz.ntmps57
      go_wp2
      go_ret
      exact ⟨rfl, rfl⟩
  · have e : inB n a b = false := inB_no (fun x => h x.1)
    rw [e]
    have h' : decide (a ≤ n) = false := decide_eq_false h
    go_enter Tryz.func57, Tryz.ntmps57
    go_wp2
    go_ret
    exact ⟨rfl, rfl⟩

/-- A geometry's value. -/
def geoV (a b c d : Int) : Value := .agg #[.int .i64 a, .int .i64 b, .int .i64 c, .int .i64 d]

/-- A bool comes back, and only new memory was written. -/
def BoolN (w : World) (b : Bool) (e : Ending) (w' : World) : Prop := e = .returned (.bool b) ∧ New w w'

def IntN (w : World) (n : Int) (e : Ending) (w' : World) : Prop := e = .returned (.int .i64 n) ∧ New w w'

theorem isGeo_any (a b c d : Int) (w : World) :
    Calls Tryz.prog 36 #[.agg #[.int .i64 a, .int .i64 b, .int .i64 c, .int .i64 d]] w (BoolN w (decide (geoOk a b c d))) := by
  by_cases h1 : 8 ≤ a ∧ a ≤ 64
  · have e1 := inB_yes h1
    by_cases h2 : 4 ≤ b ∧ b ≤ 32
    · have e2 := inB_yes h2
      by_cases h3 : 128 ≤ c ∧ c ≤ 256
      · have e3 := inB_yes h3
        have e4 : decide (geoOk a b c d) = inB d 0 4 := by
          by_cases h4 : 0 ≤ d ∧ d ≤ 4
          · rw [inB_yes h4, decide_eq_true_iff]; exact ⟨h1, h2, h3, h4⟩
          · rw [inB_no h4, decide_eq_false_iff_not]; exact fun x => h4 x.2.2.2
        rw [e4]
        clear e4 h1 h2 h3
        go_enter Tryz.func36, Tryz.ntmps36
        go_wp2_with (go_at_call 57; refine (within_any _ _ _ _).mono ?_; rintro e w' ⟨rfl, rfl⟩; (first | rw [e1] | rw [e2] | rw [e3] | skip))
        go_ret
        exact ⟨rfl, (Kept.refl _ _).alloc _⟩
      · have e3 := inB_no h3
        have e4 : decide (geoOk a b c d) = false := decide_eq_false fun x => h3 x.2.2.1
        rw [e4]
        clear e4 h1 h2 h3
        go_enter Tryz.func36, Tryz.ntmps36
        go_wp2_with (go_at_call 57; refine (within_any _ _ _ _).mono ?_; rintro e w' ⟨rfl, rfl⟩; (first | rw [e1] | rw [e2] | rw [e3] | skip))
        go_ret
        exact ⟨rfl, (Kept.refl _ _).alloc _⟩
    · have e2 := inB_no h2
      have e4 : decide (geoOk a b c d) = false := decide_eq_false fun x => h2 x.2.1
      rw [e4]
      clear e4 h1 h2
      go_enter Tryz.func36, Tryz.ntmps36
      go_wp2_with (go_at_call 57; refine (within_any _ _ _ _).mono ?_; rintro e w' ⟨rfl, rfl⟩; (first | rw [e1] | rw [e2] | skip))
      go_ret
      exact ⟨rfl, (Kept.refl _ _).alloc _⟩
  · have e1 := inB_no h1
    have e4 : decide (geoOk a b c d) = false := decide_eq_false fun x => h1 x.1
    rw [e4]
    clear e4 h1
    go_enter Tryz.func36, Tryz.ntmps36
    go_wp2_with (go_at_call 57; refine (within_any _ _ _ _).mono ?_; rintro e w' ⟨rfl, rfl⟩; (first | rw [e1] | skip))
    go_ret
    exact ⟨rfl, (Kept.refl _ _).alloc _⟩

theorem prod_int (a b : Nat) : ((a : Int) * (b : Int)) = ((a * b : Nat) : Int) := by simp
theorem wrap_nat {n : Nat} (h : n ≤ 9223372036854775807) : IntKind.i64.wrap (n : Int) = (n : Int) := by
  rw [IntKind.wrap_i64]
  omega

theorem bytesOf_any (a b c : Nat) (d : Int) (w : World) (ha : a ≤ 64) (hb : b ≤ 32) (hc : c ≤ 256) :
    Calls Tryz.prog 39 #[.agg #[.int .i64 a, .int .i64 b, .int .i64 c, .int .i64 d]] w (IntN w ((a * b * c : Nat) : Int)) := by
  have h1 : a * b ≤ 64 * 32 := Nat.mul_le_mul ha hb
  have h2 := prod_le ha hb hc
  have e1 : IntKind.i64.wrap ((a : Int) * (b : Int)) = ((a * b : Nat) : Int) := by rw [prod_int]; exact wrap_nat (by omega)
  have e2 : IntKind.i64.wrap (((a * b : Nat) : Int) * (c : Int)) = ((a * b * c : Nat) : Int) := by rw [prod_int]; exact wrap_nat (by omega)
  have m1 : wrap64 ((a : Int) * (b : Int)) = ((a * b : Nat) : Int) := by rw [prod_int]; exact wrap64_of (by omega) (by omega)
  have m2 : wrap64 (((a * b : Nat) : Int) * (c : Int)) = ((a * b * c : Nat) : Int) := by rw [prod_int]; exact wrap64_of (by omega) (by omega)
  generalize a * b = ab at *
  generalize ab * c = abc at *
  clear h1 h2 ha hb hc
  go_enter Tryz.func39, Tryz.ntmps39
  go_wp2
  go_ret
  exact ⟨rfl, (Kept.refl _ _).alloc _⟩

theorem mul64_big (n : Nat) (w : World) (hn : n < 4294967296) :
    Calls Tryz.prog 88 #[.int .u64 1, .int .u64 n] w fun e w' => e = .returned (.tuple #[.int .u64 0, .int .u64 n]) ∧ w = w' := by
  have m1 : bits .and .u64 1 4294967295 = 1 := by decide
  have m2 : bits .and .u64 (n : Int) 4294967295 = (n : Int) := by
    have h1 := bits_and_u64_nat n 4294967295 (by omega) (by omega)
    have e : n &&& 4294967295 = n % 4294967296 := Nat.and_two_pow_sub_one_eq_mod n 32
    rw [e, Nat.mod_eq_of_lt hn] at h1
    exact h1
  have m3 : (n : Int) / 4294967296 = 0 := by omega
  have m4 : bits .and .u64 0 4294967295 = 0 := by decide
  go_enter Tryz.func88, Tryz.ntmps88
  go_wp2
  go_ret2
  exact ⟨rfl, rfl⟩

theorem mul_big (n : Nat) (w : World) (hn : n < 4294967296) :
    Calls Tryz.prog 72 #[.int .u64 1, .int .u64 n] w fun e w' => e = .returned (.tuple #[.int .u64 0, .int .u64 n]) ∧ w = w' := by
  go_enter Tryz.func72, Tryz.ntmps72
  go_wp2_with (go_at_call 88; refine (mul64_big n _ hn).mono ?_; rintro e w' ⟨rfl, rfl⟩)
  go_ret2
  exact ⟨rfl, rfl⟩

/-- A row of n bytes 255 in a block of its own. -/
def OnesP (w : World) (n : Nat) (e : Ending) (w' : World) : Prop :=
  ∃ g junk, e = .returned (.slice (some ⟨g, 0, none⟩) n n) ∧ Blk w' g 5 ((List.replicate n 255).map byt ++ junk) ∧ w.heap.size ≤ g ∧ New w w'

theorem go_slices_any : True := trivial
end Go.Proofs.YtgfdiboaiifdnaaGreat
