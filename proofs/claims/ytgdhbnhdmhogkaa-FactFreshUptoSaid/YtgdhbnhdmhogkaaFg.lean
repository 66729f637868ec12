/-
  Two keys compared with one another; works of layer 6's statements; a key as an argument.
-/
import Derived.Test.YtgdhbnhdmhogkaaFf
import Derived.Laws.StructEq
import Derived.Lib.QuietBelow
import Derived.Deep.Slices
import Derived.Deep.Fields
namespace Go.Proofs.Ytgdhbnhdmhogkaa
open Go.RowKit Go.ChangeShapes Go.WideShapes Go.ChangeAt Go.Deep

theorem key_parts (a b : KY) : decide (a = b) = (a.i == b.i && (((a.t : Int) == (b.t : Int)) && (a.n.toList == b.n.toList && a.c == b.c))) := by
  rw [Bool.eq_iff_iff]
  simp only [decide_eq_true_eq, Bool.and_eq_true, beq_iff_eq]
  constructor
  · rintro rfl; exact ⟨rfl, rfl, rfl, rfl⟩
  · rintro ⟨h1, h2, h3, h4⟩
    exact KY.ext_ h1 (by omega) (ba_ext (by rw [← Lib.toList_data, ← Lib.toList_data]; exact h3)) h4

theorem key_eql (a b : KY) (w : World) :
    Sem.run Try.prog (binOp .eql 25 (.agg #[.int .i64 a.i, .int .u8 (a.t : Nat), .string a.n, .int .i64 a.c]) (.agg #[.int .i64 b.i, .int .u8 (b.t : Nat), .string b.n, .int .i64 b.c])) w = .ok (.bool (decide (a = b))) w := by
  have hS : Try.prog.underlying 25 = some (.struct (Try.prog.fieldsOf 25)) := by kernel_rfl
  have hp : Try.prog.stoodInHeld 25 = false := by kernel_rfl
  rw [key_parts]
  obtain ⟨ai, at_, an, ac⟩ := a
  obtain ⟨bi, bt, bn, bc⟩ := b
  dsimp only
  rw [run_eql_struct, show (10000 : Nat) = 9999 + 1 from rfl, run_equalIn_agg w 9999 25 _ _ hS hp]
  simp only [Program.fieldsOf, Try.underlying25]
  go_simp
  by_cases h1 : ai = bi <;> by_cases h2 : (at_ : Int) = (bt : Int) <;> by_cases h3 : an.toList = bn.toList <;> by_cases h4 : ac = bc <;> simp [h1, h2, h3, h4]
theorem key_neq (a b : KY) (w : World) :
    Sem.run Try.prog (binOp .neq 25 (.agg #[.int .i64 a.i, .int .u8 (a.t : Nat), .string a.n, .int .i64 a.c]) (.agg #[.int .i64 b.i, .int .u8 (b.t : Nat), .string b.n, .int .i64 b.c])) w = .ok (.bool (!decide (a = b))) w := by
  have hS : Try.prog.underlying 25 = some (.struct (Try.prog.fieldsOf 25)) := by kernel_rfl
  have hp : Try.prog.stoodInHeld 25 = false := by kernel_rfl
  rw [key_parts]
  obtain ⟨ai, at_, an, ac⟩ := a
  obtain ⟨bi, bt, bn, bc⟩ := b
  dsimp only
  rw [run_neq_struct, show (10000 : Nat) = 9999 + 1 from rfl, run_equalIn_agg w 9999 25 _ _ hS hp]
  simp only [Program.fieldsOf, Try.underlying25]
  go_simp
  by_cases h1 : ai = bi <;> by_cases h2 : (at_ : Int) = (bt : Int) <;> by_cases h3 : an.toList = bn.toList <;> by_cases h4 : ac = bc <;> simp [h1, h2, h3, h4]

set_option maxRecDepth 100000 in
set_option maxHeartbeats 1600000 in
theorem works6_any (w : World) : Calls Try.prog 12 #[] w (True1 w) := by
  have hp1 : Hid (pkL ⟨5, 2, ⟨#[97, 98]⟩, 0⟩ = [5, 0, 2, 2, 97, 98] ∧ pkE ⟨5, 2, ⟨#[97, 98]⟩, 0⟩ = 0) := by
    refine ⟨?_, ?_⟩ <;> decide +kernel
  have hp2 : Hid (pkE ⟨5, 3, ⟨#[]⟩, 8⟩ = 2) := by show _ = _; decide +kernel
  have hp3 : Hid (befK ⟨5, 1, ⟨#[]⟩, 0⟩ ⟨5, 2, ⟨#[97]⟩, 0⟩ = true) := by show _ = _; decide +kernel
  go_enter Try.func12, Try.ntmps12
  go_wp2_with fail
  refine (putKey_any ⟨5, 2, ⟨#[97, 98]⟩, 0⟩ _ (by decide)).mono ?_
  rw [hp1.out.1, hp1.out.2]
  rintro e w1 ⟨A1, c1, rfl, o1, k1⟩
  have O1 := Lib.hid o1.bts
  have K1 := Lib.hid k1
  clear o1 k1
  go_wp2_with fail
  refine (putKey_any ⟨5, 3, ⟨#[]⟩, 8⟩ _ (by decide)).mono ?_
  rw [hp2.out]
  rintro e w2 ⟨A2, c2, rfl, o2, k2⟩
  have O2 := Lib.hid (O1.out.new k2)
  have K2 := Lib.hid (K1.out.new k2)
  clear o2 k2 O1 K1
  go_wp2_with fail
  refine (same_eq A1 (some ⟨w2.heap.size, 0, none⟩) 6 c1 6 [5, 0, 2, 2, 97, 98] _ (O2.out.new ((Kept.refl _ _).alloc _)) (Bts.lit w2 5 (0, 0) _ (by decide) _ rfl) (by unfold maxLen; omega)).mono ?_
  rintro e w3 ⟨d3, rfl, rfl⟩
  have K3 : Hid (New w ((w2.alloc (.cells (rawB [5, 0, 2, 2, 97, 98]) 5)).drewN d3)) := (K2.out.alloc _).drewN _
  clear O2 K2
  go_wp2_with fail
  refine (before_any ⟨5, 1, ⟨#[]⟩, 0⟩ ⟨5, 2, ⟨#[97]⟩, 0⟩ _).mono ?_
  rw [hp3.out]
  rintro e w4 ⟨rfl, k4⟩
  have K4 := Lib.hid (K3.out.new k4)
  clear k4 K3
  go_wp2
  go_ret
  exact ⟨rfl, K4.out⟩
end Go.Proofs.Ytgdhbnhdmhogkaa
