/-
  Two keys compared with one another; works of layer 6's statements; a key as an argument.
-/
import Derived.Test.YtlbbhfapmmcehaaFf
import Derived.Laws.StructEq
import Derived.Lib.QuietBelow
import Derived.Deep.Slices
import Derived.Deep.Fields
namespace Go.Proofs.Ytlbbhfapmmcehaa
set_option maxRecDepth 100000
open Go.RowKit Go.ChangeShapes Go.WideShapes Go.ChangeAt Go.Deep

theorem key_parts (a b : KY) : decide (a = b) = (a.i == b.i && (((a.t : Int) == (b.t : Int)) && (a.n.toList == b.n.toList && a.c == b.c))) := by
  rw [Bool.eq_iff_iff]
  simp only [decide_eq_true_eq, Bool.and_eq_true, beq_iff_eq]
  constructor
  · rintro rfl; exact ⟨rfl, rfl, rfl, rfl⟩
  · rintro ⟨h1, h2, h3, h4⟩
    exact KY.ext_ h1 (by omega) (ba_ext (by rw [← Lib.toList_data, ← Lib.toList_data]; exact h3)) h4

theorem key_eql (a b : KY) (w : World) :
    Sem.run Try.prog (binOp .eql 48 (.agg #[.int .i64 a.i, .int .u8 (a.t : Nat), .string a.n, .int .i64 a.c]) (.agg #[.int .i64 b.i, .int .u8 (b.t : Nat), .string b.n, .int .i64 b.c])) w = .ok (.bool (decide (a = b))) w := by
  have hS : Try.prog.underlying 48 = some (.struct (Try.prog.fieldsOf 48)) := by kernel_rfl
  have hp : Try.prog.stoodInHeld 48 = false := by kernel_rfl
  rw [key_parts]
  obtain ⟨ai, at_, an, ac⟩ := a
  obtain ⟨bi, bt, bn, bc⟩ := b
  dsimp only
  rw [run_eql_struct, show (10000 : Nat) = 9999 + 1 from rfl, run_equalIn_agg w 9999 48 _ _ hS hp]
  simp only [Program.fieldsOf, Try.underlying48]
  go_simp
  by_cases h1 : ai = bi <;> by_cases h2 : (at_ : Int) = (bt : Int) <;> by_cases h3 : an.toList = bn.toList <;> by_cases h4 : ac = bc <;> simp [h1, h2, h3, h4]
theorem key_neq (a b : KY) (w : World) :
    Sem.run Try.prog (binOp .neq 48 (.agg #[.int .i64 a.i, .int .u8 (a.t : Nat), .string a.n, .int .i64 a.c]) (.agg #[.int .i64 b.i, .int .u8 (b.t : Nat), .string b.n, .int .i64 b.c])) w = .ok (.bool (!decide (a = b))) w := by
  have hS : Try.prog.underlying 48 = some (.struct (Try.prog.fieldsOf 48)) := by kernel_rfl
  have hp : Try.prog.stoodInHeld 48 = false := by kernel_rfl
  rw [key_parts]
  obtain ⟨ai, at_, an, ac⟩ := a
  obtain ⟨bi, bt, bn, bc⟩ := b
  dsimp only
  rw [run_neq_struct, show (10000 : Nat) = 9999 + 1 from rfl, run_equalIn_agg w 9999 48 _ _ hS hp]
  simp only [Program.fieldsOf, Try.underlying48]
  go_simp
  by_cases h1 : ai = bi <;> by_cases h2 : (at_ : Int) = (bt : Int) <;> by_cases h3 : an.toList = bn.toList <;> by_cases h4 : ac = bc <;> simp [h1, h2, h3, h4]
end Go.Proofs.Ytlbbhfapmmcehaa
