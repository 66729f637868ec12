/-
  Contracts: how numbers, texts and keys stand to one another, on both sides.
-/
import Derived.Test.YtlbbhfapmmcehaaRows
import Derived.Test.YtlbbhfapmmcehaaFa
import Derived.Test.YtlbbhfapmmcehaaEe
import Derived.Test.YtlbbhfapmmcehaaVn
import Derived.Shelf.Small.Strs
import Derived.Lib.Bytealg
import Derived.StillTailTactics
namespace Go.Proofs.Ytlbbhfapmmcehaa
set_option maxRecDepth 100000
open Go.RowKit

/-- A call answers a number, and leaves all as it was. -/
def Num (w : World) (z : Int) (e : Ending) (w' : World) : Prop := e = .returned (.int .i64 z) ∧ w = w'
/-- A call answers a bool, and writes only new memory. -/
def NewBool (w : World) (b : Bool) (e : Ending) (w' : World) : Prop := e = .returned (.bool b) ∧ New w w'
def NewNum (w : World) (z : Int) (e : Ending) (w' : World) : Prop := e = .returned (.int .i64 z) ∧ New w w'

theorem isIno_any (i : Int) (w : World) : Calls Try.prog 76 #[.int .i64 i] w fun e w' => e = .returned (.bool (decide (1 ≤ i ∧ i ≤ 65535))) ∧ w = w' := by
  by_cases h1 : 1 ≤ i
  · by_cases h2 : i ≤ 65535
    · have e : decide (1 ≤ i ∧ i ≤ 65535) = true := decide_eq_true ⟨h1, h2⟩
      rw [e]
      clear e
      go_enter Try.func76, Try.ntmps76
      go_wp2
      go_ret
      exact ⟨rfl, rfl⟩
    · have e : decide (1 ≤ i ∧ i ≤ 65535) = false := decide_eq_false fun h => h2 h.2
      rw [e]
      clear e
      go_enter Try.func76, Try.ntmps76
      go_wp2
      go_ret
      exact ⟨rfl, rfl⟩
  · have e : decide (1 ≤ i ∧ i ≤ 65535) = false := decide_eq_false fun h => h1 h.1
    rw [e]
    clear e
    have d1 : decide (1 ≤ i) = false := decide_eq_false h1
    go_enter Try.func76, Try.ntmps76
    go_wp2
    go_ret
    exact ⟨rfl, rfl⟩
end Go.Proofs.Ytlbbhfapmmcehaa
