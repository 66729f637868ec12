/-
  Contracts of a chip's small methods: is it one, what strikes, what is refused, which cells a page has.
-/
import Derived.Test.YtgfdiboaiifdnaaGreatNc
namespace Go.Proofs.YtgfdiboaiifdnaaGreat
open Go.ChangeShapes Go.WideShapes Go.ChangeAt Go.RowKit

section
variable {Q : Nat → Prop} {w : World} {g gc gb bl bb cc cb : Nat} {Ah : Option Addr} {ch : Nat} {s : CSt}
theorem NRep.c0 (h : NRep Q w g gc gb bl bb cc cb Ah ch s) : w.cell? ⟨g, 0, none⟩ = some (.int .i64 (s.nb : Nat)) := h.chip.cell 0
theorem NRep.c1 (h : NRep Q w g gc gb bl bb cc cb Ah ch s) : w.cell? ⟨g, 1, none⟩ = some (.int .i64 (s.np : Nat)) := h.chip.cell 1
theorem NRep.c2 (h : NRep Q w g gc gb bl bb cc cb Ah ch s) : w.cell? ⟨g, 2, none⟩ = some (.int .i64 (s.nz : Nat)) := h.chip.cell 2
theorem NRep.c3 (h : NRep Q w g gc gb bl bb cc cb Ah ch s) : w.cell? ⟨g, 3, none⟩ = some (.int .i64 (s.ns : Nat)) := h.chip.cell 3
theorem NRep.c4 (h : NRep Q w g gc gb bl bb cc cb Ah ch s) : w.cell? ⟨g, 4, none⟩ = some (.slice (some ⟨gc, 0, none⟩) s.by_.length cc) := h.chip.cell 4
theorem NRep.c5 (h : NRep Q w g gc gb bl bb cc cb Ah ch s) : w.cell? ⟨g, 5, none⟩ = some (.slice (some ⟨gb, 0, none⟩) s.bad.length cb) := h.chip.cell 5
theorem NRep.c6 (h : NRep Q w g gc gb bl bb cc cb Ah ch s) : w.cell? ⟨g, 6, none⟩ = some (.bool s.dead) := h.chip.cell 6
theorem NRep.c7 (h : NRep Q w g gc gb bl bb cc cb Ah ch s) : w.cell? ⟨g, 7, none⟩ = some (.int .i64 (s.deeds : Nat)) := h.chip.cell 7
theorem NRep.c8 (h : NRep Q w g gc gb bl bb cc cb Ah ch s) : w.cell? ⟨g, 8, none⟩ = some (.func (.func 59) #[] #[.pointer (some ⟨bl, 0, none⟩), .pointer (some ⟨bb, 0, none⟩)]) := h.chip.cell 8
end

theorem run_eql_func {P : Program} (w : World) (t : TypeId) {ps rs : Array TypeId} {v : Bool} (f : Fn) (a b : Array Value) (ht : P.underlying t = some (.func ps rs v)) : (binOp .eql t (.func f a b) .nilFunc).run P w = .ok (.bool false) w := by
  have h : ∀ d : Nat, (Op.equalIn (d + 1) t (.func f a b) .nilFunc).run P w = .ok false w := fun d => by
    simp [Op.equalIn, run_underlying ht]
  simp only [binOp]
  simp [Op.equal, Op.maxDepth, h 9999]

theorem run_eql_func_nil {P : Program} (w : World) (t : TypeId) {ps rs : Array TypeId} {v : Bool} (ht : P.underlying t = some (.func ps rs v)) : (binOp .eql t .nilFunc .nilFunc).run P w = .ok (.bool true) w := by
  have h : ∀ d : Nat, (Op.equalIn (d + 1) t .nilFunc .nilFunc).run P w = .ok true w := fun d => by
    simp [Op.equalIn, run_underlying ht]
  simp only [binOp]
  simp [Op.equal, Op.maxDepth, h 9999]

set_option maxRecDepth 100000 in
theorem cNone_no (Q : Nat → Prop) (g gc gb bl bb cc cb : Nat) (Ah : Option Addr) (ch : Nat) (s : CSt) (w : World) (h : NRep Q w g gc gb bl bb cc cb Ah ch s) :
    Calls Tryz.prog 17 #[.pointer (some ⟨g, 0, none⟩)] w fun e w' => e = .returned (.bool false) ∧ w = w' := by
  have c8 := h.c8
  have hq := fun w a b => run_eql_func (P := Tryz.prog) w 59 (.func 59) a b Tryz.underlying59
  clear h
  go_enter Tryz.func17, Tryz.ntmps17
  go_wp2
  go_ret
  exact ⟨rfl, rfl⟩

set_option maxRecDepth 100000 in
theorem cNone_nil (w : World) :
    Calls Tryz.prog 17 #[.pointer none] w fun e w' => e = .returned (.bool true) ∧ w = w' := by
  go_enter Tryz.func17, Tryz.ntmps17
  go_wp2
  go_ret
  exact ⟨rfl, rfl⟩

/-- No chip: nil, or one that no call made. -/
def NoChip (w : World) (v : Value) : Prop := v = .pointer none ∨ ∃ g, v = .pointer (some ⟨g, 0, none⟩) ∧ w.cell? ⟨g, 8, none⟩ = some Value.nilFunc

set_option maxRecDepth 100000 in
theorem cNone_zero (g : Nat) (w : World) (c8 : w.cell? ⟨g, 8, none⟩ = some Value.nilFunc) :
    Calls Tryz.prog 17 #[.pointer (some ⟨g, 0, none⟩)] w fun e w' => e = .returned (.bool true) ∧ w = w' := by
  have hq := fun w => run_eql_func_nil (P := Tryz.prog) w 59 Tryz.underlying59
  go_enter Tryz.func17, Tryz.ntmps17
  go_wp2
  go_ret
  exact ⟨rfl, rfl⟩
end Go.Proofs.YtgfdiboaiifdnaaGreat
