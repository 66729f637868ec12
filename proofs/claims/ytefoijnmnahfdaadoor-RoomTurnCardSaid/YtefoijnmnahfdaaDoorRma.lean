/-
  Layer 10: the table of bounds, a geometry handed in, and the contracts of room's functions.
-/
import Derived.Test.YtefoijnmnahfdaaDoorLr
import Derived.Test.YtefoijnmnahfdaaDoorRows
import Derived.Lib.QuietBelow
import Derived.Deep.Matrix
import Derived.Deep.DeepCutAuto
namespace Go.Proofs.YtefoijnmnahfdaaDoor
open Go.ChangeShapes Go.WideShapes Go.ChangeAt Go.RowKit

/-- The table of bounds lies as the program lays it. -/
structure Bd (w : World) : Prop where
  c0 : w.cell? ⟨0, 0, none⟩ = some (.int .i64 8)
  c1 : w.cell? ⟨0, 1, none⟩ = some (.int .i64 64)
  c2 : w.cell? ⟨0, 2, none⟩ = some (.int .i64 4)
  c3 : w.cell? ⟨0, 3, none⟩ = some (.int .i64 32)
  c4 : w.cell? ⟨0, 4, none⟩ = some (.int .i64 128)
  c5 : w.cell? ⟨0, 5, none⟩ = some (.int .i64 256)
  c6 : w.cell? ⟨0, 6, none⟩ = some (.int .i64 0)
  c7 : w.cell? ⟨0, 7, none⟩ = some (.int .i64 4)

theorem Bd.new {w w' : World} (h : Bd w) (k : New w w') : Bd w' :=
  ⟨k.cell h.c0 id, k.cell h.c1 id, k.cell h.c2 id, k.cell h.c3 id, k.cell h.c4 id, k.cell h.c5 id, k.cell h.c6 id, k.cell h.c7 id⟩

theorem gBounds : Tryd.prog.globalNamed "carrack/room.bounds" = some 0 := by kernel_rfl
theorem tBounds : (Tryd.prog.globals[0]?).map (·.type) = some 35 := by kernel_rfl

theorem pair_of {H : Type} {enc : TypeId × Value → H} {W : World} {base fuel : Nat} {sp : Nat → Bool} {held : Bool} {x y : Value} {a b : Int} {p : List MemPlace}
    (h : DataW.trod enc Tryd.prog W base sp held fuel 34 [x, y] = some (.agg [.lit (.int .i64 a), .lit (.int .i64 b)], p)) : x = .int .i64 a ∧ y = .int .i64 b := by
  obtain ⟨y0, y1, n, he, hl, h0, h1⟩ := trod_struct2 Tryd.underlying34 h
  have c3 : Tryd.prog.cellsOf 3 = 1 := by kernel_rfl
  rw [c3] at h0 h1
  obtain ⟨a', e1, e2, _⟩ := DataW.trod_int Tryd.underlying3 h0
  obtain ⟨b', e3, e4, _⟩ := DataW.trod_int Tryd.underlying3 h1
  simp at e1 e3
  subst e1 e3 e2 e4
  simp at he
  obtain ⟨⟨rfl, rfl⟩, _⟩ := he
  exact ⟨rfl, rfl⟩

/-- What the row's list gives. -/
theorem bd_of {W : World} (h : laidMetH Tryd.prog [("carrack/room.bounds", Rows.laid_carrack_room_bounds)] W) : Bd W := by
  rw [show laidMetH Tryd.prog [("carrack/room.bounds", Rows.laid_carrack_room_bounds)] W = laidMet Tryd.prog [("carrack/room.bounds", Rows.laid_carrack_room_bounds)] W from rfl] at h
  obtain ⟨ps, ⟨g0, t0, cs0, f0, p0, q0, hg0, ht0, hv0, hd0, _, _⟩, _⟩ := h
  obtain rfl := Option.some.inj (gBounds.symm.trans hg0)
  obtain rfl := Option.some.inj (tBounds.symm.trans ht0)
  obtain ⟨xs, m, rfl, hx, hlen, hn, hel⟩ := DataW.trod_array Tryd.underlying35 hd0
  have c35 : Tryd.prog.cellsOf 35 = 8 := by kernel_rfl
  have c34 : Tryd.prog.cellsOf 34 = 2 := by kernel_rfl
  rw [c35] at hlen
  have h0 := hel 0 (by decide)
  have h1 := hel 1 (by decide)
  have h2 := hel 2 (by decide)
  have h3 := hel 3 (by decide)
  rw [c34] at h0 h1 h2 h3
  clear hel
  have cell := World.var?_cell hg0 hv0
  obtain ⟨l⟩ := cs0
  match l, hlen, xs, hn with
  | [x0, x1, x2, x3, x4, x5, x6, x7], _, [(d0, p0), (d1, p1), (d2, p2), (d3, p3)], _ =>
    simp [Rows.laid_carrack_room_bounds] at hx
    obtain ⟨⟨rfl, rfl, rfl, rfl⟩, _⟩ := hx
    obtain ⟨rfl, rfl⟩ := pair_of (x := x0) (y := x1) h0
    obtain ⟨rfl, rfl⟩ := pair_of (x := x2) (y := x3) h1
    obtain ⟨rfl, rfl⟩ := pair_of (x := x4) (y := x5) h2
    obtain ⟨rfl, rfl⟩ := pair_of (x := x6) (y := x7) h3
    exact ⟨cell 0, cell 1, cell 2, cell 3, cell 4, cell 5, cell 6, cell 7⟩

section
variable {H : Type} {enc : TypeId × Value → H}

theorem Arg.geo10 {W : World} {base : Nat} {v : Value} {d : DataW H} {p : List MemPlace} (h : Arg enc Tryd.prog W base 23 v d p) :
    ∃ x0 x1 x2 x3 : Int, v = .agg #[.int .i64 x0, .int .i64 x1, .int .i64 x2, .int .i64 x3] := by
  obtain ⟨cs, rfl, hsz⟩ := okWide_struct Tryd.underlying23 h.ok
  obtain ⟨fuel, hf⟩ := h.tr
  obtain ⟨xs, n', _, hx, hlen, hxl, hfl⟩ := DataW.trod_struct Tryd.underlying23 hf
  have c3 : Tryd.prog.cellsOf 3 = 1 := by kernel_rfl
  have c23 : Tryd.prog.cellsOf 23 = 4 := by kernel_rfl
  rw [c23] at hlen
  have h0 := hfl 0 _ rfl
  have h1 := hfl 1 _ rfl
  have h2 := hfl 2 _ rfl
  have h3 := hfl 3 _ rfl
  clear hfl
  obtain ⟨l⟩ := cs
  have hlen : l.length = 4 := by simpa [Value.cells] using hlen
  have hxl : xs.length = 4 := by simpa using hxl
  match l, hlen, xs, hxl with
  | [x0, x1, x2, x3], _, [q0, q1, q2, q3], _ =>
    simp [Value.cells, c3] at h0 h1 h2 h3
    obtain ⟨a0, e0, _, _⟩ := DataW.trod_int Tryd.underlying3 h0
    obtain ⟨a1, e1, _, _⟩ := DataW.trod_int Tryd.underlying3 h1
    obtain ⟨a2, e2, _, _⟩ := DataW.trod_int Tryd.underlying3 h2
    obtain ⟨a3, e3, _, _⟩ := DataW.trod_int Tryd.underlying3 h3
    simp at e0 e1 e2 e3
    subst e0 e1 e2 e3
    exact ⟨a0, a1, a2, a3, rfl⟩
end

/-- Is n one of the numbers from a to b? -/
def inB (n a b : Int) : Bool := decide (a ≤ n) && decide (n ≤ b)
theorem inB_yes {n a b : Int} (h : a ≤ n ∧ n ≤ b) : inB n a b = true := by unfold inB; simp; omega
theorem inB_no {n a b : Int} (h : ¬ (a ≤ n ∧ n ≤ b)) : inB n a b = false := by unfold inB; rw [Bool.eq_false_iff]; simp; omega

/-- A bool, a number comes back, and only new memory was written. -/
def BoolN (w : World) (b : Bool) (e : Ending) (w' : World) : Prop := e = .returned (.bool b) ∧ New w w'
def IntN (w : World) (n : Int) (e : Ending) (w' : World) : Prop := e = .returned (.int .i64 n) ∧ New w w'

theorem has_any (a b n : Int) (w : World) :
    Calls Tryd.prog 15 #[.agg #[.int .i64 a, .int .i64 b], .int .i64 n] w (BoolN w (inB n a b)) := by
  by_cases h : a ≤ n
  · have e : inB n a b = decide (n ≤ b) := by unfold inB; simp [h]
    rw [e]
    by_cases h2 : n ≤ b
    · rw [decide_eq_true h2]
      go_enter Tryd.func15, Tryd.ntmps15
      go_wp2
      go_ret
      exact ⟨rfl, (Kept.refl _ _).alloc _⟩
    · rw [decide_eq_false h2]
      go_enter Tryd.func15, Tryd.ntmps15
      go_wp2
      go_ret
      exact ⟨rfl, (Kept.refl _ _).alloc _⟩
  · have e : inB n a b = false := inB_no (fun x => h x.1)
    rw [e]
    have h' : decide (a ≤ n) = false := decide_eq_false h
    go_enter Tryd.func15, Tryd.ntmps15
    go_wp2
    go_ret
    exact ⟨rfl, (Kept.refl _ _).alloc _⟩

end Go.Proofs.YtefoijnmnahfdaaDoor
