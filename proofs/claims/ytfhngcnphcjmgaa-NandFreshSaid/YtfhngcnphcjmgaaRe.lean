/-
  Contracts: Load of layer 3's chip.
-/
import Derived.Test.YtfhngcnphcjmgaaRd
namespace Go.Proofs.Ytfhngcnphcjmgaa
open Go.ChangeShapes Go.WideShapes Go.ChangeAt Go.RowKit

/-- A slice of integers that is read. -/
def InsN (w : World) (k : IntKind) (A : Option Addr) (n : Nat) (l : List Int) : Prop :=
  l.length = n ∧ (∀ x ∈ l, (Lit.int k x).wf = true) ∧ (0 < n → ∃ g o : Nat, A = some ⟨g, o, none⟩ ∧ ∀ (j : Nat) (x : Int), l[j]? = some x → w.cell? ⟨g, o + j, none⟩ = some (.int k x))
theorem InsN.at_ {w : World} {k : IntKind} {A : Option Addr} {n : Nat} {l : List Int} {j : Nat} (h : InsN w k A n l) (hj : j < n) :
    ∃ g o x, A = some ⟨g, o, none⟩ ∧ l[j]? = some x ∧ (Lit.int k x).wf = true ∧ w.cell? ⟨g, o + j, none⟩ = some (.int k x) := by
  obtain ⟨hl, hb, hc⟩ := h
  obtain ⟨g, o, e, hc⟩ := hc (by omega)
  have hk' : j < l.length := by omega
  exact ⟨g, o, l[j], e, List.getElem?_eq_getElem hk', hb _ (List.getElem_mem hk'), hc _ _ (List.getElem?_eq_getElem hk')⟩
theorem InsN.new {w w' : World} {k : IntKind} {A : Option Addr} {n : Nat} {l : List Int} (h : InsN w k A n l) (hk : New w w') : InsN w' k A n l := by
  obtain ⟨hl, hb, hc⟩ := h
  refine ⟨hl, hb, fun h0 => ?_⟩
  obtain ⟨g, o, e, hc⟩ := hc h0
  exact ⟨g, o, e, fun j x hx => hk.cell (hc j x hx) (fun f => f)⟩

structure IsIN (W : World) (k : IntKind) (v : Value) (A : Option Addr) (n c : Nat) (l : List Int) : Prop where
  val : v = .slice A n c
  ins : InsN W k A n l
  le : n ≤ c
  cap : c ≤ maxLen

section
variable {H : Type} {enc : TypeId × Value → H} {P : Program}
theorem Arg.intsN {W : World} {base : Nat} {t e : TypeId} {k : IntKind} {v : Value} {d : DataW H} {p : List MemPlace} (h : Arg enc P W base t v d p) (ht : P.underlying t = some (.slice e)) (he : P.underlying e = some (.int k)) (hc : P.cellsOf e = 1) :
    ∃ A n c l, IsIN W k v A n c l := by
  obtain ⟨A, n, c, rfl⟩ := okWide_slice ht h.ok
  obtain ⟨fuel, hf⟩ := h.tr
  rcases open_ints ht he hc hf with ⟨hcs, hx⟩ | ⟨a, len, cap, zs, hcs, _, hl, hm, hz, hx, hcell, hwz⟩
  · simp [Value.cells] at hcs
    obtain ⟨rfl, rfl, rfl⟩ := hcs
    exact ⟨none, 0, 0, [], rfl, ⟨rfl, by simp, fun h => absurd h (by omega)⟩, Nat.le_refl _, by simp⟩
  · simp [Value.cells] at hcs
    obtain ⟨rfl, rfl, rfl⟩ := hcs
    simp only [if_true] at hz
    refine ⟨some a, n, c, zs.take n, rfl, ⟨by simp; omega, fun x hx => hwz x (List.mem_of_mem_take hx), ?_⟩, hl, hm⟩
    intro h0
    obtain ⟨b, off, rfl, hc2⟩ := ints_at hcell (by omega)
    refine ⟨b, off, rfl, fun j x hx => ?_⟩
    rw [List.getElem?_take] at hx
    split at hx
    · have hj : j < zs.length := (List.getElem?_eq_some_iff.1 hx).1
      rw [hc2 j hj, List.getD_eq_getElem?_getD, hx]
      rfl
    · cases hx
end

/-- The marks of the blocks that a list names. -/
def marks (n : Nat) (l : List Int) : List Bool := l.foldl (fun m x => m.set x.toNat true) (List.replicate n false)
theorem marks_len (n : Nat) (l : List Int) : (marks n l).length = n := by
  unfold marks
  have : ∀ (l : List Int) (m : List Bool), (l.foldl (fun m x => m.set x.toNat true) m).length = m.length := by
    intro l
    induction l with
    | nil => intro m; rfl
    | cons x r ih => intro m; rw [List.foldl_cons, ih, List.length_set]
  rw [this, List.length_replicate]
theorem marks_step (n : Nat) (l : List Int) (k : Nat) (x : Int) (hx : l[k]? = some x) : (marks n (l.take k)).set x.toNat true = marks n (l.take (k + 1)) := by
  have hk : k < l.length := (List.getElem?_eq_some_iff.1 hx).1
  have e : l[k] = x := (List.getElem?_eq_some_iff.1 hx).2
  unfold marks
  rw [List.take_succ_eq_append_getElem hk, e, List.foldl_append]
  rfl
theorem marks_nil (n : Nat) (l : List Int) : marks n (l.take 0) = List.replicate n false := rfl

def loadS (a b c d : Nat) (by_ : List Nat) (bad : List Int) : CSt := { newS a b c d with by_ := by_, bad := marks a bad }
theorem loadS_ok (a b c d : Nat) (by_ : List Nat) (bad : List Int) (h : geoOk a b c d) (hl : by_.length = a * b * c) (hb : IsBytes by_) : (loadS a b c d by_ bad).Ok :=
  { newS_ok a b c d h with len := hl, bytes := hb, badl := marks_len a bad }

theorem set_bool (m : List Bool) (k : Nat) : (m.map boolV).set k (.bool true) = (m.set k true).map boolV := by rw [List.map_set]; rfl

/-- All blocks that are named are some. -/
def allIn (a : Nat) (bl : List Int) : Prop := ∀ x ∈ bl, 0 ≤ x ∧ x < a
def LoadP (w : World) (a b c d : Nat) (l : List Nat) (bl : List Int) (e : Ending) (w' : World) : Prop :=
  (allIn a bl → ChipP w (loadS a b c d l bl) e w') ∧ (¬ allIn a bl → e = .returned (.tuple #[.pointer none, .int .i64 2]) ∧ New w w')
theorem LoadP.no {w w' : World} {a b c d : Nat} {l : List Nat} {bl : List Int} {x : Int} (hx : x ∈ bl) (hn : ¬ (0 ≤ x ∧ x < a)) (hk : New w w') : LoadP w a b c d l bl (.returned (.tuple #[.pointer none, .int .i64 2])) w' :=
  ⟨fun h => absurd (h x hx) hn, fun _ => ⟨rfl, hk⟩⟩
end Go.Proofs.Ytfhngcnphcjmgaa
