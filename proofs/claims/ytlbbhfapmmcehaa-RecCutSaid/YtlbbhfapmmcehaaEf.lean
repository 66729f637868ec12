/-
  Both readers' Row, of whatever is left; a slice of integers that is read.
-/
import Derived.Test.YtlbbhfapmmcehaaEe
namespace Go.Proofs.Ytlbbhfapmmcehaa
set_option maxRecDepth 100000
open Go.ChangeShapes Go.WideShapes Go.ChangeAt Go.RowKit
variable {Q : Nat → Prop}

def rwL : List Nat → List Nat
  | [] => []
  | n :: r => if n ≤ r.length then r.take n else []
def rwE : List Nat → Int
  | [] => 4
  | n :: r => if n ≤ r.length then 0 else 4
def rwR : List Nat → List Nat
  | [] => []
  | n :: r => if n ≤ r.length then r.drop n else []

def ERowP (Q : Nat → Prop) (w : World) (g : Nat) (q : List Nat) (e : Ending) (w' : World) : Prop :=
  ∃ A c, e = .returned (.tuple #[.slice A (rwL q).length c, .int .i64 (rwE q)]) ∧ OwnB w' 5 w.heap.size A c (rwL q) ∧ Rdr Q w' g (rwR q) ∧ Kept (· = g) w w'

set_option maxRecDepth 100000 in
theorem erow2_any (g : Nat) (q : List Nat) (w : World) (h : Rdr Q w g q) : Calls Try.prog 82 #[.pointer (some ⟨g, 0, none⟩)] w (ERowP Q w g q) := by
  rcases q with _ | ⟨n, r⟩
  · exact (erow_nil g w h).mono fun e w' ⟨h1, h2, h3⟩ => ⟨none, 0, h1, OwnB.nil _ _ _, h2, h3⟩
  · by_cases hn : n ≤ r.length
    · refine (erow_ok g n r w h hn).mono fun e w' ⟨A, c, h1, h2, h3, h4⟩ => ⟨A, c, ?_⟩
      simp only [rwL, rwE, rwR, hn, if_true]
      exact ⟨h1, h2, h3, h4⟩
    · refine (erow_short g n r w h (by omega)).mono fun e w' ⟨h1, h2, h3⟩ => ⟨none, 0, ?_⟩
      simp only [rwL, rwE, rwR, hn, if_false]
      exact ⟨h1, OwnB.nil _ _ _, h2, h3⟩

def RRowP2 (Q : Nat → Prop) (w : World) (g : Nat) (q : List Nat) (rf : Bool) (e : Ending) (w' : World) : Prop :=
  ∃ A c q' rf', e = .returned (.tuple #[.slice A (rwL (lft q rf)).length c, .int .i64 (rwE (lft q rf))]) ∧ OwnB w' 5 w.heap.size A c (rwL (lft q rf)) ∧ Ref Q w' g q' rf' ∧ lft q' rf' = rwR (lft q rf) ∧ Kept (· = g) w w'

set_option maxRecDepth 100000 in
theorem rrow2_any (g : Nat) (q : List Nat) (rf : Bool) (w : World) (h : Ref Q w g q rf) : Calls Try.prog 37 #[.pointer (some ⟨g, 0, none⟩)] w (RRowP2 Q w g q rf) := by
  cases rf
  · rcases q with _ | ⟨n, r⟩
    · exact (rrow_nil g w h).mono fun e w' ⟨h1, h2, h3⟩ => ⟨none, 0, [], true, h1, OwnB.nil _ _ _, h2, rfl, h3⟩
    · by_cases hn : n ≤ r.length
      · refine (rrow_ok g n r w h hn).mono fun e w' ⟨A, c, h1, h2, h3, h4⟩ => ⟨A, c, r.drop n, false, ?_⟩
        simp only [lft, rwL, rwE, rwR, hn, if_true, Bool.false_eq_true, if_false]
        exact ⟨h1, h2, h3, trivial, h4⟩
      · refine (rrow_short g n r w h (by omega)).mono fun e w' ⟨h1, h2, h3⟩ => ⟨none, 0, n :: r, true, ?_⟩
        simp only [lft, rwL, rwE, rwR, hn, if_true, Bool.false_eq_true, if_false]
        exact ⟨h1, OwnB.nil _ _ _, h2, trivial, h3⟩
  · exact (rrow_refused g q w h).mono fun e w' ⟨h1, h2, h3⟩ => ⟨none, 0, q, true, h1, OwnB.nil _ _ _, h2, rfl, h3⟩

theorem Rdr.keptF {w w' : World} {g g2 : Nat} {q : List Nat} (h : Rdr Q w g q) (hk : Kept (· = g2) w w') (hg : At w g2 64) : Rdr Q w' g q :=
  h.kept hk (fun e => h.at_.ne_of hg (by decide) e) (fun k e _ ht => by subst e; exact ht.ne_of hg (by decide) rfl)
theorem Ref.keptR {w w' : World} {g g2 : Nat} {q : List Nat} {rf : Bool} (h : Ref Q w g2 q rf) (hk : Kept (· = g) w w') (hg : At w g 85) : Ref Q w' g2 q rf :=
  h.kept hk (fun e => h.at_.ne_of hg (by decide) e) (fun k e _ ht => by subst e; exact ht.ne_of hg (by decide) rfl)
theorem OwnB.keptF {w w' : World} {B : Nat} {A : Option Addr} {c g : Nat} {l : List Nat} (h : OwnB w 5 B A c l) (hk : Kept (· = g) w w') (hg : At w g 64) : OwnB w' 5 B A c l :=
  h.kept hk fun a ha => (h.at_ a ha).1.ne_of hg (by decide)

/-- A slice of integers that is read. -/
def Ins (w : World) (k : IntKind) (A : Option Addr) (n : Nat) (l : List Int) : Prop :=
  l.length = n ∧ (∀ x ∈ l, (Lit.int k x).wf = true) ∧ (0 < n → ∃ g o : Nat, A = some ⟨g, o, none⟩ ∧ ∀ (j : Nat) (x : Int), l[j]? = some x → w.cell? ⟨g, o + j, none⟩ = some (.int k x))
theorem Ins.at_ {w : World} {k : IntKind} {A : Option Addr} {n : Nat} {l : List Int} {j : Nat} (h : Ins w k A n l) (hj : j < n) :
    ∃ g o x, A = some ⟨g, o, none⟩ ∧ l[j]? = some x ∧ (Lit.int k x).wf = true ∧ w.cell? ⟨g, o + j, none⟩ = some (.int k x) := by
  obtain ⟨hl, hb, hc⟩ := h
  obtain ⟨g, o, e, hc⟩ := hc (by omega)
  have hk' : j < l.length := by omega
  exact ⟨g, o, l[j], e, List.getElem?_eq_getElem hk', hb _ (List.getElem_mem hk'), hc _ _ (List.getElem?_eq_getElem hk')⟩
theorem Ins.new {w w' : World} {k : IntKind} {A : Option Addr} {n : Nat} {l : List Int} (h : Ins w k A n l) (hk : New w w') : Ins w' k A n l := by
  obtain ⟨hl, hb, hc⟩ := h
  refine ⟨hl, hb, fun h0 => ?_⟩
  obtain ⟨g, o, e, hc⟩ := hc h0
  exact ⟨g, o, e, fun j x hx => hk.cell (hc j x hx) (fun f => f)⟩

structure IsI (W : World) (k : IntKind) (v : Value) (A : Option Addr) (n c : Nat) (l : List Int) : Prop where
  val : v = .slice A n c
  ins : Ins W k A n l
  le : n ≤ c
  cap : c ≤ maxLen

section
variable {H : Type} {enc : TypeId × Value → H} {P : Program}
theorem Arg.intsK {W : World} {base : Nat} {t e : TypeId} {k : IntKind} {v : Value} {d : DataW H} {p : List MemPlace} (h : Arg enc P W base t v d p) (ht : P.underlying t = some (.slice e)) (he : P.underlying e = some (.int k)) (hc : P.cellsOf e = 1) :
    ∃ A n c l, IsI W k v A n c l := by
  obtain ⟨A, n, c, rfl⟩ := okWide_slice ht h.ok
  obtain ⟨fuel, hf⟩ := h.tr
  rcases open_ints ht he hc hf with ⟨hcs, hx⟩ | ⟨a, len, cap, zs, hcs, _, hl, hm, hz, hx, hcell, hwz⟩
  · simp [Value.cells] at hcs
    obtain ⟨rfl, rfl, rfl⟩ := hcs
    exact ⟨none, 0, 0, [], rfl, ⟨rfl, by simp, fun h => absurd h (by omega)⟩, Nat.le_refl _, by simp⟩
  · simp [Value.cells] at hcs
    obtain ⟨rfl, rfl, rfl⟩ := hcs
    simp only [if_true] at hz
    refine ⟨some a, n, c, zs.take n, rfl, ⟨by simp; omega, fun x hx => hwz x (List.mem_of_mem_take hx), ?_⟩, hl, hm⟩
    intro h0
    obtain ⟨b, off, rfl, hc2⟩ := ints_at hcell (by omega)
    refine ⟨b, off, rfl, fun j x hx => ?_⟩
    rw [List.getElem?_take] at hx
    split at hx
    · have hj : j < zs.length := (List.getElem?_eq_some_iff.1 hx).1
      rw [hc2 j hj, List.getD_eq_getElem?_getD, hx]
      rfl
    · cases hx
end
end Go.Proofs.Ytlbbhfapmmcehaa
