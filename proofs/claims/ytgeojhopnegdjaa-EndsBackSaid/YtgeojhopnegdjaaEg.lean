/-
  Rows of bytes that came in; what is put one behind the other.
-/
import Derived.Test.YtgeojhopnegdjaaEf
import Derived.Deep.Matrix
import Derived.Deep.CutBlock
import Derived.Deep.DeepCutAuto
namespace Go.Proofs.Ytgeojhopnegdjaa
open Go.ChangeShapes Go.WideShapes Go.ChangeAt Go.RowKit

/-- A slice of slices of bytes that is read. -/
def Rws (w : World) (A : Option Addr) (n : Nat) (ls : List (List Nat)) : Prop :=
  ls.length = n ∧ (0 < n → ∃ g o : Nat, A = some ⟨g, o, none⟩ ∧ ∀ (j : Nat) (l : List Nat), ls[j]? = some l → ∃ B c, w.cell? ⟨g, o + j, none⟩ = some (.slice B l.length c) ∧ Bts w B l.length l ∧ l.length ≤ c ∧ c ≤ maxLen ∧ (B = none → c = 0 ∧ l.length = 0))
theorem Rws.at_ {w : World} {A : Option Addr} {n : Nat} {ls : List (List Nat)} {j : Nat} (h : Rws w A n ls) (hj : j < n) :
    ∃ g o l B c, A = some ⟨g, o, none⟩ ∧ ls[j]? = some l ∧ w.cell? ⟨g, o + j, none⟩ = some (.slice B l.length c) ∧ Bts w B l.length l ∧ l.length ≤ c ∧ c ≤ maxLen := by
  obtain ⟨hl, hc⟩ := h
  obtain ⟨g, o, e, hc⟩ := hc (by omega)
  have hk' : j < ls.length := by omega
  obtain ⟨B, c, h1, h2, h3, h4, _⟩ := hc j _ (List.getElem?_eq_getElem hk')
  exact ⟨g, o, ls[j], B, c, e, List.getElem?_eq_getElem hk', h1, h2, h3, h4⟩
theorem Rws.new {w w' : World} {A : Option Addr} {n : Nat} {ls : List (List Nat)} (h : Rws w A n ls) (hk : New w w') : Rws w' A n ls := by
  obtain ⟨hl, hc⟩ := h
  refine ⟨hl, fun h0 => ?_⟩
  obtain ⟨g, o, e, hc⟩ := hc h0
  refine ⟨g, o, e, fun j l hl => ?_⟩
  obtain ⟨B, c, h1, h2, h3⟩ := hc j l hl
  exact ⟨B, c, hk.cell h1 (fun f => f), h2.new hk, h3⟩

structure IsR (W : World) (v : Value) (A : Option Addr) (n c : Nat) (ls : List (List Nat)) : Prop where
  val : v = .slice A n c
  rws : Rws W A n ls
  le : n ≤ c
  cap : c ≤ maxLen

section
variable {H : Type} {enc : TypeId × Value → H} {P : Program}
theorem Arg.rows_ {W : World} {base : Nat} {t e q : TypeId} {v : Value} {d : DataW H} {p : List MemPlace} (h : Arg enc P W base t v d p) (ht : P.underlying t = some (.slice e)) (he : P.underlying e = some (.slice q)) (hq : P.underlying q = some (.int .u8))
    (ce : P.cellsOf e = 1) (cq : P.cellsOf q = 1) : ∃ A n c ls, IsR W v A n c ls := by
  obtain ⟨A, n, c, rfl⟩ := okWide_slice ht h.ok
  obtain ⟨fuel, hf⟩ := h.tr
  rcases Go.Deep.open_int_rows ht he hq ce cq hf with ⟨hcs, hx⟩ | ⟨a, len, cap, A', L, C, Z, hcs, _, hl, hm, _, hr⟩
  · simp [Value.cells] at hcs
    obtain ⟨rfl, rfl, rfl⟩ := hcs
    exact ⟨none, 0, 0, [], rfl, ⟨rfl, fun h => absurd h (by omega)⟩, Nat.le_refl _, by simp⟩
  · simp [Value.cells] at hcs
    obtain ⟨rfl, rfl, rfl⟩ := hcs
    refine ⟨some a, n, c, (List.range n).map fun r => ((Z r).take (L r)).map Int.toNat, rfl, ⟨by simp, fun h0 => ?_⟩, hl, hm⟩
    have hspot : a.spot = none := by
      have := World.cell?_spot (hr 0 (by omega)).1
      simpa [Addr.add] using this
    obtain ⟨b, off, spot⟩ := a
    simp only at hspot
    subst hspot
    refine ⟨b, off, rfl, fun j l hj => ?_⟩
    rw [List.getElem?_map] at hj
    obtain ⟨r, hr1, rfl⟩ := Option.map_eq_some_iff.1 hj
    have hjn : j < n := by have := (List.getElem?_eq_some_iff.1 hr1).1; simpa using this
    obtain rfl : j = r := by rw [List.getElem?_range hjn] at hr1; injection hr1
    obtain ⟨h1, h2, h3, h4, h5, h6, h7⟩ := hr j (by omega)
    have hlen : (((Z j).take (L j)).map Int.toNat).length = L j := by simp; omega
    rw [hlen]
    refine ⟨A' j, C j, by rw [← Addr.add_lit]; exact h1, ⟨hlen, ?_, fun h0 => ?_⟩, h2, h3, fun hn => ⟨h6 hn, by have := h6 hn; omega⟩⟩
    · intro x hx
      obtain ⟨z, hz2, rfl⟩ := List.mem_map.1 hx
      obtain ⟨m, rfl, hm⟩ := u8_nat (h5 z (List.mem_of_mem_take hz2))
      simpa using hm
    · rcases hA : A' j with _ | a'
      · have := h6 hA; omega
      · obtain ⟨_, hc⟩ := h7 a' hA
        obtain ⟨b', off', rfl, hc2⟩ := ints_at (zs := Z j) (fun i hi => hc i (by omega)) (by omega)
        refine ⟨b', off', rfl, fun i x hx => ?_⟩
        rw [List.getElem?_map] at hx
        obtain ⟨z, hz2, rfl⟩ := Option.map_eq_some_iff.1 hx
        rw [List.getElem?_take] at hz2
        split at hz2
        · obtain ⟨m, rfl, _⟩ := u8_nat (h5 z (List.mem_of_getElem? hz2))
          have hj : i < (Z j).length := (List.getElem?_eq_some_iff.1 hz2).1
          rw [hc2 i hj, List.getD_eq_getElem?_getD, hz2]
          simp
        · cases hz2
end

/-- Numbers and their sizes, one behind the other. -/
def encN (ps : List (Nat × Nat)) : List Nat := ps.flatMap fun p => leB p.1 p.2
def encR (ls : List (List Nat)) : List Nat := ls.flatMap rowL
/-- The i-th size. -/
def szOf (i : Nat) : Nat := 2 ^ (i % 4)
/-- The pairs of the first k of l. -/
def prs (l : List Int) (k : Nat) : List (Nat × Nat) := (List.range k).map fun i => ((l.getD i 0).toNat / 2 ^ (64 - 8 * szOf i), szOf i)

theorem szOf_sz (i : Nat) : isSz (szOf i : Nat) := by
  unfold szOf
  have h : i % 4 = 0 ∨ i % 4 = 1 ∨ i % 4 = 2 ∨ i % 4 = 3 := by omega
  rcases h with h | h | h | h <;> rw [h] <;> decide
theorem wrap_sz (i : Nat) : wrap64 (2 ^ (i % 4)) = ((szOf i : Nat) : Int) := by
  unfold szOf wrap64
  have h : i % 4 = 0 ∨ i % 4 = 1 ∨ i % 4 = 2 ∨ i % 4 = 3 := by omega
  rcases h with h | h | h | h <;> rw [h] <;> decide
theorem szOf_le (i : Nat) : 1 ≤ szOf i ∧ szOf i ≤ 8 := by
  have := szOf_sz i
  unfold isSz at this
  omega
theorem prs_succ (l : List Int) (k : Nat) : prs l (k + 1) = prs l k ++ [((l.getD k 0).toNat / 2 ^ (64 - 8 * szOf k), szOf k)] := by simp [prs, List.range_succ]
theorem prs_length (l : List Int) (k : Nat) : (prs l k).length = k := by simp [prs]
theorem encN_succ (l : List Int) (k : Nat) : encN (prs l (k + 1)) = encN (prs l k) ++ leB ((l.getD k 0).toNat / 2 ^ (64 - 8 * szOf k)) (szOf k) := by rw [prs_succ]; simp [encN]
theorem encN_len (l : List Int) (k : Nat) : (encN (prs l k)).length ≤ 8 * k := by
  induction k with
  | zero => simp [prs, encN]
  | succ k ih =>
    rw [encN_succ, List.length_append, leB_length]
    have := szOf_le k
    omega
theorem rowL_len (l : List Nat) : (rowL l).length ≤ 256 := by
  unfold rowL
  split
  · simp; omega
  · simp
theorem encR_len (ls : List (List Nat)) : (encR ls).length ≤ 256 * ls.length := by
  induction ls with
  | nil => simp [encR]
  | cons x r ih =>
    have := rowL_len x
    simp only [encR, List.flatMap_cons, List.length_append, List.length_cons] at ih ⊢
    omega
theorem encR_take (ls : List (List Nat)) (k : Nat) (l : List Nat) (h : ls[k]? = some l) : encR (ls.take (k + 1)) = encR (ls.take k) ++ rowL l := by
  have hk : k < ls.length := (List.getElem?_eq_some_iff.1 h).1
  have e : ls[k] = l := (List.getElem?_eq_some_iff.1 h).2
  rw [List.take_succ_eq_append_getElem hk, e]
  simp [encR]
theorem encR_drop (ls : List (List Nat)) (k : Nat) (l : List Nat) (h : ls[k]? = some l) : encR (ls.drop k) = rowL l ++ encR (ls.drop (k + 1)) := by
  have hk : k < ls.length := (List.getElem?_eq_some_iff.1 h).1
  have e : ls[k] = l := (List.getElem?_eq_some_iff.1 h).2
  rw [List.drop_eq_getElem_cons hk, e]
  simp [encR]
theorem encN_drop (l : List Int) (N k : Nat) (hk : k < N) : encN ((prs l N).drop k) = leB ((l.getD k 0).toNat / 2 ^ (64 - 8 * szOf k)) (szOf k) ++ encN ((prs l N).drop (k + 1)) := by
  have hk' : k < (prs l N).length := by rw [prs_length]; exact hk
  rw [List.drop_eq_getElem_cons hk']
  simp [encN, prs]
theorem div_fits (x s : Nat) (hs : isSz s) (hx : x < 18446744073709551616) : fitB (x / 2 ^ (64 - 8 * s)) s = true := by
  have hs' : s = 1 ∨ s = 2 ∨ s = 4 ∨ s = 8 := by unfold isSz at hs; omega
  unfold fitB
  rw [decide_eq_true_iff]
  rcases hs' with rfl | rfl | rfl | rfl <;> simp <;> omega
theorem leV_leB (n s : Nat) (h : n < 256 ^ s) : leV (leB n s) = n := by
  have key : ∀ k, leV (leB n k) = n % 256 ^ k := by
    intro k
    induction k with
    | zero => simp [leB, leV, Nat.mod_one]
    | succ k ih =>
      rw [leB_succ, leV_append, ih, leB_length, Nat.pow_succ, Nat.mod_mul]
      simp [leV]
  rw [key, Nat.mod_eq_of_lt h]
theorem take_put (n s : Nat) (r : List Nat) (hs : isSz s) (hf : fitB n s = true) : takeV (leB n s ++ r) s = n ∧ takeE (leB n s ++ r) s = 0 ∧ takeL (leB n s ++ r) s = r := by
  have hl : s ≤ (leB n s ++ r).length := by simp [leB_length]
  have hn : n < 256 ^ s := by unfold fitB at hf; simpa using hf
  unfold takeV takeE takeL
  rw [Int.toNat_natCast, if_pos hs, if_pos hs, if_pos hs, if_pos hl, if_pos hl, if_pos hl]
  refine ⟨?_, rfl, ?_⟩
  · rw [List.take_append_of_le_length (by rw [leB_length]; exact Nat.le_refl _), List.take_of_length_le (by rw [leB_length]; exact Nat.le_refl _), leV_leB n s hn]
  · rw [List.drop_append_of_le_length (by rw [leB_length]; exact Nat.le_refl _), List.drop_of_length_le (by rw [leB_length]; exact Nat.le_refl _)]
    rfl
end Go.Proofs.Ytgeojhopnegdjaa
