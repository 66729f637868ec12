/-
  What the pool's texts use of the nand's statements' texts.
-/
import Derived.Test.YtgfdiboaiifdnaaGreatSn
import Derived.Test.YtgfdiboaiifdnaaGreatSo
import Derived.Test.YtgfdiboaiifdnaaGreatNq
import Derived.BigRegion
import Derived.Deep.Fields
import Derived.Deep.RegionHeld3
import Derived.Deep.RegionLaw
import Derived.Deep.Slices
import Derived.Handy
import Derived.SizedLaws
namespace Go.Proofs.YtgfdiboaiifdnaaGreat
open Go.ChangeShapes Go.WideShapes Go.ChangeAt Go.RowKit Go.Deep

theorem new_of_kept {w0 w w' : World} {S : Nat → Prop} (k : New w0 w) (hk : Kept S w w') (hq : ∀ b, S b → w0.heap.size ≤ b) : New w0 w' :=
  k.trans (S' := S) hk fun i hi h => absurd (hq i h) (by omega)

def InRow (A : Option Addr) (b : Nat) : Prop := ∃ a, A = some a ∧ a.block = b

theorem deedS_geo (s : CSt) (b off : Nat) (g : List Nat) : (deedS s b off g).nb = s.nb ∧ (deedS s b off g).np = s.np ∧ (deedS s b off g).nz = s.nz ∧ (deedS s b off g).ns = s.ns := by
  unfold deedS
  split
  · exact ⟨rfl, rfl, rfl, rfl⟩
  · split <;> exact ⟨rfl, rfl, rfl, rfl⟩
theorem erasS_geo (s : CSt) (b : Int) : (erasS s b).nb = s.nb ∧ (erasS s b).np = s.np ∧ (erasS s b).nz = s.nz ∧ (erasS s b).ns = s.ns := by
  unfold erasS
  split
  · exact deedS_geo _ _ _ _
  · exact ⟨rfl, rfl, rfl, rfl⟩

section
variable {H : Type} {enc : TypeId × Value → H} {P : Program} {W : World}

/-- A cell that reads as a datum, no part of which is too large. -/
def Fld (enc : TypeId × Value → H) (P : Program) (W : World) (t : TypeId) (v : Value) (d : DataW H) : Prop :=
  (∃ n p, DataW.trod enc P W 0 (fun _ => true) true n t [v] = some (d, p)) ∧ ∀ m ∈ d.weights P t, m ≤ reachBytes

theorem weightsAll_of {e : TypeId} : ∀ {l : List (DataW H)} {d : DataW H}, d ∈ l → ∀ n ∈ d.weights P e, n ∈ DataW.weightsAll P e l := by
  intro l
  induction l with
  | nil => intro d hd; cases hd
  | cons x l ih =>
    intro d hd n hn
    unfold DataW.weightsAll
    rcases List.mem_cons.1 hd with rfl | hd
    · exact List.mem_append_left _ hn
    · exact List.mem_append_right _ (ih hd n hn)

/-- A struct's cells, one a field. -/
theorem fields_of {t : TypeId} {fs : Array Field} {n : Nat} {cs : List Value} {d : DataW H} {p : List MemPlace} (ht : P.underlying t = some (.struct fs)) (hone : oneCellFields P fs = true) (hC : P.cellsOf t = fs.size)
    (h : DataW.trod enc P W 0 (fun _ => true) true n t cs = some (d, p)) (hw : ∀ m ∈ d.weights P t, m ≤ reachBytes) :
    cs.length = fs.size ∧ ∀ (j : Nat) (f : Field), fs[j]? = some f → ∃ v d', cs[j]? = some v ∧ Fld enc P W f.type v d' := by
  obtain ⟨xs, n', rfl, hx, hlen, hxl, hf⟩ := DataW.trod_struct ht h
  injection hx with hx1 hx2
  rw [hC] at hlen
  refine ⟨hlen, fun j f hj => ?_⟩
  have hlt : j < fs.size := (Array.getElem?_eq_some_iff.1 hj).1
  obtain ⟨o1, o2⟩ := hone_of hone j f hj
  have h1 := hf j f hj
  rw [o1, o2, List.drop_eq_getElem_cons (show j < cs.length by omega)] at h1
  have hxj : xs[j]? = some (xs[j]'(by omega)) := List.getElem?_eq_getElem (by omega)
  refine ⟨cs[j]'(by omega), (xs[j]'(by omega)).1, List.getElem?_eq_getElem (by omega), ⟨n', (xs[j]'(by omega)).2, ?_⟩, fun m hm => hw m ?_⟩
  · rw [hxj] at h1
    exact h1
  · rw [hx1]
    simp only [DataW.weights, ht]
    refine DataW.weights_mem_each (j := j) (t := f.type) (d := (xs[j]'(by omega)).1) ?_ ?_ m hm
    · rw [List.getElem?_map, Array.getElem?_toList, hj]; rfl
    · rw [List.getElem?_map, hxj]; rfl

theorem Fld.int_ {t : TypeId} {v : Value} {d : DataW H} {k : IntKind} (h : Fld enc P W t v d) (ht : P.underlying t = some (.int k)) : ∃ x : Int, v = .int k x ∧ (Lit.int k x).wf = true := by
  obtain ⟨⟨n, p, h⟩, _⟩ := h
  obtain ⟨x, hx, _, hw⟩ := DataW.trod_int ht h
  injection hx with hx
  exact ⟨x, hx, hw⟩
theorem Fld.bool_ {t : TypeId} {v : Value} {d : DataW H} (h : Fld enc P W t v d) (ht : P.underlying t = some .bool) : ∃ x : Bool, v = .bool x := by
  obtain ⟨⟨n, p, h⟩, _⟩ := h
  obtain ⟨x, hx, _⟩ := DataW.trod_bool ht h
  injection hx with hx
  exact ⟨x, hx⟩
theorem Fld.bytes_ {t e : TypeId} {v : Value} {d : DataW H} (h : Fld enc P W t v d) (ht : P.underlying t = some (.slice e)) (he : P.underlying e = some (.int .u8)) (hc : P.cellsOf e = 1) (hby : P.bytesOf e = 1) : ∃ A n c l, IsB W v A n c l := by
  obtain ⟨⟨fuel, p, hf⟩, hsz⟩ := h
  rcases open_ints ht he hc hf with ⟨hcs, hx⟩ | ⟨a, len, cap, zs, hcs, _, hl, hm, hz, hx, hcell, hwz⟩
  · injection hcs with hcs
    subst hcs
    exact ⟨none, 0, 0, [], rfl, Bts.nil _ _, fun _ => ⟨rfl, rfl⟩, Nat.le_refl _, by omega⟩
  · injection hcs with hcs
    subst hcs
    simp only [if_true] at hz
    simp only [Prod.mk.injEq] at hx
    have hs2 := hsz ((zs.take len).length + (zs.drop len).length) (by rw [hx.1]; simp [DataW.weights, ht, hby, lits])
    have hcap : cap ≤ 140737488351232 := by simp [reachBytes] at hs2; omega
    refine ⟨some a, len, cap, (zs.take len).map Int.toNat, rfl, ⟨by simp; omega, ?_, ?_⟩, fun h => (by cases h), hl, hcap⟩
    · intro x hx
      obtain ⟨z, hz2, rfl⟩ := List.mem_map.1 hx
      obtain ⟨m, rfl, hm⟩ := u8_nat (hwz z (List.mem_of_mem_take hz2))
      simpa using hm
    · intro h0
      obtain ⟨b, off, rfl, hc2⟩ := ints_at hcell (by omega)
      refine ⟨b, off, rfl, fun j x hx => ?_⟩
      rw [List.getElem?_map] at hx
      obtain ⟨z, hz2, rfl⟩ := Option.map_eq_some_iff.1 hx
      rw [List.getElem?_take] at hz2
      split at hz2
      · obtain ⟨m, rfl, _⟩ := u8_nat (hwz z (List.mem_of_getElem? hz2))
        have hj : j < zs.length := (List.getElem?_eq_some_iff.1 hz2).1
        have := hc2 j hj
        rw [this, List.getD_eq_getElem?_getD, hz2]
        simp
      · cases hz2

/-- A list of structs: each field of each element. -/
theorem Fld.list_ {t e : TypeId} {fs : Array Field} {v : Value} {d : DataW H} (h : Fld enc P W t v d) (ht : P.underlying t = some (.slice e)) (he : P.underlying e = some (.struct fs)) (hone : oneCellFields P fs = true) (hC : P.cellsOf e = fs.size) (h0 : 0 < fs.size) :
    ∃ A n c, v = .slice A n c ∧ (A = none → c = 0 ∧ n = 0) ∧ n ≤ c ∧ c ≤ maxLen ∧ n * P.bytesOf e ≤ reachBytes ∧
      (0 < n → ∃ g o, A = some ⟨g, o, none⟩ ∧ ∀ (i j : Nat) (f : Field), i < n → fs[j]? = some f → ∃ u d', W.cell? ⟨g, o + (i * fs.size + j), none⟩ = some u ∧ Fld enc P W f.type u d') := by
  obtain ⟨⟨fuel, p, hf⟩, hsz⟩ := h
  rcases open_slice ht hf with ⟨hcs, hx⟩ | ⟨a, len, cap, m, n', D, Pl, hcs, _, hl, hm, hmm, hx, hi⟩
  · injection hcs with hcs
    subst hcs
    exact ⟨none, 0, 0, rfl, fun _ => ⟨rfl, rfl⟩, Nat.le_refl _, by simp, by simp, fun h => absurd h (by omega)⟩
  · injection hcs with hcs
    subst hcs
    simp only [if_true] at hmm
    subst hmm
    simp only [Prod.mk.injEq] at hx
    have hlen : ((List.range len).map D).length = len := by simp
    have hw1 : (((List.range len).map D).length + ((List.range (m - len)).map fun j => D (len + j)).length) * P.bytesOf e ≤ reachBytes := hsz _ (by rw [hx.1]; simp [DataW.weights, ht])
    have hD : ∀ i, i < len → ∀ q ∈ (D i).weights P e, q ≤ reachBytes := fun i hil q hq => hsz q (by
      rw [hx.1]
      simp only [DataW.weights, ht]
      exact List.mem_cons_of_mem _ (List.mem_append_left _ (weightsAll_of (List.mem_map.2 ⟨i, List.mem_range.2 hil, rfl⟩) q hq)))
    refine ⟨some a, len, m, rfl, fun h => (by cases h), hl, hm, ?_, fun hp => ?_⟩
    · rw [hlen] at hw1
      exact Nat.le_trans (Nat.mul_le_mul_right _ (Nat.le_add_right _ _)) hw1
    · have each : ∀ (i j : Nat) (f : Field), i < len → fs[j]? = some f → ∃ u d', W.cell? (a.add (i * fs.size + j)) = some u ∧ Fld enc P W f.type u d' := fun i j f hil hj => by
        obtain ⟨cs', hc, ht'⟩ := hi i (by omega)
        obtain ⟨hcl, hat⟩ := fields_of he hone hC ht' (hD i hil)
        obtain ⟨u, d', hu, hfl⟩ := hat j f hj
        obtain ⟨_, _, hcell⟩ := World.cells?_some hc
        have hjl : j < fs.size := (Array.getElem?_eq_some_iff.1 hj).1
        refine ⟨u, d', ?_, hfl⟩
        rw [← add_add, ← hC, hcell j (by omega), hu]
      obtain ⟨g, o, spot⟩ := a
      obtain ⟨u, d', hu, _⟩ := each 0 0 (fs[0]'h0) hp (Array.getElem?_eq_getElem h0)
      have hspot : spot = none := by simpa [Addr.add] using World.cell?_spot hu
      subst hspot
      exact ⟨g, o, rfl, fun i j f hil hj => by rw [← add_plain]; exact each i j f hil hj⟩

theorem list_of {α : Type} {R : Nat → α → Prop} : ∀ (n : Nat), (∀ i, i < n → ∃ x, R i x) → ∃ l : List α, l.length = n ∧ ∀ i x, l[i]? = some x → R i x := by
  intro n
  induction n with
  | zero => intro _; exact ⟨[], rfl, by simp⟩
  | succ n ih =>
    intro h
    obtain ⟨l, hl, hr⟩ := ih fun i hi => h i (by omega)
    obtain ⟨x, hx⟩ := h n (by omega)
    refine ⟨l ++ [x], by simp [hl], fun i y hy => ?_⟩
    rcases Nat.lt_or_ge i l.length with hi | hi
    · rw [List.getElem?_append_left hi] at hy
      exact hr i y hy
    · rw [List.getElem?_append_right hi] at hy
      have : i - l.length = 0 := by
        have := (List.getElem?_eq_some_iff.1 hy).1
        simp at this
        omega
      rw [this] at hy
      simp at hy
      subst hy
      rw [show i = n by omega]
      exact hx

theorem flat3 {α : Type} (f g h : α → Value) : ∀ (xs : List α), (xs.flatMap fun x => [f x, g x, h x]).length = xs.length * 3 ∧
    (∀ (i : Nat) (x : α), xs[i]? = some x → (xs.flatMap fun x => [f x, g x, h x])[3 * i]? = some (f x) ∧ (xs.flatMap fun x => [f x, g x, h x])[3 * i + 1]? = some (g x) ∧ (xs.flatMap fun x => [f x, g x, h x])[3 * i + 2]? = some (h x)) ∧
    ∀ (j : Nat) (v : Value), (xs.flatMap fun x => [f x, g x, h x])[j]? = some v → ∃ i x, xs[i]? = some x ∧ ((j = 3 * i ∧ v = f x) ∨ (j = 3 * i + 1 ∧ v = g x) ∨ (j = 3 * i + 2 ∧ v = h x)) := by
  intro xs
  induction xs with
  | nil => exact ⟨rfl, by simp, by simp⟩
  | cons y xs ih =>
    obtain ⟨h1, h2, h3⟩ := ih
    refine ⟨by simp only [List.flatMap_cons, List.length_append, h1, List.length_cons, List.length_nil]; omega, fun i x hx => ?_, fun j v hv => ?_⟩
    · cases i with
      | zero => simp at hx; subst hx; simp
      | succ i =>
        obtain ⟨a1, a2, a3⟩ := h2 i x (by simpa using hx)
        simp only [List.flatMap_cons]
        refine ⟨?_, ?_, ?_⟩
        · rw [List.getElem?_append_right (by simp; omega)]; simpa [show 3 * (i + 1) - 3 = 3 * i by omega] using a1
        · rw [List.getElem?_append_right (by simp; omega)]; simpa [show 3 * (i + 1) + 1 - 3 = 3 * i + 1 by omega] using a2
        · rw [List.getElem?_append_right (by simp; omega)]; simpa [show 3 * (i + 1) + 2 - 3 = 3 * i + 2 by omega] using a3
    · simp only [List.flatMap_cons] at hv
      match j, hv with
      | 0, hv => exact ⟨0, y, rfl, .inl ⟨rfl, by simpa using hv.symm⟩⟩
      | 1, hv => exact ⟨0, y, rfl, .inr (.inl ⟨rfl, by simpa using hv.symm⟩)⟩
      | 2, hv => exact ⟨0, y, rfl, .inr (.inr ⟨rfl, by simpa using hv.symm⟩)⟩
      | j + 3, hv =>
        rw [List.getElem?_append_right (by simp)] at hv
        obtain ⟨i, x, hx, hh⟩ := h3 j v (by simpa using hv)
        refine ⟨i + 1, x, by simpa using hx, ?_⟩
        rcases hh with ⟨e, r⟩ | ⟨e, r⟩ | ⟨e, r⟩
        · exact .inl ⟨by omega, r⟩
        · exact .inr (.inl ⟨by omega, r⟩)
        · exact .inr (.inr ⟨by omega, r⟩)

theorem Arg.fld {base : Nat} {t e : TypeId} {v : Value} {d : DataW H} {p : List MemPlace} (h : Arg enc P W base t v d p) (ht : P.underlying t = some (.slice e)) : Fld enc P W t v d := by
  obtain ⟨A, n, c, rfl⟩ := okWide_slice ht h.ok
  obtain ⟨fuel, hf⟩ := h.tr
  exact ⟨⟨fuel, p, by simpa [Value.cells] using hf⟩, h.sz⟩
theorem Arg.fields {base : Nat} {t : TypeId} {fs : Array Field} {v : Value} {d : DataW H} {p : List MemPlace} (h : Arg enc P W base t v d p) (ht : P.underlying t = some (.struct fs)) (hone : oneCellFields P fs = true) (hC : P.cellsOf t = fs.size) :
    ∃ cs, v = .agg cs ∧ cs.size = fs.size ∧ ∀ (j : Nat) (f : Field), fs[j]? = some f → ∃ u d', cs[j]? = some u ∧ Fld enc P W f.type u d' := by
  obtain ⟨cs, rfl, hsz⟩ := okWide_struct ht h.ok
  obtain ⟨fuel, hf⟩ := h.tr
  obtain ⟨h1, h2⟩ := fields_of ht hone hC (cs := cs.toList) (by simpa [Value.cells] using hf) h.sz
  refine ⟨cs, rfl, hsz.trans hC, fun j f hj => ?_⟩
  obtain ⟨u, d', hu, hd⟩ := h2 j f hj
  exact ⟨u, d', by simpa using hu, hd⟩
end

end Go.Proofs.YtgfdiboaiifdnaaGreat
