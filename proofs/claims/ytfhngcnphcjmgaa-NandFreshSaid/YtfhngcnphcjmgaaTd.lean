/-
  Arguments opened: structs by value, lists of structs whose fields hold lists.
-/
import Derived.Test.YtfhngcnphcjmgaaTc
import Derived.Deep.Slices
import Derived.Deep.Fields
import Derived.SizedLaws
namespace Go.Proofs.Ytfhngcnphcjmgaa
open Go.ChangeShapes Go.WideShapes Go.ChangeAt Go.RowKit Go.Deep

section
variable {H : Type} {enc : TypeId × Value → H} {P : Program} {W : World}

/-- A cell that reads as a datum, no part of which is too large. -/
def Fld (enc : TypeId × Value → H) (P : Program) (W : World) (t : TypeId) (v : Value) (d : DataW H) : Prop :=
  (∃ n p, DataW.trod enc P W 0 (fun _ => true) true n t [v] = some (d, p)) ∧ ∀ m ∈ d.weights P t, m ≤ reachBytes

theorem weightsAll_of {e : TypeId} : ∀ {l : List (DataW H)} {d : DataW H}, d ∈ l → ∀ n ∈ d.weights P e, n ∈ DataW.weightsAll P e l := by
  intro l
  induction l with
  | nil => intro d hd; cases hd
  | cons x l ih =>
    intro d hd n hn
    unfold DataW.weightsAll
    rcases List.mem_cons.1 hd with rfl | hd
    · exact List.mem_append_left _ hn
    · exact List.mem_append_right _ (ih hd n hn)

/-- A struct's cells, one a field. -/
theorem fields_of {t : TypeId} {fs : Array Field} {n : Nat} {cs : List Value} {d : DataW H} {p : List MemPlace} (ht : P.underlying t = some (.struct fs)) (hone : oneCellFields P fs = true) (hC : P.cellsOf t = fs.size)
    (h : DataW.trod enc P W 0 (fun _ => true) true n t cs = some (d, p)) (hw : ∀ m ∈ d.weights P t, m ≤ reachBytes) :
    cs.length = fs.size ∧ ∀ (j : Nat) (f : Field), fs[j]? = some f → ∃ v d', cs[j]? = some v ∧ Fld enc P W f.type v d' := by
  obtain ⟨xs, n', rfl, hx, hlen, hxl, hf⟩ := DataW.trod_struct ht h
  injection hx with hx1 hx2
  rw [hC] at hlen
  refine ⟨hlen, fun j f hj => ?_⟩
  have hlt : j < fs.size := (Array.getElem?_eq_some_iff.1 hj).1
  obtain ⟨o1, o2⟩ := hone_of hone j f hj
  have h1 := hf j f hj
  rw [o1, o2, List.drop_eq_getElem_cons (show j < cs.length by omega)] at h1
  have hxj : xs[j]? = some (xs[j]'(by omega)) := List.getElem?_eq_getElem (by omega)
  refine ⟨cs[j]'(by omega), (xs[j]'(by omega)).1, List.getElem?_eq_getElem (by omega), ⟨n', (xs[j]'(by omega)).2, ?_⟩, fun m hm => hw m ?_⟩
  · rw [hxj] at h1
    exact h1
  · rw [hx1]
    simp only [DataW.weights, ht]
    refine DataW.weights_mem_each (j := j) (t := f.type) (d := (xs[j]'(by omega)).1) ?_ ?_ m hm
    · rw [List.getElem?_map, Array.getElem?_toList, hj]; rfl
    · rw [List.getElem?_map, hxj]; rfl

theorem Fld.int_ {t : TypeId} {v : Value} {d : DataW H} {k : IntKind} (h : Fld enc P W t v d) (ht : P.underlying t = some (.int k)) : ∃ x : Int, v = .int k x ∧ (Lit.int k x).wf = true := by
  obtain ⟨⟨n, p, h⟩, _⟩ := h
  obtain ⟨x, hx, _, hw⟩ := DataW.trod_int ht h
  injection hx with hx
  exact ⟨x, hx, hw⟩
theorem Fld.bool_ {t : TypeId} {v : Value} {d : DataW H} (h : Fld enc P W t v d) (ht : P.underlying t = some .bool) : ∃ x : Bool, v = .bool x := by
  obtain ⟨⟨n, p, h⟩, _⟩ := h
  obtain ⟨x, hx, _⟩ := DataW.trod_bool ht h
  injection hx with hx
  exact ⟨x, hx⟩
theorem Fld.bytes_ {t e : TypeId} {v : Value} {d : DataW H} (h : Fld enc P W t v d) (ht : P.underlying t = some (.slice e)) (he : P.underlying e = some (.int .u8)) (hc : P.cellsOf e = 1) (hby : P.bytesOf e = 1) : ∃ A n c l, IsB W v A n c l := by
  obtain ⟨⟨fuel, p, hf⟩, hsz⟩ := h
  rcases open_ints ht he hc hf with ⟨hcs, hx⟩ | ⟨a, len, cap, zs, hcs, _, hl, hm, hz, hx, hcell, hwz⟩
  · injection hcs with hcs
    subst hcs
    exact ⟨none, 0, 0, [], rfl, Bts.nil _ _, fun _ => ⟨rfl, rfl⟩, Nat.le_refl _, by omega⟩
  · injection hcs with hcs
    subst hcs
    simp only [if_true] at hz
    simp only [Prod.mk.injEq] at hx
    have hs2 := hsz ((zs.take len).length + (zs.drop len).length) (by rw [hx.1]; simp [DataW.weights, ht, hby, lits])
    have hcap : cap ≤ 140737488351232 := by simp [reachBytes] at hs2; omega
    refine ⟨some a, len, cap, (zs.take len).map Int.toNat, rfl, ⟨by simp; omega, ?_, ?_⟩, fun h => (by cases h), hl, hcap⟩
    · intro x hx
      obtain ⟨z, hz2, rfl⟩ := List.mem_map.1 hx
      obtain ⟨m, rfl, hm⟩ := u8_nat (hwz z (List.mem_of_mem_take hz2))
      simpa using hm
    · intro h0
      obtain ⟨b, off, rfl, hc2⟩ := ints_at hcell (by omega)
      refine ⟨b, off, rfl, fun j x hx => ?_⟩
      rw [List.getElem?_map] at hx
      obtain ⟨z, hz2, rfl⟩ := Option.map_eq_some_iff.1 hx
      rw [List.getElem?_take] at hz2
      split at hz2
      · obtain ⟨m, rfl, _⟩ := u8_nat (hwz z (List.mem_of_getElem? hz2))
        have hj : j < zs.length := (List.getElem?_eq_some_iff.1 hz2).1
        have := hc2 j hj
        rw [this, List.getD_eq_getElem?_getD, hz2]
        simp
      · cases hz2

/-- A list of structs: each field of each element. -/
theorem Fld.list_ {t e : TypeId} {fs : Array Field} {v : Value} {d : DataW H} (h : Fld enc P W t v d) (ht : P.underlying t = some (.slice e)) (he : P.underlying e = some (.struct fs)) (hone : oneCellFields P fs = true) (hC : P.cellsOf e = fs.size) (h0 : 0 < fs.size) :
    ∃ A n c, v = .slice A n c ∧ (A = none → c = 0 ∧ n = 0) ∧ n ≤ c ∧ c ≤ maxLen ∧ n * P.bytesOf e ≤ reachBytes ∧
      (0 < n → ∃ g o, A = some ⟨g, o, none⟩ ∧ ∀ (i j : Nat) (f : Field), i < n → fs[j]? = some f → ∃ u d', W.cell? ⟨g, o + (i * fs.size + j), none⟩ = some u ∧ Fld enc P W f.type u d') := by
  obtain ⟨⟨fuel, p, hf⟩, hsz⟩ := h
  rcases open_slice ht hf with ⟨hcs, hx⟩ | ⟨a, len, cap, m, n', D, Pl, hcs, _, hl, hm, hmm, hx, hi⟩
  · injection hcs with hcs
    subst hcs
    exact ⟨none, 0, 0, rfl, fun _ => ⟨rfl, rfl⟩, Nat.le_refl _, by simp, by simp, fun h => absurd h (by omega)⟩
  · injection hcs with hcs
    subst hcs
    simp only [if_true] at hmm
    subst hmm
    simp only [Prod.mk.injEq] at hx
    have hlen : ((List.range len).map D).length = len := by simp
    have hw1 : (((List.range len).map D).length + ((List.range (m - len)).map fun j => D (len + j)).length) * P.bytesOf e ≤ reachBytes := hsz _ (by rw [hx.1]; simp [DataW.weights, ht])
    have hD : ∀ i, i < len → ∀ q ∈ (D i).weights P e, q ≤ reachBytes := fun i hil q hq => hsz q (by
      rw [hx.1]
      simp only [DataW.weights, ht]
      exact List.mem_cons_of_mem _ (List.mem_append_left _ (weightsAll_of (List.mem_map.2 ⟨i, List.mem_range.2 hil, rfl⟩) q hq)))
    refine ⟨some a, len, m, rfl, fun h => (by cases h), hl, hm, ?_, fun hp => ?_⟩
    · rw [hlen] at hw1
      exact Nat.le_trans (Nat.mul_le_mul_right _ (Nat.le_add_right _ _)) hw1
    · have each : ∀ (i j : Nat) (f : Field), i < len → fs[j]? = some f → ∃ u d', W.cell? (a.add (i * fs.size + j)) = some u ∧ Fld enc P W f.type u d' := fun i j f hil hj => by
        obtain ⟨cs', hc, ht'⟩ := hi i (by omega)
        obtain ⟨hcl, hat⟩ := fields_of he hone hC ht' (hD i hil)
        obtain ⟨u, d', hu, hfl⟩ := hat j f hj
        obtain ⟨_, _, hcell⟩ := World.cells?_some hc
        have hjl : j < fs.size := (Array.getElem?_eq_some_iff.1 hj).1
        refine ⟨u, d', ?_, hfl⟩
        rw [← add_add, ← hC, hcell j (by omega), hu]
      obtain ⟨g, o, spot⟩ := a
      obtain ⟨u, d', hu, _⟩ := each 0 0 (fs[0]'h0) hp (Array.getElem?_eq_getElem h0)
      have hspot : spot = none := by simpa [Addr.add] using World.cell?_spot hu
      subst hspot
      exact ⟨g, o, rfl, fun i j f hil hj => by rw [← add_plain]; exact each i j f hil hj⟩

theorem list_of {α : Type} {R : Nat → α → Prop} : ∀ (n : Nat), (∀ i, i < n → ∃ x, R i x) → ∃ l : List α, l.length = n ∧ ∀ i x, l[i]? = some x → R i x := by
  intro n
  induction n with
  | zero => intro _; exact ⟨[], rfl, by simp⟩
  | succ n ih =>
    intro h
    obtain ⟨l, hl, hr⟩ := ih fun i hi => h i (by omega)
    obtain ⟨x, hx⟩ := h n (by omega)
    refine ⟨l ++ [x], by simp [hl], fun i y hy => ?_⟩
    rcases Nat.lt_or_ge i l.length with hi | hi
    · rw [List.getElem?_append_left hi] at hy
      exact hr i y hy
    · rw [List.getElem?_append_right hi] at hy
      have : i - l.length = 0 := by
        have := (List.getElem?_eq_some_iff.1 hy).1
        simp at this
        omega
      rw [this] at hy
      simp at hy
      subst hy
      rw [show i = n by omega]
      exact hx

theorem flat3 {α : Type} (f g h : α → Value) : ∀ (xs : List α), (xs.flatMap fun x => [f x, g x, h x]).length = xs.length * 3 ∧
    (∀ (i : Nat) (x : α), xs[i]? = some x → (xs.flatMap fun x => [f x, g x, h x])[3 * i]? = some (f x) ∧ (xs.flatMap fun x => [f x, g x, h x])[3 * i + 1]? = some (g x) ∧ (xs.flatMap fun x => [f x, g x, h x])[3 * i + 2]? = some (h x)) ∧
    ∀ (j : Nat) (v : Value), (xs.flatMap fun x => [f x, g x, h x])[j]? = some v → ∃ i x, xs[i]? = some x ∧ ((j = 3 * i ∧ v = f x) ∨ (j = 3 * i + 1 ∧ v = g x) ∨ (j = 3 * i + 2 ∧ v = h x)) := by
  intro xs
  induction xs with
  | nil => exact ⟨rfl, by simp, by simp⟩
  | cons y xs ih =>
    obtain ⟨h1, h2, h3⟩ := ih
    refine ⟨by simp only [List.flatMap_cons, List.length_append, h1, List.length_cons, List.length_nil]; omega, fun i x hx => ?_, fun j v hv => ?_⟩
    · cases i with
      | zero => simp at hx; subst hx; simp
      | succ i =>
        obtain ⟨a1, a2, a3⟩ := h2 i x (by simpa using hx)
        simp only [List.flatMap_cons]
        refine ⟨?_, ?_, ?_⟩
        · rw [List.getElem?_append_right (by simp; omega)]; simpa [show 3 * (i + 1) - 3 = 3 * i by omega] using a1
        · rw [List.getElem?_append_right (by simp; omega)]; simpa [show 3 * (i + 1) + 1 - 3 = 3 * i + 1 by omega] using a2
        · rw [List.getElem?_append_right (by simp; omega)]; simpa [show 3 * (i + 1) + 2 - 3 = 3 * i + 2 by omega] using a3
    · simp only [List.flatMap_cons] at hv
      match j, hv with
      | 0, hv => exact ⟨0, y, rfl, .inl ⟨rfl, by simpa using hv.symm⟩⟩
      | 1, hv => exact ⟨0, y, rfl, .inr (.inl ⟨rfl, by simpa using hv.symm⟩)⟩
      | 2, hv => exact ⟨0, y, rfl, .inr (.inr ⟨rfl, by simpa using hv.symm⟩)⟩
      | j + 3, hv =>
        rw [List.getElem?_append_right (by simp)] at hv
        obtain ⟨i, x, hx, hh⟩ := h3 j v (by simpa using hv)
        refine ⟨i + 1, x, by simpa using hx, ?_⟩
        rcases hh with ⟨e, r⟩ | ⟨e, r⟩ | ⟨e, r⟩
        · exact .inl ⟨by omega, r⟩
        · exact .inr (.inl ⟨by omega, r⟩)
        · exact .inr (.inr ⟨by omega, r⟩)

theorem Arg.fld {base : Nat} {t e : TypeId} {v : Value} {d : DataW H} {p : List MemPlace} (h : Arg enc P W base t v d p) (ht : P.underlying t = some (.slice e)) : Fld enc P W t v d := by
  obtain ⟨A, n, c, rfl⟩ := okWide_slice ht h.ok
  obtain ⟨fuel, hf⟩ := h.tr
  exact ⟨⟨fuel, p, by simpa [Value.cells] using hf⟩, h.sz⟩
theorem Arg.fields {base : Nat} {t : TypeId} {fs : Array Field} {v : Value} {d : DataW H} {p : List MemPlace} (h : Arg enc P W base t v d p) (ht : P.underlying t = some (.struct fs)) (hone : oneCellFields P fs = true) (hC : P.cellsOf t = fs.size) :
    ∃ cs, v = .agg cs ∧ cs.size = fs.size ∧ ∀ (j : Nat) (f : Field), fs[j]? = some f → ∃ u d', cs[j]? = some u ∧ Fld enc P W f.type u d' := by
  obtain ⟨cs, rfl, hsz⟩ := okWide_struct ht h.ok
  obtain ⟨fuel, hf⟩ := h.tr
  obtain ⟨h1, h2⟩ := fields_of ht hone hC (cs := cs.toList) (by simpa [Value.cells] using hf) h.sz
  refine ⟨cs, rfl, hsz.trans hC, fun j f hj => ?_⟩
  obtain ⟨u, d', hu, hd⟩ := h2 j f hj
  exact ⟨u, d', by simpa using hu, hd⟩
end

section
variable {H : Type} {enc : TypeId × Value → H} {W : World}

theorem Fld.hits_ {v : Value} {d : DataW H} (h : Fld enc Try.prog W 31 v d) : ∃ B m e hs, v = .slice B m e ∧ HitsA W B m hs ∧ (B = none → e = 0 ∧ m = 0) ∧ m * 40 ≤ 140737488351232 ∧ m ≤ e ∧ e ≤ maxLen := by
  obtain ⟨A, n, c, rfl, hA, hn, hc, hby, hcell⟩ := h.list_ Try.underlying31 Try.underlying52 (by kernel_rfl) (by kernel_rfl) (by decide)
  have hb40 : Try.prog.bytesOf 52 = 40 := by kernel_rfl
  rw [hb40] at hby
  have hby2 : n * 40 ≤ 140737488351232 := by simpa [reachBytes] using hby
  rcases Nat.eq_zero_or_pos n with h0 | h0
  · subst h0
    exact ⟨A, 0, c, [], rfl, ⟨rfl, by simp, [], RowV.nil _ _ _, by simp, by simp⟩, hA, by omega, hn, hc⟩
  · obtain ⟨g, o, eA, hce⟩ := hcell h0
    clear hcell
    subst eA
    have each : ∀ i, i < n → ∃ x : HitI × Value, HitIOk x.1 ∧ W.cell? ⟨g, o + 3 * i, none⟩ = some (.int .i64 x.1.after) ∧ W.cell? ⟨g, o + (3 * i + 1), none⟩ = some (.bool x.1.fails) ∧ W.cell? ⟨g, o + (3 * i + 2), none⟩ = some x.2 ∧
        ∃ Am cm, x.2 = .slice Am x.1.mask.length cm ∧ Bts W Am x.1.mask.length x.1.mask ∧ (Am = none → cm = 0 ∧ x.1.mask.length = 0) ∧ x.1.mask.length ≤ cm ∧ cm ≤ maxLen := fun i hi => by
      obtain ⟨u0, d0, c0, f0⟩ := hce i 0 _ hi rfl
      obtain ⟨u1, d1, c1, f1⟩ := hce i 1 _ hi rfl
      obtain ⟨u2, d2, c2, f2⟩ := hce i 2 _ hi rfl
      obtain ⟨x, rfl, wx⟩ := f0.int_ Try.underlying3
      obtain ⟨y, rfl⟩ := f1.bool_ Try.underlying4
      obtain ⟨Am, nm, cm, l, hB⟩ := f2.bytes_ Try.underlying30 Try.underlying5 (by kernel_rfl) (by kernel_rfl)
      have hx := i64_bounds wx
      have hcm := hB.cap
      have hle := hB.le
      have hln := hB.bts.1
      have hnil := hB.nil
      refine ⟨⟨⟨x, y, l⟩, .slice Am nm cm⟩, ⟨hx.2, hx.1, hB.bts.2.1, by show l.length ≤ _; omega⟩, ?_, ?_, ?_, Am, cm, ?_, ?_, ?_, ?_, ?_⟩
      · rw [Nat.mul_comm]; exact c0
      · rw [Nat.mul_comm]; exact c1
      · rw [Nat.mul_comm, ← hB.val]; exact c2
      · show Value.slice Am nm cm = .slice Am l.length cm; rw [hln]
      · show Bts W Am l.length l; rw [hln]; exact hB.bts
      · show Am = none → cm = 0 ∧ l.length = 0; rw [hln]; exact hnil
      · show l.length ≤ cm; omega
      · unfold maxLen; omega
    obtain ⟨xs, hxl, hxs⟩ := list_of n each
    obtain ⟨q1, q2, q3⟩ := flat3 (fun x : HitI × Value => .int .i64 x.1.after) (fun x => .bool x.1.fails) (fun x => x.2) xs
    refine ⟨_, n, c, xs.map (·.1), rfl, ⟨by simp [hxl], ?_, xs.flatMap fun x => [.int .i64 x.1.after, .bool x.1.fails, x.2], ⟨?_, fun _ => ⟨g, o, rfl, ?_⟩⟩, ?_, ?_⟩, hA, hby2, hn, hc⟩
    · intro x hx
      obtain ⟨y, hy, rfl⟩ := List.mem_map.1 hx
      obtain ⟨i, hi⟩ := List.mem_iff_getElem?.1 hy
      exact (hxs i y hi).1
    · rw [q1, hxl]
    · intro j v hv
      obtain ⟨i, x, hx, hh⟩ := q3 j v hv
      obtain ⟨_, k0, k1, k2, _⟩ := hxs i x hx
      rcases hh with ⟨rfl, rfl⟩ | ⟨rfl, rfl⟩ | ⟨rfl, rfl⟩
      · exact k0
      · exact k1
      · exact k2
    · intro u hu
      obtain ⟨y, hy, hu⟩ := List.mem_flatMap.1 hu
      obtain ⟨i, hi⟩ := List.mem_iff_getElem?.1 hy
      obtain ⟨Am, cm, e, _⟩ := (hxs i y hi).2.2.2.2
      simp at hu
      rcases hu with rfl | rfl | rfl
      · rfl
      · rfl
      · rw [e]; rfl
    · intro i y hy
      rw [List.getElem?_map] at hy
      obtain ⟨x, hx, rfl⟩ := Option.map_eq_some_iff.1 hy
      obtain ⟨a1, a2, a3⟩ := q2 i x hx
      obtain ⟨Am, cm, e, b1, b2, b3⟩ := (hxs i x hx).2.2.2.2
      exact ⟨a1, a2, Am, cm, by rw [a3, e], b1, b2, b3⟩

/-- An act by its six cells. -/
theorem act_of {u0 u1 u2 u3 u4 u5 : Value} {d0 d1 d2 d3 d4 d5 : DataW H} (f0 : Fld enc Try.prog W 3 u0 d0) (f1 : Fld enc Try.prog W 3 u1 d1) (f2 : Fld enc Try.prog W 3 u2 d2) (f3 : Fld enc Try.prog W 5 u3 d3) (f4 : Fld enc Try.prog W 30 u4 d4) (f5 : Fld enc Try.prog W 31 u5 d5) :
    ∃ (a : ActV) (A : Option Addr) (n c : Nat) (B : Option Addr) (m e : Nat), u0 = .int .i64 a.do_ ∧ u1 = .int .i64 a.block ∧ u2 = .int .i64 a.page ∧ u3 = .int .u8 (a.fill : Int) ∧ u4 = .slice A n c ∧ u5 = .slice B m e ∧ ActM W a A n c B m e := by
  obtain ⟨x0, rfl, _⟩ := f0.int_ Try.underlying3
  obtain ⟨x1, rfl, _⟩ := f1.int_ Try.underlying3
  obtain ⟨x2, rfl, _⟩ := f2.int_ Try.underlying3
  obtain ⟨x3, rfl, w3⟩ := f3.int_ Try.underlying5
  obtain ⟨y3, rfl, h3⟩ := u8_nat w3
  obtain ⟨A, n, c, l, hB⟩ := f4.bytes_ Try.underlying30 Try.underlying5 (by kernel_rfl) (by kernel_rfl)
  obtain ⟨B, m, e, hs, rfl, hH, hnil, hb, hm, hc⟩ := f5.hits_
  exact ⟨⟨x0, x1, x2, y3, l, hs⟩, A, n, c, B, m, e, rfl, rfl, rfl, rfl, hB.val, rfl, ⟨hB.bts, by have := hB.le; have := hB.cap; omega, h3, hH, hnil, hb⟩⟩

theorem Arg.acts_ {base : Nat} {v : Value} {d : DataW H} {p : List MemPlace} (h : Arg enc Try.prog W base 24 v d p) : ∃ A n c al, v = .slice A n c ∧ ActsA W A n al ∧ n ≤ c ∧ c ≤ maxLen := by
  obtain ⟨A, n, c, rfl, hA, hn, hc, hby, hcell⟩ := (h.fld Try.underlying24).list_ Try.underlying24 Try.underlying33 (by kernel_rfl) (by kernel_rfl) (by decide)
  rcases Nat.eq_zero_or_pos n with h0 | h0
  · subst h0
    exact ⟨A, 0, c, [], rfl, ⟨rfl, fun h => absurd h (by omega)⟩, hn, hc⟩
  · obtain ⟨g, o, eA, hce⟩ := hcell h0
    clear hcell
    subst eA
    have each : ∀ i, i < n → ∃ a : ActV, ∃ Ab nb cb Bh mh ch, W.cell? ⟨g, o + i * 6, none⟩ = some (.int .i64 a.do_) ∧ W.cell? ⟨g, o + i * 6 + 1, none⟩ = some (.int .i64 a.block) ∧ W.cell? ⟨g, o + i * 6 + 2, none⟩ = some (.int .i64 a.page) ∧ W.cell? ⟨g, o + i * 6 + 3, none⟩ = some (.int .u8 (a.fill : Int)) ∧
        W.cell? ⟨g, o + i * 6 + 4, none⟩ = some (.slice Ab nb cb) ∧ W.cell? ⟨g, o + i * 6 + 5, none⟩ = some (.slice Bh mh ch) ∧ ActM W a Ab nb cb Bh mh ch := fun i hi => by
      obtain ⟨u0, d0, c0, f0⟩ := hce i 0 _ hi rfl
      obtain ⟨u1, d1, c1, f1⟩ := hce i 1 _ hi rfl
      obtain ⟨u2, d2, c2, f2⟩ := hce i 2 _ hi rfl
      obtain ⟨u3, d3, c3, f3⟩ := hce i 3 _ hi rfl
      obtain ⟨u4, d4, c4, f4⟩ := hce i 4 _ hi rfl
      obtain ⟨u5, d5, c5, f5⟩ := hce i 5 _ hi rfl
      obtain ⟨a, Ab, nb, cb, Bh, mh, ch, rfl, rfl, rfl, rfl, rfl, rfl, hm⟩ := act_of f0 f1 f2 f3 f4 f5
      exact ⟨a, Ab, nb, cb, Bh, mh, ch, c0, c1, c2, c3, c4, c5, hm⟩
    obtain ⟨al, hl, hal⟩ := list_of n each
    exact ⟨_, n, c, al, rfl, ⟨hl, fun _ => ⟨g, o, rfl, hal⟩⟩, hn, hc⟩

theorem Arg.act_ {base : Nat} {v : Value} {d : DataW H} {p : List MemPlace} (h : Arg enc Try.prog W base 33 v d p) : ∃ (a : ActV) (A : Option Addr) (n c : Nat) (B : Option Addr) (m e : Nat),
    v = .agg #[.int .i64 a.do_, .int .i64 a.block, .int .i64 a.page, .int .u8 (a.fill : Int), .slice A n c, .slice B m e] ∧ ActM W a A n c B m e := by
  obtain ⟨cs, rfl, hsz, hc⟩ := h.fields Try.underlying33 (by kernel_rfl) (by kernel_rfl)
  obtain ⟨u0, d0, c0, f0⟩ := hc 0 _ rfl
  obtain ⟨u1, d1, c1, f1⟩ := hc 1 _ rfl
  obtain ⟨u2, d2, c2, f2⟩ := hc 2 _ rfl
  obtain ⟨u3, d3, c3, f3⟩ := hc 3 _ rfl
  obtain ⟨u4, d4, c4, f4⟩ := hc 4 _ rfl
  obtain ⟨u5, d5, c5, f5⟩ := hc 5 _ rfl
  obtain ⟨a, Ab, nb, cb, Bh, mh, ch, rfl, rfl, rfl, rfl, rfl, rfl, hm⟩ := act_of f0 f1 f2 f3 f4 f5
  refine ⟨a, Ab, nb, cb, Bh, mh, ch, ?_, hm⟩
  congr 1
  apply Array.ext_getElem?
  intro i
  match i with
  | 0 => exact c0
  | 1 => exact c1
  | 2 => exact c2
  | 3 => exact c3
  | 4 => exact c4
  | 5 => exact c5
  | i + 6 => rw [Array.getElem?_eq_none (by rw [hsz]; simp), Array.getElem?_eq_none (by simp)]

theorem Arg.geo_ {base : Nat} {v : Value} {d : DataW H} {p : List MemPlace} (h : Arg enc Try.prog W base 23 v d p) : ∃ x0 x1 x2 x3 : Int, v = .agg #[.int .i64 x0, .int .i64 x1, .int .i64 x2, .int .i64 x3] := by
  obtain ⟨cs, rfl, hsz, hc⟩ := h.fields Try.underlying23 (by kernel_rfl) (by kernel_rfl)
  obtain ⟨u0, d0, c0, f0⟩ := hc 0 _ rfl
  obtain ⟨u1, d1, c1, f1⟩ := hc 1 _ rfl
  obtain ⟨u2, d2, c2, f2⟩ := hc 2 _ rfl
  obtain ⟨u3, d3, c3, f3⟩ := hc 3 _ rfl
  obtain ⟨x0, rfl, _⟩ := f0.int_ Try.underlying3
  obtain ⟨x1, rfl, _⟩ := f1.int_ Try.underlying3
  obtain ⟨x2, rfl, _⟩ := f2.int_ Try.underlying3
  obtain ⟨x3, rfl, _⟩ := f3.int_ Try.underlying3
  refine ⟨x0, x1, x2, x3, ?_⟩
  congr 1
  apply Array.ext_getElem?
  intro i
  match i with
  | 0 => exact c0
  | 1 => exact c1
  | 2 => exact c2
  | 3 => exact c3
  | i + 4 => rw [Array.getElem?_eq_none (by rw [hsz]; simp), Array.getElem?_eq_none (by simp)]
end

theorem geo_nat {a b c d : Int} (h : geoOk a b c d) : ∃ x y u v : Nat, a = x ∧ b = y ∧ c = u ∧ d = v := by
  unfold geoOk at h
  exact ⟨a.toNat, b.toNat, c.toNat, d.toNat, by omega, by omega, by omega, by omega⟩
end Go.Proofs.Ytfhngcnphcjmgaa
