/-
  Arguments opened: structs whose fields are structs, lists of such; a key, a node.
-/
import Derived.Test.YtlbbhfapmmcehaaFg
import Derived.SizedLaws
namespace Go.Proofs.Ytlbbhfapmmcehaa
set_option maxRecDepth 100000
open Go.RowKit Go.ChangeShapes Go.WideShapes Go.ChangeAt Go.Deep

section
variable {H : Type} {enc : TypeId × Value → H} {P : Program} {W : World}

/-- Cells that read as a datum, no part of which is too large. -/
def Rds (enc : TypeId × Value → H) (P : Program) (W : World) (t : TypeId) (cs : List Value) (d : DataW H) : Prop :=
  (∃ n p, DataW.trod enc P W 0 (fun _ => true) true n t cs = some (d, p)) ∧ ∀ m ∈ d.weights P t, m ≤ reachBytes

theorem Rds.field {t : TypeId} {fs : Array Field} {cs : List Value} {d : DataW H} (h : Rds enc P W t cs d) (ht : P.underlying t = some (.struct fs)) :
    cs.length = P.cellsOf t ∧ ∀ (j : Nat) (f : Field), fs[j]? = some f → ∃ d', Rds enc P W f.type ((cs.drop f.offset).take (P.cellsOf f.type)) d' := by
  obtain ⟨⟨n, p, h⟩, hw⟩ := h
  obtain ⟨xs, n', rfl, hx, hlen, hxl, hf⟩ := DataW.trod_struct ht h
  injection hx with hx1 hx2
  refine ⟨hlen, fun j f hj => ?_⟩
  have hlt : j < fs.size := (Array.getElem?_eq_some_iff.1 hj).1
  have h1 := hf j f hj
  have hxj : xs[j]? = some (xs[j]'(by omega)) := List.getElem?_eq_getElem (by omega)
  refine ⟨(xs[j]'(by omega)).1, ⟨n', (xs[j]'(by omega)).2, ?_⟩, fun m hm => hw m ?_⟩
  · rw [hxj] at h1
    exact h1
  · rw [hx1]
    simp only [DataW.weights, ht]
    refine DataW.weights_mem_each (j := j) (t := f.type) (d := (xs[j]'(by omega)).1) ?_ ?_ m hm
    · rw [List.getElem?_map, Array.getElem?_toList, hj]; rfl
    · rw [List.getElem?_map, hxj]; rfl

theorem Rds.int_ {t : TypeId} {cs : List Value} {d : DataW H} {k : IntKind} (h : Rds enc P W t cs d) (ht : P.underlying t = some (.int k)) : ∃ x : Int, cs = [.int k x] ∧ (Lit.int k x).wf = true := by
  obtain ⟨⟨n, p, h⟩, _⟩ := h
  obtain ⟨x, hx, _, hw⟩ := DataW.trod_int ht h
  exact ⟨x, hx, hw⟩
theorem Rds.bool_ {t : TypeId} {cs : List Value} {d : DataW H} (h : Rds enc P W t cs d) (ht : P.underlying t = some .bool) : ∃ x : Bool, cs = [.bool x] := by
  obtain ⟨⟨n, p, h⟩, _⟩ := h
  obtain ⟨x, hx, _⟩ := DataW.trod_bool ht h
  exact ⟨x, hx⟩
theorem Rds.string_ {t : TypeId} {cs : List Value} {d : DataW H} (h : Rds enc P W t cs d) (ht : P.underlying t = some .string) : ∃ s : ByteArray, cs = [.string s] ∧ s.size ≤ maxLen := by
  obtain ⟨⟨n, p, h⟩, _⟩ := h
  obtain ⟨s, hx, _, hl⟩ := DataW.trod_string ht h
  exact ⟨s, hx, hl⟩
theorem Rds.bytes_ {t e : TypeId} {cs : List Value} {d : DataW H} (h : Rds enc P W t cs d) (ht : P.underlying t = some (.slice e)) (he : P.underlying e = some (.int .u8)) (hc : P.cellsOf e = 1) (hby : P.bytesOf e = 1) :
    ∃ A n c l, cs = [.slice A n c] ∧ IsB W (.slice A n c) A n c l := by
  obtain ⟨⟨fuel, p, hf⟩, hsz⟩ := h
  rcases open_ints ht he hc hf with ⟨hcs, hx⟩ | ⟨a, len, cap, zs, hcs, _, hl, hm, hz, hx, hcell, hwz⟩
  · exact ⟨none, 0, 0, [], hcs, rfl, Bts.nil _ _, fun _ => ⟨rfl, rfl⟩, Nat.le_refl _, by omega⟩
  · simp only [if_true] at hz
    simp only [Prod.mk.injEq] at hx
    have hs2 := hsz ((zs.take len).length + (zs.drop len).length) (by rw [hx.1]; simp [DataW.weights, ht, hby, lits])
    have hcap : cap ≤ 140737488351232 := by simp [reachBytes] at hs2; omega
    refine ⟨some a, len, cap, (zs.take len).map Int.toNat, hcs, rfl, ⟨by simp; omega, ?_, ?_⟩, fun h => (by cases h), hl, hcap⟩
    · intro x hx
      obtain ⟨z, hz2, rfl⟩ := List.mem_map.1 hx
      obtain ⟨m, rfl, hm⟩ := u8_nat (hwz z (List.mem_of_mem_take hz2))
      simpa using hm
    · intro h0
      obtain ⟨b, off, rfl, hc2⟩ := ints_at hcell (by omega)
      refine ⟨b, off, rfl, fun j x hx => ?_⟩
      rw [List.getElem?_map] at hx
      obtain ⟨z, hz2, rfl⟩ := Option.map_eq_some_iff.1 hx
      rw [List.getElem?_take] at hz2
      split at hz2
      · obtain ⟨m, rfl, _⟩ := u8_nat (hwz z (List.mem_of_getElem? hz2))
        have hj : j < zs.length := (List.getElem?_eq_some_iff.1 hz2).1
        have := hc2 j hj
        rw [this, List.getD_eq_getElem?_getD, hz2]
        simp
      · cases hz2

theorem weightsAll_in {e : TypeId} : ∀ {l : List (DataW H)} {d : DataW H}, d ∈ l → ∀ n ∈ d.weights P e, n ∈ DataW.weightsAll P e l := by
  intro l
  induction l with
  | nil => intro d hd; cases hd
  | cons x l ih =>
    intro d hd n hn
    unfold DataW.weightsAll
    rcases List.mem_cons.1 hd with rfl | hd
    · exact List.mem_append_left _ hn
    · exact List.mem_append_right _ (ih hd n hn)

/-- A list of elements of z cells: each element's cells. -/
theorem Rds.list_ {t e : TypeId} {cs : List Value} {d : DataW H} (h : Rds enc P W t cs d) (ht : P.underlying t = some (.slice e)) (h0 : 0 < P.cellsOf e) :
    ∃ A n c, cs = [.slice A n c] ∧ (A = none → c = 0 ∧ n = 0) ∧ n ≤ c ∧ c ≤ maxLen ∧ n * P.bytesOf e ≤ reachBytes ∧
      (0 < n → ∃ g o, A = some ⟨g, o, none⟩ ∧ ∀ i, i < n → ∃ (us : List Value) (d' : DataW H), us.length = P.cellsOf e ∧ (∀ (j : Nat) (u : Value), us[j]? = some u → W.cell? ⟨g, o + (i * P.cellsOf e + j), none⟩ = some u) ∧ Rds enc P W e us d') := by
  obtain ⟨⟨fuel, p, hf⟩, hsz⟩ := h
  rcases open_slice ht hf with ⟨hcs, hx⟩ | ⟨a, len, cap, m, n', D, Pl, hcs, _, hl, hm, hmm, hx, hi⟩
  · exact ⟨none, 0, 0, hcs, fun _ => ⟨rfl, rfl⟩, Nat.le_refl _, by simp, by simp, fun h => absurd h (by omega)⟩
  · simp only [if_true] at hmm
    subst hmm
    simp only [Prod.mk.injEq] at hx
    have hlen : ((List.range len).map D).length = len := by simp
    have hw1 : (((List.range len).map D).length + ((List.range (m - len)).map fun j => D (len + j)).length) * P.bytesOf e ≤ reachBytes := hsz _ (by rw [hx.1]; simp [DataW.weights, ht])
    have hD : ∀ i, i < len → ∀ q ∈ (D i).weights P e, q ≤ reachBytes := fun i hil q hq => hsz q (by
      rw [hx.1]
      simp only [DataW.weights, ht]
      exact List.mem_cons_of_mem _ (List.mem_append_left _ (weightsAll_in (List.mem_map.2 ⟨i, List.mem_range.2 hil, rfl⟩) q hq)))
    refine ⟨some a, len, m, hcs, fun h => (by cases h), hl, hm, ?_, fun hp => ?_⟩
    · rw [hlen] at hw1
      exact Nat.le_trans (Nat.mul_le_mul_right _ (Nat.le_add_right _ _)) hw1
    · have each : ∀ i, i < len → ∃ (us : List Value) (d' : DataW H), us.length = P.cellsOf e ∧ (∀ (j : Nat) (u : Value), us[j]? = some u → W.cell? (a.add (i * P.cellsOf e + j)) = some u) ∧ Rds enc P W e us d' := fun i hil => by
        obtain ⟨cs', hc, ht'⟩ := hi i (by omega)
        obtain ⟨_, hcl, hcell⟩ := World.cells?_some hc
        refine ⟨cs', D i, hcl, fun j u hu => ?_, ⟨n', Pl i, ht'⟩, hD i hil⟩
        have hj : j < cs'.length := (List.getElem?_eq_some_iff.1 hu).1
        rw [← add_add, hcell j (by omega), hu]
      obtain ⟨g, o, spot⟩ := a
      obtain ⟨us, d', hul, hu, _⟩ := each 0 hp
      have hspot : spot = none := by
        have := World.cell?_spot (hu 0 us[0] (List.getElem?_eq_getElem (by omega)))
        simpa [Addr.add] using this
      subst hspot
      exact ⟨g, o, rfl, fun i hil => by
        obtain ⟨us, d', e1, e2, e3⟩ := each i hil
        exact ⟨us, d', e1, fun j u hu => by rw [← add_plain]; exact e2 j u hu, e3⟩⟩

theorem listOf {α : Type} {R : Nat → α → Prop} : ∀ (n : Nat), (∀ i, i < n → ∃ x, R i x) → ∃ l : List α, l.length = n ∧ ∀ i x, l[i]? = some x → R i x := by
  intro n
  induction n with
  | zero => intro _; exact ⟨[], rfl, by simp⟩
  | succ n ih =>
    intro h
    obtain ⟨l, hl, hr⟩ := ih fun i hi => h i (by omega)
    obtain ⟨x, hx⟩ := h n (by omega)
    refine ⟨l ++ [x], by simp [hl], fun i y hy => ?_⟩
    rcases Nat.lt_or_ge i l.length with hi | hi
    · rw [List.getElem?_append_left hi] at hy
      exact hr i y hy
    · rw [List.getElem?_append_right hi] at hy
      have : i - l.length = 0 := by
        have := (List.getElem?_eq_some_iff.1 hy).1
        simp at this
        omega
      rw [this] at hy
      simp at hy
      subst hy
      rw [show i = n by omega]
      exact hx

theorem Arg.rdsS {base : Nat} {t e : TypeId} {v : Value} {d : DataW H} {p : List MemPlace} (h : Arg enc P W base t v d p) (ht : P.underlying t = some (.slice e)) : Rds enc P W t [v] d := by
  obtain ⟨A, n, c, rfl⟩ := okWide_slice ht h.ok
  obtain ⟨fuel, hf⟩ := h.tr
  exact ⟨⟨fuel, p, by simpa [Value.cells] using hf⟩, h.sz⟩
theorem Arg.rds {base : Nat} {t : TypeId} {fs : Array Field} {v : Value} {d : DataW H} {p : List MemPlace} (h : Arg enc P W base t v d p) (ht : P.underlying t = some (.struct fs)) : ∃ cs, v = .agg cs ∧ Rds enc P W t cs.toList d := by
  obtain ⟨cs, rfl, hsz⟩ := okWide_struct ht h.ok
  obtain ⟨fuel, hf⟩ := h.tr
  exact ⟨cs, rfl, ⟨fuel, p, by simpa [Value.cells] using hf⟩, h.sz⟩

theorem cut1 {cs : List Value} {j : Nat} {v : Value} (h : (cs.drop j).take 1 = [v]) : cs[j]? = some v := by
  have := congrArg (fun l : List Value => l[0]?) h
  simpa using this
end

/-- What a key is that was handed in. -/
def KyIn (k : KY) : Prop := (-9223372036854775808 ≤ k.i ∧ k.i ≤ 9223372036854775807) ∧ k.t < 256 ∧ k.n.size ≤ maxLen ∧ (-9223372036854775808 ≤ k.c ∧ k.c ≤ 9223372036854775807)

section
variable {H : Type} {enc : TypeId × Value → H} {W : World}
theorem Rds.key_ {cs : List Value} {d : DataW H} (h : Rds enc Try.prog W 48 cs d) : ∃ k : KY, cs = kcells k ∧ KyIn k := by
  obtain ⟨hl, hf⟩ := h.field Try.underlying48
  have h4 : Try.prog.cellsOf 48 = 4 := by kernel_rfl
  have ci : Try.prog.cellsOf 3 = 1 := by kernel_rfl
  have c8 : Try.prog.cellsOf 5 = 1 := by kernel_rfl
  have cs1 : Try.prog.cellsOf 9 = 1 := by kernel_rfl
  rw [h4] at hl
  obtain ⟨d0, r0⟩ := hf 0 _ rfl
  obtain ⟨d1, r1⟩ := hf 1 _ rfl
  obtain ⟨d2, r2⟩ := hf 2 _ rfl
  obtain ⟨d3, r3⟩ := hf 3 _ rfl
  obtain ⟨x0, e0, b0⟩ := r0.int_ Try.underlying3
  obtain ⟨x1, e1, b1⟩ := r1.int_ Try.underlying5
  obtain ⟨x2, e2, b2⟩ := r2.string_ Try.underlying9
  obtain ⟨x3, e3, b3⟩ := r3.int_ Try.underlying3
  have e0 : (cs.drop 0).take (Try.prog.cellsOf 3) = [.int .i64 x0] := e0
  have e1 : (cs.drop 1).take (Try.prog.cellsOf 5) = [.int .u8 x1] := e1
  have e2 : (cs.drop 2).take (Try.prog.cellsOf 9) = [.string x2] := e2
  have e3 : (cs.drop 3).take (Try.prog.cellsOf 3) = [.int .i64 x3] := e3
  rw [ci] at e0 e3
  rw [c8] at e1
  rw [cs1] at e2
  obtain ⟨y1, rfl, h8⟩ := u8_nat b1
  refine ⟨⟨x0, y1, x2, x3⟩, ?_, i64_bounds b0, h8, b2, i64_bounds b3⟩
  apply List.ext_getElem?
  intro i
  match i with
  | 0 => exact cut1 e0
  | 1 => exact cut1 e1
  | 2 => exact cut1 e2
  | 3 => exact cut1 e3
  | i + 4 => rw [List.getElem?_eq_none (by omega), List.getElem?_eq_none (by simp [kcells])]
theorem Arg.key_ {base : Nat} {v : Value} {d : DataW H} {p : List MemPlace} (h : Arg enc Try.prog W base 48 v d p) : ∃ k : KY, v = .agg #[.int .i64 k.i, .int .u8 (k.t : Nat), .string k.n, .int .i64 k.c] ∧ KyIn k := by
  obtain ⟨cs, rfl, hr⟩ := h.rds Try.underlying48
  obtain ⟨k, hk, hi⟩ := hr.key_
  refine ⟨k, ?_, hi⟩
  exact congrArg Value.agg (Array.toList_inj.1 hk)

end

/-- A key's box. -/
theorem cells4 {w : World} {g : Nat} {k : KY} (h : Blk w g 48 [.int .i64 k.i, .int .u8 (k.t : Nat), .string k.n, .int .i64 k.c]) :
    w.cell? ⟨g, 0, none⟩ = some (.int .i64 k.i) ∧ w.cell? ⟨g, 1, none⟩ = some (.int .u8 (k.t : Nat)) ∧ w.cell? ⟨g, 2, none⟩ = some (.string k.n) ∧ w.cell? ⟨g, 3, none⟩ = some (.int .i64 k.c) :=
  ⟨h.cell 0, h.cell 1, h.cell 2, h.cell 3⟩
end Go.Proofs.Ytlbbhfapmmcehaa
