/-
  Arguments opened: facts, changes.
-/
import Derived.Test.YtbiihjdjbknibaaMh
import Derived.Test.YtbiihjdjbknibaaFi
namespace Go.Proofs.Ytbiihjdjbknibaa
set_option maxRecDepth 100000
open Go.RowKit Go.ChangeShapes Go.WideShapes Go.ChangeAt Go.Deep

theorem getElem_take_drop {cs us : List Value} {o n : Nat} (h : (cs.drop o).take n = us) {j : Nat} (hj : j < n) : cs[o + j]? = us[j]? := by
  rw [← h, List.getElem?_take, if_pos hj, List.getElem?_drop]

section
variable {H : Type} {enc : TypeId × Value → H} {W : World}
theorem Rds.fact_ {cs : List Value} {d : DataW H} (h : Rds enc Try.prog W 27 cs d) : ∃ e : FE, cs = e.cells ∧ EOk W e ∧ KyIn e.f.k := by
  obtain ⟨hl, hf⟩ := h.field Try.underlying27
  have h5 : Try.prog.cellsOf 27 = 5 := by kernel_rfl
  have c4 : Try.prog.cellsOf 24 = 4 := by kernel_rfl
  have c1 : Try.prog.cellsOf 25 = 1 := by kernel_rfl
  rw [h5] at hl
  obtain ⟨d0, r0⟩ := hf 0 _ rfl
  obtain ⟨d1, r1⟩ := hf 1 _ rfl
  obtain ⟨k, e0, hk⟩ := r0.key_
  obtain ⟨A, n, c, l, e1, hb⟩ := r1.bytes_ Try.underlying25 Try.underlying5 (by kernel_rfl) (by kernel_rfl)
  have e0 : (cs.drop 0).take (Try.prog.cellsOf 24) = kcells k := e0
  have e1 : (cs.drop 4).take (Try.prog.cellsOf 25) = [.slice A n c] := e1
  rw [c4] at e0
  rw [c1] at e1
  have hn : l.length = n := hb.bts.1
  subst hn
  refine ⟨⟨⟨k, l⟩, A, c⟩, ?_, ⟨hb.bts, hb.nil, Nat.le_trans hb.le hb.cap, hk.2.2.1⟩, hk⟩
  apply List.ext_getElem?
  intro i
  match i with
  | 0 => exact getElem_take_drop e0 (j := 0) (by omega)
  | 1 => exact getElem_take_drop e0 (j := 1) (by omega)
  | 2 => exact getElem_take_drop e0 (j := 2) (by omega)
  | 3 => exact getElem_take_drop e0 (j := 3) (by omega)
  | 4 => exact getElem_take_drop e1 (j := 0) (by omega)
  | i + 5 => rw [List.getElem?_eq_none (by omega), List.getElem?_eq_none (by simp [FE.cells, kcells])]
theorem Rds.change_ {cs : List Value} {d : DataW H} (h : Rds enc Try.prog W 78 cs d) : ∃ e : CE, cs = e.cells ∧ COk W e ∧ KyIn e.f.k := by
  obtain ⟨hl, hf⟩ := h.field Try.underlying78
  have h6 : Try.prog.cellsOf 78 = 6 := by kernel_rfl
  have c4 : Try.prog.cellsOf 24 = 4 := by kernel_rfl
  have c1 : Try.prog.cellsOf 25 = 1 := by kernel_rfl
  have c0 : Try.prog.cellsOf 4 = 1 := by kernel_rfl
  rw [h6] at hl
  obtain ⟨d0, r0⟩ := hf 0 _ rfl
  obtain ⟨d1, r1⟩ := hf 1 _ rfl
  obtain ⟨d2, r2⟩ := hf 2 _ rfl
  obtain ⟨k, e0, hk⟩ := r0.key_
  obtain ⟨A, n, c, l, e1, hb⟩ := r1.bytes_ Try.underlying25 Try.underlying5 (by kernel_rfl) (by kernel_rfl)
  obtain ⟨g, e2⟩ := r2.bool_ Try.underlying4
  have e0 : (cs.drop 0).take (Try.prog.cellsOf 24) = kcells k := e0
  have e1 : (cs.drop 4).take (Try.prog.cellsOf 25) = [.slice A n c] := e1
  have e2 : (cs.drop 5).take (Try.prog.cellsOf 4) = [.bool g] := e2
  rw [c4] at e0
  rw [c1] at e1
  rw [c0] at e2
  have hn : l.length = n := hb.bts.1
  subst hn
  refine ⟨⟨⟨k, l, g⟩, A, c⟩, ?_, ⟨hb.bts, hb.nil, Nat.le_trans hb.le hb.cap, hk.2.2.1⟩, hk⟩
  apply List.ext_getElem?
  intro i
  match i with
  | 0 => exact getElem_take_drop e0 (j := 0) (by omega)
  | 1 => exact getElem_take_drop e0 (j := 1) (by omega)
  | 2 => exact getElem_take_drop e0 (j := 2) (by omega)
  | 3 => exact getElem_take_drop e0 (j := 3) (by omega)
  | 4 => exact getElem_take_drop e1 (j := 0) (by omega)
  | 5 => exact getElem_take_drop e2 (j := 0) (by omega)
  | i + 6 => rw [List.getElem?_eq_none (by omega), List.getElem?_eq_none (by simp [CE.cells, kcells])]

theorem fes_get : ∀ (es : List FE) (j : Nat), j < es.length * 5 → ∃ e, es[j / 5]? = some e ∧ (fes es)[j]? = e.cells[j % 5]?
  | [], j, h => by simp at h
  | x :: r, j, h => by
    rcases Nat.lt_or_ge j 5 with hj | hj
    · refine ⟨x, by rw [Nat.div_eq_of_lt hj]; rfl, ?_⟩
      rw [Nat.mod_eq_of_lt hj]
      simp only [fes]
      rw [List.getElem?_append_left (by rw [fe_len]; exact hj)]
    · obtain ⟨e, h1, h2⟩ := fes_get r (j - 5) (by simp at h; omega)
      refine ⟨e, ?_, ?_⟩
      · rw [show j / 5 = (j - 5) / 5 + 1 by omega, List.getElem?_cons_succ]
        exact h1
      · simp only [fes]
        rw [List.getElem?_append_right (by rw [fe_len]; exact hj), fe_len, h2, show j % 5 = (j - 5) % 5 by omega]
theorem ces_get : ∀ (es : List CE) (j : Nat), j < es.length * 6 → ∃ e, es[j / 6]? = some e ∧ (ces es)[j]? = e.cells[j % 6]?
  | [], j, h => by simp at h
  | x :: r, j, h => by
    rcases Nat.lt_or_ge j 6 with hj | hj
    · refine ⟨x, by rw [Nat.div_eq_of_lt hj]; rfl, ?_⟩
      rw [Nat.mod_eq_of_lt hj]
      simp only [ces]
      rw [List.getElem?_append_left (by rw [ce_len]; exact hj)]
    · obtain ⟨e, h1, h2⟩ := ces_get r (j - 6) (by simp at h; omega)
      refine ⟨e, ?_, ?_⟩
      · rw [show j / 6 = (j - 6) / 6 + 1 by omega, List.getElem?_cons_succ]
        exact h1
      · simp only [ces]
        rw [List.getElem?_append_right (by rw [ce_len]; exact hj), ce_len, h2, show j % 6 = (j - 6) % 6 by omega]

/-- What a list of facts is that was handed in. -/
def FsIn (W : World) (A : Option Addr) (n c : Nat) (es : List FE) : Prop := FIn W A n es ∧ (A = none → c = 0 ∧ n = 0) ∧ n ≤ c ∧ c ≤ maxLen ∧ n * 64 ≤ 140737488351232 ∧ ∀ e ∈ es, KyIn e.f.k
def CsIn (W : World) (A : Option Addr) (n c : Nat) (es : List CE) : Prop := CIn W A n es ∧ (A = none → c = 0 ∧ n = 0) ∧ n ≤ c ∧ c ≤ maxLen ∧ n * 72 ≤ 140737488351232 ∧ ∀ e ∈ es, KyIn e.f.k

theorem Arg.facts_ {base : Nat} {v : Value} {d : DataW H} {p : List MemPlace} (h : Arg enc Try.prog W base 22 v d p) : ∃ A n c es, v = .slice A n c ∧ FsIn W A n c es := by
  have c5 : Try.prog.cellsOf 27 = 5 := by kernel_rfl
  have b64 : Try.prog.bytesOf 27 = 64 := by kernel_rfl
  obtain ⟨A, n, c, hcs, hA, h1, h2, h3, h4⟩ := (h.rdsS Try.underlying22).list_ Try.underlying22 (by rw [c5]; omega)
  rw [c5] at h4
  rw [b64] at h3
  injection hcs with hv _
  subst hv
  rcases Nat.eq_zero_or_pos n with h0 | h0
  · subst h0
    exact ⟨A, 0, c, [], rfl, FIn.nil _ _, hA, h1, h2, by simp, by simp⟩
  obtain ⟨g, o, rfl, hi⟩ := h4 h0
  obtain ⟨es, hl, he⟩ := listOf (R := fun i (e : FE) => (∀ (j : Nat) (u : Value), e.cells[j]? = some u → W.cell? ⟨g, o + (i * 5 + j), none⟩ = some u) ∧ EOk W e ∧ KyIn e.f.k) n fun i hin => by
    obtain ⟨us, d', _, hu, hr⟩ := hi i hin
    obtain ⟨e, rfl, ho, hk⟩ := hr.fact_
    exact ⟨e, hu, ho, hk⟩
  refine ⟨some ⟨g, o, none⟩, n, c, es, rfl, ⟨⟨by rw [fes_len, hl], fun _ => ⟨g, o, rfl, fun j u hj => ?_⟩⟩, fun e hm => ?_⟩, hA, h1, h2, h3, fun e hm => ?_⟩
  · have hjl : j < es.length * 5 := by have := (List.getElem?_eq_some_iff.1 hj).1; rwa [fes_len] at this
    obtain ⟨e, e1, e2⟩ := fes_get es j hjl
    have := (he _ _ e1).1 (j % 5) u (e2 ▸ hj)
    rwa [show j / 5 * 5 + j % 5 = j by omega] at this
  · obtain ⟨i, hi2⟩ := List.mem_iff_getElem?.1 hm
    exact (he i e hi2).2.1
  · obtain ⟨i, hi2⟩ := List.mem_iff_getElem?.1 hm
    exact (he i e hi2).2.2
theorem Arg.changes_ {base : Nat} {v : Value} {d : DataW H} {p : List MemPlace} (h : Arg enc Try.prog W base 40 v d p) : ∃ A n c es, v = .slice A n c ∧ CsIn W A n c es := by
  have c6 : Try.prog.cellsOf 78 = 6 := by kernel_rfl
  have b72 : Try.prog.bytesOf 78 = 72 := by kernel_rfl
  obtain ⟨A, n, c, hcs, hA, h1, h2, h3, h4⟩ := (h.rdsS Try.underlying40).list_ Try.underlying40 (by rw [c6]; omega)
  rw [c6] at h4
  rw [b72] at h3
  injection hcs with hv _
  subst hv
  rcases Nat.eq_zero_or_pos n with h0 | h0
  · subst h0
    exact ⟨A, 0, c, [], rfl, CIn.nil _ _, hA, h1, h2, by simp, by simp⟩
  obtain ⟨g, o, rfl, hi⟩ := h4 h0
  obtain ⟨es, hl, he⟩ := listOf (R := fun i (e : CE) => (∀ (j : Nat) (u : Value), e.cells[j]? = some u → W.cell? ⟨g, o + (i * 6 + j), none⟩ = some u) ∧ COk W e ∧ KyIn e.f.k) n fun i hin => by
    obtain ⟨us, d', _, hu, hr⟩ := hi i hin
    obtain ⟨e, rfl, ho, hk⟩ := hr.change_
    exact ⟨e, hu, ho, hk⟩
  refine ⟨some ⟨g, o, none⟩, n, c, es, rfl, ⟨⟨by rw [ces_len, hl], fun _ => ⟨g, o, rfl, fun j u hj => ?_⟩⟩, fun e hm => ?_⟩, hA, h1, h2, h3, fun e hm => ?_⟩
  · have hjl : j < es.length * 6 := by have := (List.getElem?_eq_some_iff.1 hj).1; rwa [ces_len] at this
    obtain ⟨e, e1, e2⟩ := ces_get es j hjl
    have := (he _ _ e1).1 (j % 6) u (e2 ▸ hj)
    rwa [show j / 6 * 6 + j % 6 = j by omega] at this
  · obtain ⟨i, hi2⟩ := List.mem_iff_getElem?.1 hm
    exact (he i e hi2).2.1
  · obtain ⟨i, hi2⟩ := List.mem_iff_getElem?.1 hm
    exact (he i e hi2).2.2
theorem Arg.change_ {base : Nat} {v : Value} {d : DataW H} {p : List MemPlace} (h : Arg enc Try.prog W base 78 v d p) : ∃ e : CE, v = .agg #[.int .i64 e.f.k.i, .int .u8 (e.f.k.t : Nat), .string e.f.k.n, .int .i64 e.f.k.c, .slice e.A e.f.v.length e.c, .bool e.f.g] ∧ COk W e ∧ KyIn e.f.k := by
  obtain ⟨cs, rfl, hr⟩ := h.rds Try.underlying78
  obtain ⟨e, he, ho, hk⟩ := hr.change_
  exact ⟨e, congrArg Value.agg (Array.toList_inj.1 he), ho, hk⟩
end
end Go.Proofs.Ytbiihjdjbknibaa
