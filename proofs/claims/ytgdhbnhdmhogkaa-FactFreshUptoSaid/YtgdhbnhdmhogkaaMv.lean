/-
  Mathematics of merging in place: where the two parts are cut (no program).
-/
import Derived.Test.YtgdhbnhdmhogkaaMu
namespace Go.Proofs.Ytgdhbnhdmhogkaa
open Go.RowKit

/-- The last ahead of the cut is not behind the first behind it: so is each. -/
theorem cut_le {U1 V2 : List CE} (hU : ordC (cts U1)) (hV : ordC (cts V2)) (h : ∀ x y, U1.getLast? = some x → V2.head? = some y → befK y.f.k x.f.k = false) : ∀ u ∈ U1, ∀ v ∈ V2, befK v.f.k u.f.k = false := by
  intro u hu v hv
  rcases List.eq_nil_or_concat U1 with h0 | ⟨Q, x, h0⟩
  · rw [h0] at hu; cases hu
  · rw [List.concat_eq_append] at h0
    subst h0
    cases V2 with
    | nil => cases hv
    | cons y R =>
      have hxy := h x y (by simp) rfl
      have h1 : befK y.f.k u.f.k = false := last_all (x := y) hU hxy u hu
      rcases List.mem_cons.1 hv with rfl | hv
      · exact h1
      · exact befK_le_trans h1 (hV.1 _ (List.mem_map.2 ⟨v, hv, rfl⟩))
/-- The last ahead of the cut is ahead of the first behind it: so is each. -/
theorem cut_lt {V1 U2 : List CE} (hV : ordC (cts V1)) (hU : ordC (cts U2)) (h : ∀ y x, V1.getLast? = some y → U2.head? = some x → befK y.f.k x.f.k = true) : ∀ v ∈ V1, ∀ u ∈ U2, befK v.f.k u.f.k = true := by
  intro v hv u hu
  rcases List.eq_nil_or_concat V1 with h0 | ⟨Q, y, h0⟩
  · rw [h0] at hv; cases hv
  · rw [List.concat_eq_append] at h0
    subst h0
    cases U2 with
    | nil => cases hu
    | cons x R =>
      have hyx := h y x (by simp) rfl
      have h1 : befK y.f.k u.f.k = true := lt_all hU hyx u hu
      rcases List.mem_append.1 hv with hv | hv
      · rw [cts_append, ordC_append] at hV
        exact lt_of_le h1 (hV.2.2 v.f (List.mem_map.2 ⟨v, hv, rfl⟩) y.f (List.mem_cons_self ..))
      · simp only [List.mem_cons, List.not_mem_nil, or_false] at hv
        rw [hv]
        exact h1
end Go.Proofs.Ytgdhbnhdmhogkaa
