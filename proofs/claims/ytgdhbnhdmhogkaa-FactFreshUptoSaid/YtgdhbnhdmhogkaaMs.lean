/-
  Mathematics of merging in place (no program).
-/
import Derived.Test.YtgdhbnhdmhogkaaMr
import Derived.Test.YtgdhbnhdmhogkaaMj
namespace Go.Proofs.Ytgdhbnhdmhogkaa
open Go.RowKit

/-- M is O, sorted, those of one key as they stood. -/
def SrtOf (O M : List CE) : Prop := M.length = O.length ∧ ordC (cts M) ∧ ∀ k, M.filter (fun d => decide (d.f.k = k)) = O.filter (fun d => decide (d.f.k = k))
theorem SrtOf.self {O : List CE} (h : ordC (cts O)) : SrtOf O O := ⟨rfl, h, fun _ => rfl⟩
theorem SrtOf.mem {O M : List CE} (h : SrtOf O M) {x : CE} (hx : x ∈ M) : x ∈ O := mem_of_filters h.2.2 hx
theorem SrtOf.trans {O M N : List CE} (h : SrtOf O M) (k : SrtOf M N) : SrtOf O N := ⟨k.1.trans h.1, k.2.1, fun q => (k.2.2 q).trans (h.2.2 q)⟩
/-- Of what is sorted in parts. -/
theorem SrtOf.parts {O1 O2 M1 M2 N : List CE} (h1 : SrtOf O1 M1) (h2 : SrtOf O2 M2) (k : SrtOf (M1 ++ M2) N) : SrtOf (O1 ++ O2) N :=
  ⟨by rw [k.1, List.length_append, List.length_append, h1.1, h2.1], k.2.1, fun q => by rw [k.2.2 q, List.filter_append, List.filter_append, h1.2.2 q, h2.2.2 q]⟩

theorem filt_none {l : List CE} {k : KY} (h : ∀ x ∈ l, ¬ x.f.k = k) : l.filter (fun d => decide (d.f.k = k)) = [] := List.filter_eq_nil_iff.2 fun x hx hc => h x hx (of_decide_eq_true hc)

/-- The step of the merging: U1 and V1 ahead, U2 and V2 behind. -/
theorem sym_math {U1 U2 V1 V2 M1 M2 : List CE} (h1 : SrtOf (U1 ++ V1) M1) (h2 : SrtOf (U2 ++ V2) M2) (hU : ordC (cts (U1 ++ U2))) (hV : ordC (cts (V1 ++ V2)))
    (hA : ∀ u ∈ U1, ∀ v ∈ V2, befK v.f.k u.f.k = false) (hB : ∀ v ∈ V1, ∀ u ∈ U2, befK v.f.k u.f.k = true) : SrtOf ((U1 ++ U2) ++ (V1 ++ V2)) (M1 ++ M2) := by
  rw [cts_append, ordC_append] at hU hV
  have hm : ∀ {l : List CE} {x : CE}, x ∈ l → x.f ∈ cts l := fun hx => List.mem_map.2 ⟨_, hx, rfl⟩
  refine ⟨?_, ?_, fun k => ?_⟩
  · simp only [List.length_append, h1.1, h2.1]
    omega
  · rw [cts_append, ordC_append]
    refine ⟨h1.2.1, h2.2.1, fun x hx y hy => ?_⟩
    obtain ⟨x', hx', rfl⟩ := mem_cts hx
    obtain ⟨y', hy', rfl⟩ := mem_cts hy
    rcases List.mem_append.1 (h1.mem hx') with hx1 | hx1 <;> rcases List.mem_append.1 (h2.mem hy') with hy1 | hy1
    · exact hU.2.2 _ (hm hx1) _ (hm hy1)
    · exact hA x' hx1 y' hy1
    · exact befK_anti (hB x' hx1 y' hy1)
    · exact hV.2.2 _ (hm hx1) _ (hm hy1)
  · rw [List.filter_append, h1.2.2 k, h2.2.2 k]
    simp only [List.filter_append, List.append_assoc]
    congr 1
    rw [← List.append_assoc, ← List.append_assoc]
    congr 1
    by_cases hv : ∃ v ∈ V1, v.f.k = k
    · obtain ⟨v, hv1, hv2⟩ := hv
      rw [filt_none (l := U2) fun u hu e => ne_of_bef (hB v hv1 u hu) (hv2.trans e.symm)]
      simp
    · rw [filt_none (l := V1) fun v hv1 e => hv ⟨v, hv1, e⟩]
      simp
/-- One element put into what is behind it. -/
theorem left_math {u : CE} {V1 V2 : List CE} (hV : ordC (cts (V1 ++ V2))) (h1 : ∀ v ∈ V1, befK v.f.k u.f.k = true) (h2 : ∀ v ∈ V2, befK v.f.k u.f.k = false) : SrtOf ([u] ++ (V1 ++ V2)) (V1 ++ u :: V2) := by
  refine ⟨by simp only [List.length_append, List.length_cons, List.length_nil]; omega, ?_, fun k => ?_⟩
  · rw [cts_append, ordC_append] at hV ⊢
    obtain ⟨a1, a2, a3⟩ := hV
    refine ⟨a1, ⟨fun d hd => ?_, a2⟩, fun x hx y hy => ?_⟩
    · obtain ⟨e, he, rfl⟩ := mem_cts hd
      exact h2 e he
    · obtain ⟨v, hv, rfl⟩ := mem_cts hx
      rcases List.mem_cons.1 hy with rfl | hy
      · exact befK_anti (h1 v hv)
      · exact a3 _ hx y hy
  · rw [show V1 ++ u :: V2 = V1 ++ ([u] ++ V2) from rfl]
    simp only [List.filter_append]
    rw [← List.append_assoc, ← List.append_assoc]
    congr 1
    by_cases e : u.f.k = k
    · rw [filt_none (l := V1) fun v hv e2 => ne_of_bef (h1 v hv) (e2.trans e.symm)]
      simp
    · rw [filt_none (l := [u]) fun v hv e2 => by
        simp only [List.mem_cons, List.not_mem_nil, or_false] at hv
        exact e (hv ▸ e2)]
      simp
/-- One element put into what is ahead of it. -/
theorem right_math {v : CE} {U1 U2 : List CE} (hU : ordC (cts (U1 ++ U2))) (h1 : ∀ u ∈ U1, befK v.f.k u.f.k = false) (h2 : ∀ u ∈ U2, befK v.f.k u.f.k = true) : SrtOf ((U1 ++ U2) ++ [v]) (U1 ++ v :: U2) := by
  refine ⟨by simp only [List.length_append, List.length_cons, List.length_nil]; omega, ordC_ins hU h2 h1, fun k => ?_⟩
  rw [filt_ins h2, List.filter_append (U1 ++ U2)]
/-- What stands ahead of one that is not behind is not behind, and the like: of a row that is sorted. -/
theorem le_all {Q : List CE} {y : CE} {k : KY} (h : ordC (cts (Q ++ [y]))) (hy : befK k y.f.k = false) : ∀ q ∈ Q ++ [y], befK k q.f.k = false := last_all (x := ⟨⟨k, [], false⟩, none, 0⟩) h hy
theorem bef_le2 {a b c : KY} (h1 : befK a b = true) (h2 : befK c b = false) : befK a c = true := by
  rcases befK_tri b c with t | t | t
  · exact befK_trans h1 t
  · rw [← t]; exact h1
  · rw [h2] at t; cases t
theorem lt_all {R : List CE} {y : CE} {k : KY} (h : ordC (cts (y :: R))) (hy : befK k y.f.k = true) : ∀ r ∈ y :: R, befK k r.f.k = true := fun r hr => by
  rcases List.mem_cons.1 hr with rfl | hr
  · exact hy
  · exact bef_le2 hy (h.1 _ (List.mem_map.2 ⟨r, hr, rfl⟩))
end Go.Proofs.Ytgdhbnhdmhogkaa
