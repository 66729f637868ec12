/-
  Layer 10: what follows of the numbers (no program).
-/
import Derived.Test.YtefoijnmnahfdaaDoorRmd
namespace Go.Proofs.YtefoijnmnahfdaaDoor

theorem kept_sets5 (w : World) (g : Nat) (u0 u1 u2 u3 u4 : Value) :
    Kept (· = g) w (((((w.setCell ⟨g, 0, none⟩ u0).setCell ⟨g, 1, none⟩ u1).setCell ⟨g, 2, none⟩ u2).setCell ⟨g, 3, none⟩ u3).setCell ⟨g, 3, none⟩ u4) := by
  have h0 := (Kept.refl (· = g) w).setCell (p := ⟨g, 0, none⟩) (fun _ => rfl) u0
  have h1 := h0.setCell (p := ⟨g, 1, none⟩) (fun _ => rfl) u1
  have h2 := h1.setCell (p := ⟨g, 2, none⟩) (fun _ => rfl) u2
  have h3 := h2.setCell (p := ⟨g, 3, none⟩) (fun _ => rfl) u3
  exact h3.setCell (p := ⟨g, 3, none⟩) (fun _ => rfl) u4

theorem upI_ediv {n k : Int} (hn : 0 ≤ n) (hk : 1 ≤ k) : upI n k = (n + k - 1) / k := by
  unfold upI
  exact Int.tdiv_eq_ediv_of_nonneg (by omega)

theorem upI_mono {n m k : Int} (hn : 0 ≤ n) (hm : n ≤ m) (hk : 1 ≤ k) : upI n k ≤ upI m k := by
  rw [upI_ediv hn hk, upI_ediv (by omega) hk]
  exact Int.ediv_le_ediv (by omega) (by omega)

theorem upI_pos {n k : Int} (hn : 1 ≤ n) (hk : 1 ≤ k) : 1 ≤ upI n k := by
  rw [upI_ediv (by omega) hk]
  exact (Int.le_ediv_iff_mul_le (by omega)).2 (by omega)

theorem upI_mul {n k : Int} (hn : 0 ≤ n) (hk : 1 ≤ k) : n ≤ upI n k * k := by
  rw [upI_ediv hn hk]
  have h1 := Int.emod_add_mul_ediv (n + k - 1) k
  have h2 := Int.emod_lt_of_pos (n + k - 1) (by omega : 0 < k)
  rw [Int.mul_comm]
  generalize k * ((n + k - 1) / k) = z at *
  omega

theorem want_of {a b c d f : Int} (hx : wiB a b c d = true) (hf : 0 ≤ f) : wantI a b c d f = upI (8 * min f 1048576 + 8) (b - 1) + 4 + d := by
  rw [wantI, hx, decide_eq_true hf]; rfl
theorem cap_of {a b c d : Int} (hx : wiB a b c d = true) : capI a b c d = max 0 (((a - d - 4 - d) * (b - 1) - 8).tdiv 8) := by rw [capI, hx]; rfl

theorem want_mono {a b c d f g : Int} (hx : wiB a b c d = true) (hf : 0 ≤ f) (hg : f ≤ g) : wantI a b c d f ≤ wantI a b c d g := by
  obtain ⟨h1, h2, h3, h4⟩ := wiB_yes hx
  rw [want_of hx hf, want_of hx (by omega)]
  have := upI_mono (n := 8 * min f 1048576 + 8) (m := 8 * min g 1048576 + 8) (k := b - 1) (by omega) (by omega) (by omega)
  omega

theorem want_pos {a b c d f : Int} (hx : wiB a b c d = true) (hf : 0 ≤ f) : 5 + d ≤ wantI a b c d f := by
  obtain ⟨h1, h2, h3, h4⟩ := wiB_yes hx
  rw [want_of hx hf]
  have := upI_pos (n := 8 * min f 1048576 + 8) (k := b - 1) (by omega) (by omega)
  omega

theorem cap_mono {a b c d a' d' : Int} (hx : wiB a b c d = true) (hy : wiB a' b c d' = true) (h : a - d - d ≤ a' - d' - d') : capI a b c d ≤ capI a' b c d' := by
  obtain ⟨h1, h2, h3, h4⟩ := wiB_yes hx
  rw [cap_of hx, cap_of hy, tdiv8, tdiv8]
  have := Int.mul_le_mul_of_nonneg_right (show a - d - 4 - d ≤ a' - d' - 4 - d' by omega) (show 0 ≤ b - 1 by omega)
  generalize (a - d - 4 - d) * (b - 1) = P at *
  generalize (a' - d' - 4 - d') * (b - 1) = Q at *
  omega

theorem cap_more {a b c d : Int} (hx : wiB a b c d = true) (h : a < 64) : capI a b c d ≤ capI (a + 1) b c d := by
  obtain ⟨h1, h2, h3, h4⟩ := wiB_yes hx
  exact cap_mono hx (wiB_of ⟨by omega, by omega, by omega, by omega⟩) (by omega)
theorem cap_less {a b c d : Int} (hx : wiB a b c d = true) (h : d ≠ 0) : capI a b c d ≤ capI a b c (d - 1) := by
  obtain ⟨h1, h2, h3, h4⟩ := wiB_yes hx
  exact cap_mono hx (wiB_of ⟨by omega, by omega, by omega, by omega⟩) (by omega)

theorem turn_yes {a b c d f : Int} (h : turnB a b c d f = true) : wiB a b c d = true ∧ 0 ≤ f ∧ 2 * wantI a b c d f + 2 ≤ a - d := by
  simp [turnB] at h
  exact ⟨h.1, h.2.1, h.2.2⟩
theorem turn_less {a b c d f g : Int} (h : turnB a b c d f = true) (h0 : 0 ≤ g) (hg : g ≤ f) : turnB a b c d g = true := by
  obtain ⟨h1, h2, h3⟩ := turn_yes h
  have := want_mono h1 h0 hg
  rw [turnB, h1, decide_eq_true h0, decide_eq_true (by omega)]
  rfl

theorem turn_cap {a b c d f : Int} (h : turnB a b c d f = true) : f ≤ capI a b c d := by
  obtain ⟨hx, hf, h3⟩ := turn_yes h
  obtain ⟨h1, h2, h4, h5⟩ := wiB_yes hx
  rw [want_of hx hf] at h3
  rw [cap_of hx, tdiv8]
  have hm := upI_mul (n := 8 * min f 1048576 + 8) (k := b - 1) (by omega) (by omega)
  have hu := (upI_le (n := 8 * min f 1048576 + 8) (k := b - 1) (by omega) (by omega)).1
  generalize upI (8 * min f 1048576 + 8) (b - 1) = u at *
  have e1 := Int.mul_le_mul_of_nonneg_right (show u ≤ a - d - 4 - d by omega) (show 0 ≤ b - 1 by omega)
  have e2 := prod_bd (x := u) (y := b - 1) (by omega) (by omega) (by omega) (by omega)
  generalize u * (b - 1) = U at *
  generalize (a - d - 4 - d) * (b - 1) = P at *
  omega

theorem may_yes {a b c d : Int} (h : mayB a b c d = true) : wiB a b c d = true := by
  simp [mayB] at h
  exact h.1

end Go.Proofs.YtefoijnmnahfdaaDoor
