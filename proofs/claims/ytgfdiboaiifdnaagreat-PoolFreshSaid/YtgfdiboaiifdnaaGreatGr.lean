/-
  A head by value; what a head's page says of it.
-/
import Derived.Test.YtgfdiboaiifdnaaGreatKn
import Derived.Test.YtgfdiboaiifdnaaGreatGe
import Derived.Test.YtgfdiboaiifdnaaGreatGq
namespace Go.Proofs.YtgfdiboaiifdnaaGreat
open Go.ChangeShapes Go.WideShapes Go.ChangeAt Go.RowKit

theorem leV_leBn (n s : Nat) (h : n < 256 ^ s) : leV (leB n s) = n := by
  have key : ∀ k, leV (leB n k) = n % 256 ^ k := by
    intro k
    induction k with
    | zero => simp [leB, leV, Nat.mod_one]
    | succ k ih =>
      have e : leB n (k + 1) = leB n k ++ [n / 256 ^ k % 256] := by
        unfold leB
        rw [List.range_succ, List.map_append]
        rfl
      rw [e, leV_append, ih, leB_length]
      simp only [leV, Nat.mul_zero, Nat.add_zero]
      rw [Nat.pow_succ, Nat.mod_mul]
  rw [key, Nat.mod_eq_of_lt h]

theorem bd_hdL (k e s : Nat) (hk : k < 256) (he : e < 4294967296) (hs : s < 18446744073709551616) : bdK (hdL k e s) = k ∧ bdE (hdL k e s) = e ∧ bdS (hdL k e s) = s := by
  have h1 : (hdL k e s).take 1 = leB k 1 := by unfold hdL; rw [List.append_assoc]; exact List.take_left' (leB_length _ _)
  have h2 : (hdL k e s).drop 1 = leB e 4 ++ leB s 8 := by unfold hdL; rw [List.append_assoc]; exact List.drop_left' (leB_length _ _)
  have h3 : (leB e 4 ++ leB s 8).take 4 = leB e 4 := List.take_left' (leB_length _ _)
  have h4 : (leB e 4 ++ leB s 8).drop 4 = leB s 8 := List.drop_left' (leB_length _ _)
  have h5 : (leB s 8).take 8 = leB s 8 := List.take_of_length_le (by rw [leB_length]; omega)
  unfold bdK bdE bdS
  rw [h1, h2, h3, h4, h5]
  exact ⟨leV_leBn _ _ (by omega), leV_leBn _ _ (by omega), leV_leBn _ _ (by omega)⟩

theorem heads_back {n : Int} {k e s : Nat} (hk : k < 256) (he : e < 4294967296) (hs : s < 18446744073709551616) (h : phE n k e s = 0) :
    ghE (phL n k e s) = 0 ∧ ghK (phL n k e s) = k ∧ ghR (phL n k e s) = e ∧ ghS (phL n k e s) = s := by
  by_cases hh : isHd k e s
  · have h1 : sPutE n 1 (hdL k e s) = 0 := by unfold phE at h; rwa [if_pos hh] at h
    obtain ⟨N, rfl, hpg, hkd, hlen, hpp⟩ := put_yes h1
    obtain ⟨g1, g2, g3⟩ := get_page N 1 (hdL k e s) hpg hkd hlen
    obtain ⟨b1, b2, b3⟩ := bd_hdL k e s hk he hs
    have e1 : phL N k e s = page N 1 (hdL k e s) := by unfold phL; rw [if_pos hh]; exact hpp
    have hE : ghE (page N 1 (hdL k e s)) = 0 := by
      unfold ghE
      rw [if_neg (by rw [g1]; decide), g2, g3, if_pos ⟨⟨rfl, hdL_length _ _ _⟩, by rw [b1, b2, b3]; exact hh⟩]
    rw [e1]
    refine ⟨hE, ?_, ?_, ?_⟩
    · unfold ghK; rw [if_pos hE, g3, b1]
    · unfold ghR; rw [if_pos hE, g3, b2]
    · unfold ghS; rw [if_pos hE, g3, b3]
  · unfold phE at h
    rw [if_neg hh] at h
    exact absurd h (by decide)

theorem phL_len (n : Int) (k e s : Nat) : (phL n k e s).length ≤ 256 := by
  unfold phL
  split
  · unfold sPutL
    split
    · rename_i h
      obtain ⟨h1, h2, h3⟩ := h
      rw [hdL_length] at h3
      have hx := page_length n.toNat 1 (hdL k e s) (by rw [hdL_length]; omega)
      unfold isPg at h1
      omega
    · simp
  · simp

section
variable {H : Type} {enc : TypeId × Value → H} {W : World}
theorem Arg.head_ {base : Nat} {v : Value} {d : DataW H} {p : List MemPlace} (h : Arg enc Tryz.prog W base 34 v d p) : ∃ x0 x1 x2 : Nat, v = .agg #[.int .u8 (x0 : Nat), .int .u32 (x1 : Nat), .int .u64 (x2 : Nat)] ∧ x0 < 256 ∧ x1 < 4294967296 ∧ x2 < 18446744073709551616 := by
  obtain ⟨cs, rfl, hsz, hc⟩ := h.fields Tryz.underlying34 (by kernel_rfl) (by kernel_rfl)
  obtain ⟨u0, d0, c0, f0⟩ := hc 0 _ rfl
  obtain ⟨u1, d1, c1, f1⟩ := hc 1 _ rfl
  obtain ⟨u2, d2, c2, f2⟩ := hc 2 _ rfl
  obtain ⟨x0, rfl, g0⟩ := f0.int_ Tryz.underlying5
  obtain ⟨x1, rfl, g1⟩ := f1.int_ Tryz.underlying31
  obtain ⟨x2, rfl, g2⟩ := f2.int_ Tryz.underlying32
  obtain ⟨y0, rfl, b0⟩ := u8_nat g0
  have g1' : 0 ≤ x1 ∧ x1 ≤ 4294967295 := by simpa [Lit.wf, IntKind.min, IntKind.max, IntKind.signed, IntKind.bits] using g1
  obtain ⟨y1, rfl, b1⟩ : ∃ n : Nat, x1 = n ∧ n < 4294967296 := ⟨x1.toNat, by omega, by omega⟩
  obtain ⟨y2, rfl, b2⟩ := u64_nat g2
  refine ⟨y0, y1, y2, ?_, b0, b1, b2⟩
  congr 1
  apply Array.ext_getElem?
  intro i
  match i with
  | 0 => exact c0
  | 1 => exact c1
  | 2 => exact c2
  | i + 3 => rw [Array.getElem?_eq_none (by rw [hsz]; simp), Array.getElem?_eq_none (by simp)]
end
end Go.Proofs.YtgfdiboaiifdnaaGreat
