/-
  Contract: a body read, of the reference.
-/
import Derived.Test.YtbiihjdjbknibaaJh
namespace Go.Proofs.Ytbiihjdjbknibaa
set_option maxRecDepth 100000
open Go.RowKit

section
variable {l : List Nat}
theorem gn_ok (h1 : takeE l 1 = 0) (h2 : ¬ 1 < takeV l 1) : gnE l = 0 := by unfold gnE; rw [if_neg (by rw [h1]; simp), if_neg h2]

theorem chE_te (h : takeE l 1 ≠ 0) : chE l = takeE l 1 := by
  have : gnE l = takeE l 1 := by unfold gnE; rw [if_pos h]
  unfold chE; rw [this, if_pos h]

theorem chE_big (h1 : takeE l 1 = 0) (h2 : 1 < takeV l 1) : chE l = 5 := by
  have : gnE l = 5 := by unfold gnE; rw [if_neg (by rw [h1]; simp), if_pos h2]
  unfold chE; rw [this, if_pos (by decide)]

theorem chE_key (h1 : takeE l 1 = 0) (h2 : ¬ 1 < takeV l 1) (h3 : gkE (takeL l 1) ≠ 0) : chE l = gkE (takeL l 1) := by
  unfold chE; rw [gn_ok h1 h2, if_neg (by simp), if_pos h3]

theorem chE_gone (h1 : takeE l 1 = 0) (h2 : takeV l 1 = 0) (h3 : gkE (takeL l 1) = 0) : chE l = 0 := by
  unfold chE; rw [gn_ok h1 (by omega), if_neg (by simp), h3, if_neg (by simp), if_pos h2]

theorem chE_val (h1 : takeE l 1 = 0) (h2 : ¬ 1 < takeV l 1) (h0 : takeV l 1 ≠ 0) (h3 : gkE (takeL l 1) = 0) : chE l = vlE (tkR (takeL l 1)) := by
  unfold chE; rw [gn_ok h1 h2, if_neg (by simp), h3, if_neg (by simp), if_neg h0]

theorem vlE_row (h : rwE l ≠ 0) : vlE l = rwE l := by unfold vlE; rw [if_pos h]

theorem vlE_no (h : rwE l = 0) (h2 : (rwL l).length = 0) : vlE l = 5 := by unfold vlE; rw [h, if_neg (by simp), if_pos h2]

theorem vlE_ok (h : rwE l = 0) (h2 : (rwL l).length ≠ 0) : vlE l = 0 := by unfold vlE; rw [h, if_neg (by simp), if_neg h2]

theorem ge_te (h : takeE l 1 ≠ 0) : geE l = takeE l 1 := by
  have : csE l = takeE l 1 := by unfold csE; rw [if_pos h]
  unfold geE; rw [this, if_pos h]

theorem ge_zero (h : takeE l 1 = 0) (h2 : takeV l 1 = 0) : geE l = 5 := by
  have : csE l = 5 := by unfold csE; rw [h, if_neg (by simp), if_pos h2]
  unfold geE; rw [this, if_pos (by decide)]

theorem ge_err {k : Nat} {z : Int} (h : takeE l 1 = 0) (h2 : takeV l 1 ≠ 0) (hj : ∀ j, j < k → chE (stR j (takeL l 1)) = 0) (hk : k < takeV l 1) (hz : chE (stR k (takeL l 1)) = z) (h0 : z ≠ 0) : geE l = z := by
  have : csE l = z := by unfold csE; rw [h, if_neg (by simp), if_neg h2, fs_no hj hk (by rw [hz]; exact h0), hz]
  unfold geE; rw [this, if_pos h0]

theorem ge_end (h : takeE l 1 = 0) (h2 : takeV l 1 ≠ 0) (hj : ∀ j, j < takeV l 1 → chE (stR j (takeL l 1)) = 0) : geE l = if 0 < (stR (takeV l 1) (takeL l 1)).length then 5 else 0 := by
  have : csE l = 0 := by unfold csE; rw [h, if_neg (by simp), if_neg h2, fs_yes hj]
  unfold geE; rw [this, if_neg (by simp)]
end

theorem geC_len {l : List Nat} (h : ∀ x ∈ l, x < 256) : (geC l).length ≤ 255 := by
  have hV : takeV l 1 < 256 := takeV_lt (s := 1) h sz1
  unfold geC
  split
  · rw [stC_len]; omega
  · simp
end Go.Proofs.Ytbiihjdjbknibaa
