/-
  Bytes of which bits are set by a mask that is repeated: the words, and what follows of them.
-/
import Derived.Test.YtpcfffbkoddkpaaSj
namespace Go.Proofs.Ytpcfffbkoddkpaa
open Go.ChangeShapes Go.WideShapes Go.ChangeAt Go.RowKit

/-- p from place i on, with the bits of the repeated mask set. -/
def orFrom (m : List Nat) : Nat → List Nat → List Nat
  | _, [] => []
  | i, x :: p => (x ||| m.getD (i % m.length) 0) :: orFrom m (i + 1) p
def orAll (m p : List Nat) : List Nat := orFrom m 0 p
theorem orFrom_length (m : List Nat) : ∀ (p : List Nat) (i : Nat), (orFrom m i p).length = p.length
  | [], _ => rfl
  | x :: p, i => by simp [orFrom, orFrom_length m p (i + 1)]
theorem orFrom_get (m : List Nat) : ∀ (p : List Nat) (i k x : Nat), p[k]? = some x → (orFrom m i p)[k]? = some (x ||| m.getD ((i + k) % m.length) 0)
  | [], _, _, _, h => by simp at h
  | y :: p, i, 0, x, h => by simp at h; subst h; simp [orFrom]
  | y :: p, i, k + 1, x, h => by
    have := orFrom_get m p (i + 1) k x (by simpa using h)
    simp only [orFrom, List.getElem?_cons_succ, this]
    rw [show i + 1 + k = i + (k + 1) from by omega]
theorem orAll_length (m p : List Nat) : (orAll m p).length = p.length := orFrom_length m p 0
theorem orAll_get (m p : List Nat) (k x : Nat) (h : p[k]? = some x) : (orAll m p)[k]? = some (x ||| m.getD (k % m.length) 0) := by
  have := orFrom_get m p 0 k x h
  rwa [Nat.zero_add] at this
theorem getD_byte {m : List Nat} (hm : IsBytes m) (i : Nat) : m.getD i 0 < 256 := by
  rw [List.getD_eq_getElem?_getD]
  rcases h : m[i]? with _ | x
  · simp
  · exact hm x (List.mem_of_getElem? h)
theorem or_byte (x y : Nat) (hx : x < 256) (hy : y < 256) : x ||| y < 256 := Nat.or_lt_two_pow (n := 8) hx hy
theorem orFrom_bytes (m : List Nat) (hm : IsBytes m) : ∀ (p : List Nat) (i : Nat), IsBytes p → IsBytes (orFrom m i p)
  | [], _, _ => by simp [orFrom, IsBytes]
  | x :: p, i, h => by
    intro y hy
    simp only [orFrom, List.mem_cons] at hy
    rcases hy with rfl | hy
    · exact or_byte _ _ h.cons.1 (getD_byte hm _)
    · exact orFrom_bytes m hm p (i + 1) h.cons.2 y hy
theorem orFrom_under (m : List Nat) (hm : IsBytes m) : ∀ (p : List Nat) (i : Nat), IsBytes p → unders (orFrom m i p) p = true
  | [], _, _ => rfl
  | x :: p, i, h => by
    simp only [orFrom, unders, Bool.and_eq_true]
    refine ⟨(under_or _ _ (or_byte _ _ h.cons.1 (getD_byte hm _)) h.cons.1).2 ?_, orFrom_under m hm p (i + 1) h.cons.2⟩
    rw [Nat.or_assoc, Nat.or_comm (m.getD (i % m.length) 0) x, ← Nat.or_assoc, Nat.or_self]
theorem orAll_bytes (m p : List Nat) (hm : IsBytes m) (hp : IsBytes p) : IsBytes (orAll m p) := orFrom_bytes m hm p 0 hp
theorem orAll_under (m p : List Nat) (hm : IsBytes m) (hp : IsBytes p) : unders (orAll m p) p = true := orFrom_under m hm p 0 hp

/-- The first k bytes have the mask's bits. -/
def orUpto (m p : List Nat) (k : Nat) : List Nat := (orAll m p).take k ++ p.drop k
theorem orUpto_zero (m p : List Nat) : orUpto m p 0 = p := by simp [orUpto]
theorem orUpto_all (m p : List Nat) (n : Nat) (h : p.length = n) : orUpto m p n = orAll m p := by
  unfold orUpto
  rw [List.take_of_length_le (by rw [orAll_length]; omega), List.drop_of_length_le (by omega), List.append_nil]
theorem orUpto_get (m p : List Nat) (k x : Nat) (h : p[k]? = some x) : (orUpto m p k)[k]? = some x := by
  have hk : k < p.length := (List.getElem?_eq_some_iff.1 h).1
  unfold orUpto
  rw [List.getElem?_append_right (by rw [List.length_take, orAll_length]; omega), List.length_take, orAll_length, Nat.min_eq_left (by omega), Nat.sub_self, List.getElem?_drop, Nat.add_zero, h]
theorem orUpto_length (m p : List Nat) (k : Nat) (h : k ≤ p.length) : (orUpto m p k).length = p.length := by
  unfold orUpto
  rw [List.length_append, List.length_take, orAll_length, List.length_drop]
  omega
theorem orUpto_step (m p : List Nat) (k x : Nat) (h : p[k]? = some x) : (orUpto m p k).set k (x ||| m.getD (k % m.length) 0) = orUpto m p (k + 1) := by
  have hk : k < p.length := (List.getElem?_eq_some_iff.1 h).1
  have hx : p[k] = x := (List.getElem?_eq_some_iff.1 h).2
  have hg := orAll_get m p k x h
  have hk2 : k < (orAll m p).length := by rw [orAll_length]; exact hk
  have hg2 : (orAll m p)[k] = x ||| m.getD (k % m.length) 0 := (List.getElem?_eq_some_iff.1 hg).2
  unfold orUpto
  rw [List.set_append_right _ _ (by rw [List.length_take, orAll_length]; omega), List.length_take, orAll_length, Nat.min_eq_left (by omega), Nat.sub_self, List.drop_eq_getElem_cons hk, List.set_cons_zero, List.take_succ_eq_append_getElem hk2, hg2]
  simp

theorem copy_k {w0 wc : World} (A : Option Addr) (n c : Nat) (l : List Nat) (K : Hid (New w0 wc)) (ha : Hid (Bts wc A n l)) (hn : n ≤ 140737488351232) (h0 : 0 < n) :
    Calls Try.prog 25 #[.slice A n c] wc fun e w' => ∃ g c' sp, e = .returned (.slice (some ⟨g, 0, none⟩) n c') ∧ Hid (Blk w' g 5 (l.map byt ++ sp)) ∧ Hid (wc.heap.size ≤ g) ∧ Hid (New wc w') ∧ Hid (New w0 w') ∧ n ≤ c' ∧ c' ≤ maxLen := by
  refine (copy_any A n c l wc ha.out hn).mono ?_
  rintro e w' ⟨A', c', rfl, ho, hk⟩
  have hle := ho.le
  obtain ⟨hb, ⟨rfl, rfl, rfl⟩ | ⟨g, sp, rfl, hB, hblk, _, _, _⟩⟩ := ho
  · have := ha.out.1; simp at this; omega
  · rw [ha.out.1] at hle
    refine ⟨g, c', sp.map byt, by rw [ha.out.1], by rw [Hid, ← List.map_append]; exact hblk, hB, hk, K.out.new hk, hle.1, hle.2⟩
end Go.Proofs.Ytpcfffbkoddkpaa
