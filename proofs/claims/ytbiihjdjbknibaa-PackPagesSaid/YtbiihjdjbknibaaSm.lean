/-
  Pages as lists of bytes: the number of their noughts, blank ones, lesser ones, the page of a body, what bytes say; and what follows of these words alone (no program).
-/
import Derived.Test.YtbiihjdjbknibaaEh
namespace Go.Proofs.Ytbiihjdjbknibaa
set_option maxRecDepth 100000

/-- How many of the k lowest bits of x are 0. -/
def nzk (x : Nat) : Nat → Nat
  | 0 => 0
  | k + 1 => nzk x k + (1 - x / 2 ^ k % 2)
def nz (x : Nat) : Nat := nzk x 8
def noughts : List Nat → Nat
  | [] => 0
  | x :: r => nz x + noughts r
def blank (l : List Nat) : Bool := l.all (· == 255)

theorem nzk_le (x k : Nat) : nzk x k ≤ k := by
  induction k with
  | zero => simp [nzk]
  | succ k ih => simp only [nzk]; omega
theorem nz_le (x : Nat) : nz x ≤ 8 := nzk_le x 8
theorem noughts_append (a b : List Nat) : noughts (a ++ b) = noughts a + noughts b := by
  induction a with
  | nil => simp [noughts]
  | cons x r ih => simp [noughts, ih, Nat.add_assoc]
theorem noughts_le (l : List Nat) : noughts l ≤ 8 * l.length := by
  induction l with
  | nil => simp [noughts]
  | cons x r ih => have := nz_le x; simp only [noughts, List.length_cons]; omega
theorem noughts_take (l : List Nat) (k x : Nat) (hx : l[k]? = some x) : noughts (l.take (k + 1)) = noughts (l.take k) + nz x := by
  have hk : k < l.length := (List.getElem?_eq_some_iff.1 hx).1
  have e : l[k] = x := (List.getElem?_eq_some_iff.1 hx).2
  rw [List.take_succ_eq_append_getElem hk, noughts_append, e]
  simp [noughts]

theorem nz_zero_all : ∀ x : Fin 256, (nz x.val = 0) = (x.val = 255) := by decide +kernel
theorem nz_zero (x : Nat) (hx : x < 256) : nz x = 0 ↔ x = 255 := by have := nz_zero_all ⟨x, hx⟩; simpa using this
theorem blank_iff (l : List Nat) (hl : ∀ x ∈ l, x < 256) : blank l = true ↔ noughts l = 0 := by
  induction l with
  | nil => simp [blank, noughts]
  | cons x r ih =>
    have h1 := nz_zero x (hl x (by simp))
    have h2 := ih fun y hy => hl y (by simp [hy])
    simp only [blank, noughts, List.all_cons, Bool.and_eq_true, beq_iff_eq] at *
    rw [h2, ← h1]
    omega
theorem blank_eq (l : List Nat) (hl : ∀ x ∈ l, x < 256) : blank l = decide (noughts l = 0) := by
  rw [Bool.eq_iff_iff, blank_iff l hl, decide_eq_true_iff]
theorem blank_take (l : List Nat) (k : Nat) (hx : l[k]? = some 255) (h : blank (l.take k) = true) : blank (l.take (k + 1)) = true := by
  have hk : k < l.length := (List.getElem?_eq_some_iff.1 hx).1
  have e : l[k] = 255 := (List.getElem?_eq_some_iff.1 hx).2
  rw [List.take_succ_eq_append_getElem hk, e]
  simp only [blank, List.all_append, List.all_cons, List.all_nil] at *
  simp [h]
theorem blank_no (l : List Nat) (k x : Nat) (hx : l[k]? = some x) (h : x ≠ 255) : blank l = false := by
  rw [blank, Bool.eq_false_iff]
  intro hb
  have := List.all_eq_true.1 hb x (List.mem_of_getElem? hx)
  simp at this
  exact h this

/-- A bit of x is 1 that is 0 in y: what is y and not x is not 0. -/
def under (x y : Nat) : Bool := y &&& (255 - x) == 0
theorem bit_test (x j : Nat) : (x / 2 ^ j % 2 = 1) ↔ x.testBit j = true := by
  rw [Nat.testBit_eq_decide_div_mod_eq, decide_eq_true_iff]
theorem bit_two (x j : Nat) : x / 2 ^ j % 2 = 0 ∨ x / 2 ^ j % 2 = 1 := by omega
theorem bit_zero (x j : Nat) : (x / 2 ^ j % 2 = 0) ↔ x.testBit j = false := by
  have h := bit_test x j
  rcases bit_two x j with h0 | h1
  · simp only [h0, true_iff]
    rw [Bool.eq_false_iff]
    intro ht
    have := h.2 ht
    omega
  · rw [h.1 h1]
    simp [h1]
theorem eq_of_bits (x y : Nat) (hx : x < 256) (hy : y < 256) (h : ∀ j, j < 8 → x.testBit j = y.testBit j) : x = y := by
  apply Nat.eq_of_testBit_eq
  intro i
  rcases Nat.lt_or_ge i 8 with hi | hi
  · exact h i hi
  · have hp : 256 ≤ 2 ^ i := Nat.pow_le_pow_right (n := 2) (by omega) hi
    rw [Nat.testBit_lt_two_pow (by omega), Nat.testBit_lt_two_pow (by omega)]
theorem under_iff (x y : Nat) (hx : x < 256) : under x y = true ↔ ∀ j, j < 8 → ¬ (y.testBit j = true ∧ x.testBit j = false) := by
  have e : 255 - x = 2 ^ 8 - (x + 1) := by omega
  unfold under
  rw [beq_iff_eq, e]
  constructor
  · intro h j hj ⟨h1, h2⟩
    have := congrArg (fun z => z.testBit j) h
    simp only [Nat.testBit_and, Nat.testBit_two_pow_sub_succ (show x < 2 ^ 8 from hx), Nat.zero_testBit, h1, h2] at this
    simp [hj] at this
  · intro h
    apply Nat.eq_of_testBit_eq
    intro j
    rw [Nat.testBit_and, Nat.testBit_two_pow_sub_succ (show x < 2 ^ 8 from hx), Nat.zero_testBit]
    rcases Nat.lt_or_ge j 8 with hj | hj
    · have := h j hj
      cases hb : y.testBit j <;> cases hc : x.testBit j <;> simp_all
    · simp [Nat.not_lt.2 hj]
theorem under_or (x y : Nat) (hx : x < 256) (hy : y < 256) : under x y = true ↔ x ||| y = x := by
  rw [under_iff x y hx]
  constructor
  · intro h
    apply eq_of_bits _ _ (Nat.or_lt_two_pow (n := 8) hx hy) hx
    intro j hj
    rw [Nat.testBit_or]
    have := h j hj
    cases hb : y.testBit j <;> cases hc : x.testBit j <;> simp_all
  · intro h j hj ⟨h1, h2⟩
    have := congrArg (fun z => z.testBit j) h
    simp only [Nat.testBit_or, h1, h2] at this
    cases this
theorem under_bit (x y j : Nat) (hx : x < 256) (_hy : y < 256) (hj : j < 8) (h1 : y / 2 ^ j % 2 = 1) (h2 : x / 2 ^ j % 2 = 0) : under x y = false := by
  rw [Bool.eq_false_iff]
  intro h
  exact (under_iff x y hx).1 h j hj ⟨(bit_test y j).1 h1, (bit_zero x j).1 h2⟩
theorem under_yes (x y : Nat) (hx : x < 256) (_hy : y < 256) (h : ∀ j, j < 8 → ¬ (y / 2 ^ j % 2 = 1 ∧ x / 2 ^ j % 2 = 0)) : under x y = true :=
  (under_iff x y hx).2 fun j hj ⟨h1, h2⟩ => h j hj ⟨(bit_test y j).2 h1, (bit_zero x j).2 h2⟩
theorem nzk_or (x y : Nat) : ∀ k, nzk (x ||| y) k ≤ nzk x k ∧ (nzk (x ||| y) k = nzk x k → ∀ j, j < k → (x ||| y).testBit j = x.testBit j)
  | 0 => ⟨Nat.le_refl _, fun _ j hj => absurd hj (by omega)⟩
  | k + 1 => by
    obtain ⟨h1, h2⟩ := nzk_or x y k
    have hb : x / 2 ^ k % 2 = 1 → (x ||| y) / 2 ^ k % 2 = 1 := fun h => by
      rw [bit_test] at h ⊢
      rw [Nat.testBit_or, h]
      rfl
    have t1 := bit_two x k
    have t2 := bit_two (x ||| y) k
    simp only [nzk]
    refine ⟨by omega, fun he j hj => ?_⟩
    rcases Nat.lt_or_ge j k with h | h
    · exact h2 (by omega) j h
    · obtain rfl : j = k := by omega
      rcases t1 with t | t
      · have : (x ||| y) / 2 ^ j % 2 = 0 := by omega
        rw [(bit_zero _ _).1 this, (bit_zero _ _).1 t]
      · rw [(bit_test _ _).1 t, (bit_test _ _).1 (hb t)]
theorem nz_or (x y : Nat) (hx : x < 256) (hy : y < 256) : nz (x ||| y) ≤ nz x ∧ (nz (x ||| y) = nz x → x ||| y = x) := by
  obtain ⟨h1, h2⟩ := nzk_or x y 8
  exact ⟨h1, fun h => eq_of_bits _ _ (Nat.or_lt_two_pow (n := 8) hx hy) hx (h2 h)⟩

/-- Everywhere under: bit by bit. -/
def unders : List Nat → List Nat → Bool
  | [], [] => true
  | x :: a, y :: b => under x y && unders a b
  | _, _ => false
def less (a b : List Nat) : Bool := unders a b && !(decide (a = b))

theorem unders_length : ∀ (a b : List Nat), unders a b = true → a.length = b.length
  | [], [], _ => rfl
  | x :: a, y :: b, h => by simp only [unders, Bool.and_eq_true] at h; simp [unders_length a b h.2]
  | [], _ :: _, h => by simp [unders] at h
  | _ :: _, [], h => by simp [unders] at h
theorem unders_iff : ∀ (a b : List Nat), a.length = b.length → (unders a b = true ↔ ∀ (k x y : Nat), a[k]? = some x → b[k]? = some y → under x y = true)
  | [], [], _ => by simp [unders]
  | x :: a, y :: b, h => by
    have ih := unders_iff a b (by simpa using h)
    simp only [unders, Bool.and_eq_true]
    constructor
    · rintro ⟨h1, h2⟩ k u v hu hv
      match k with
      | 0 => simp at hu hv; subst hu hv; exact h1
      | k + 1 => exact ih.1 h2 k u v (by simpa using hu) (by simpa using hv)
    · intro hk
      exact ⟨hk 0 x y rfl rfl, ih.2 fun k u v hu hv => hk (k + 1) u v (by simpa using hu) (by simpa using hv)⟩
  | [], _ :: _, h => by simp at h
  | _ :: _, [], h => by simp at h
theorem unders_no (a b : List Nat) (k x y : Nat) (hx : a[k]? = some x) (hy : b[k]? = some y) (h : under x y = false) : unders a b = false := by
  rw [Bool.eq_false_iff]
  intro hu
  have := (unders_iff a b (unders_length a b hu)).1 hu k x y hx hy
  rw [h] at this
  cases this
theorem less_length (a b : List Nat) (h : a.length ≠ b.length) : less a b = false := by
  rw [Bool.eq_false_iff]
  intro hl
  simp only [less, Bool.and_eq_true] at hl
  exact h (unders_length a b hl.1)

def IsBytes (l : List Nat) : Prop := ∀ x ∈ l, x < 256
theorem IsBytes.cons {x : Nat} {l : List Nat} (h : IsBytes (x :: l)) : x < 256 ∧ IsBytes l := ⟨h x (by simp), fun y hy => h y (by simp [hy])⟩

/-- What is under has no more noughts, and as many only where it is the same. -/
theorem unders_noughts : ∀ (a b : List Nat), IsBytes a → IsBytes b → unders a b = true → noughts a ≤ noughts b ∧ (noughts a = noughts b → a = b)
  | [], [], _, _, _ => by simp
  | x :: a, y :: b, ha, hb, h => by
    simp only [unders, Bool.and_eq_true] at h
    have ih := unders_noughts a b ha.cons.2 hb.cons.2 h.2
    have e := (under_or x y ha.cons.1 hb.cons.1).1 h.1
    have n := nz_or y x hb.cons.1 ha.cons.1
    rw [Nat.or_comm, e] at n
    simp only [noughts]
    refine ⟨by omega, fun he => ?_⟩
    rw [n.2 (by omega), ih.2 (by omega)]
  | [], _ :: _, _, _, h => by simp [unders] at h
  | _ :: _, [], _, _, h => by simp [unders] at h
theorem unders_trans : ∀ (a b c : List Nat), IsBytes a → IsBytes b → IsBytes c → unders a b = true → unders b c = true → unders a c = true
  | [], [], [], _, _, _, _, _ => rfl
  | x :: a, y :: b, z :: c, ha, hb, hc, h, k => by
    simp only [unders, Bool.and_eq_true] at h k ⊢
    refine ⟨?_, unders_trans a b c ha.cons.2 hb.cons.2 hc.cons.2 h.2 k.2⟩
    have e := (under_or x y ha.cons.1 hb.cons.1).1 h.1
    have f := (under_or y z hb.cons.1 hc.cons.1).1 k.1
    apply (under_or x z ha.cons.1 hc.cons.1).2
    rw [← e, Nat.or_assoc, f]
  | [], _ :: _, _, _, _, _, h, _ => by simp [unders] at h
  | _ :: _, [], _, _, _, _, h, _ => by simp [unders] at h
  | [], [], _ :: _, _, _, _, _, k => by simp [unders] at k
  | _ :: _, _ :: _, [], _, _, _, _, k => by simp [unders] at k
theorem unders_self : ∀ (a : List Nat), IsBytes a → unders a a = true
  | [], _ => rfl
  | x :: a, ha => by
    simp only [unders, Bool.and_eq_true]
    exact ⟨(under_or x x ha.cons.1 ha.cons.1).2 (Nat.or_self x), unders_self a ha.cons.2⟩
theorem less_iff (a b : List Nat) : less a b = true ↔ unders a b = true ∧ a ≠ b := by simp [less]
theorem less_noughts (a b : List Nat) (ha : IsBytes a) (hb : IsBytes b) (h : less a b = true) : noughts a < noughts b := by
  obtain ⟨h1, h2⟩ := (less_iff a b).1 h
  obtain ⟨h3, h4⟩ := unders_noughts a b ha hb h1
  rcases Nat.lt_or_eq_of_le h3 with h | h
  · exact h
  · exact absurd (h4 h) h2
theorem less_self (a : List Nat) : less a a = false := by simp [less]
theorem less_not_both (a b : List Nat) (ha : IsBytes a) (hb : IsBytes b) (h : less a b = true) : less b a = false := by
  rw [Bool.eq_false_iff]
  intro h2
  have := less_noughts a b ha hb h
  have := less_noughts b a hb ha h2
  omega
theorem less_trans (a b c : List Nat) (ha : IsBytes a) (hb : IsBytes b) (hc : IsBytes c) (h : less a b = true) (k : less b c = true) : less a c = true := by
  have n1 := less_noughts a b ha hb h
  have n2 := less_noughts b c hb hc k
  refine (less_iff a c).2 ⟨unders_trans a b c ha hb hc ((less_iff a b).1 h).1 ((less_iff b c).1 k).1, ?_⟩
  rintro rfl
  omega

/-- The page of a body, and what bytes say. -/
def isPg (n : Int) : Prop := 128 ≤ n ∧ n ≤ 256
instance (n : Int) : Decidable (isPg n) := by unfold isPg; infer_instance
def isKd (k : Nat) : Prop := 1 ≤ k ∧ k ≤ 7
instance (k : Nat) : Decidable (isKd k) := by unfold isKd; infer_instance
def pgBody (n : Int) : Int := if isPg n then n - 5 else 0
def rest (n k : Nat) (b : List Nat) : List Nat := k :: leB b.length 2 ++ b ++ List.replicate (n - 5 - b.length) 255
def page (n k : Nat) (b : List Nat) : List Nat := leB (noughts (rest n k b)) 2 ++ rest n k b
def sPutL (n : Int) (k : Nat) (b : List Nat) : List Nat := if isPg n ∧ isKd k ∧ (b.length : Int) ≤ n - 5 then page n.toNat k b else []
def sPutE (n : Int) (k : Nat) (b : List Nat) : Int := if isPg n ∧ isKd k then (if (b.length : Int) ≤ n - 5 then 0 else 3) else 2

def lenF (b : List Nat) : Nat := leV ((b.drop 3).take 2)
def isForm (b : List Nat) : Prop := isKd (b.getD 2 0) ∧ 5 + lenF b ≤ b.length ∧ blank (b.drop (5 + lenF b)) = true
instance (b : List Nat) : Decidable (isForm b) := by unfold isForm; infer_instance
def sGetE (b : List Nat) : Int :=
  if isPg b.length then (if blank b = true then 6 else if leV (b.take 2) = noughts (b.drop 2) then (if isForm b then 0 else 5) else 7) else 2
def sGetK (b : List Nat) : Nat := if sGetE b = 0 then b.getD 2 0 else 0
def sGetL (b : List Nat) : List Nat := if sGetE b = 0 then (b.drop 5).take (lenF b) else []

theorem sGetE_ok {b : List Nat} (h : sGetE b = 0) : isPg b.length ∧ blank b = false ∧ leV (b.take 2) = noughts (b.drop 2) ∧ isForm b := by
  unfold sGetE at h
  split at h <;> rename_i h1
  · split at h <;> rename_i h2
    · cases h
    · split at h <;> rename_i h3
      · split at h <;> rename_i h4
        · exact ⟨h1, by simpa using h2, h3, h4⟩
        · cases h
      · cases h
  · cases h

theorem leB_two (n : Nat) : leB n 2 = [n % 256, n / 256 % 256] := by simp [leB, List.range, List.range.loop]
theorem leV_leB (n : Nat) (h : n < 65536) : leV (leB n 2) = n := by rw [leB_two]; simp [leV]; omega
theorem rest_length (n k : Nat) (b : List Nat) (h : b.length + 5 ≤ n) : (rest n k b).length = n - 2 := by simp [rest, leB_length]; omega
theorem page_length (n k : Nat) (b : List Nat) (h : b.length + 5 ≤ n) : (page n k b).length = n := by rw [page, List.length_append, rest_length n k b h, leB_length]; omega
theorem rest_bytes (n k : Nat) (b : List Nat) (hk : k < 256) (hb : IsBytes b) : IsBytes (rest n k b) := by
  intro x hx
  simp only [rest, List.mem_append, List.cons_append, List.mem_cons] at hx
  rcases hx with rfl | (hx | hx) | hx
  · exact hk
  · exact leB_lt _ _ x hx
  · exact hb x hx
  · have := List.eq_of_mem_replicate hx; omega
theorem page_bytes (n k : Nat) (b : List Nat) (hk : k < 256) (hb : IsBytes b) : IsBytes (page n k b) := by
  intro x hx
  rcases List.mem_append.1 hx with h | h
  · exact leB_lt _ _ x h
  · exact rest_bytes n k b hk hb x h
theorem page_noughts (n k : Nat) (b : List Nat) (hn : n ≤ 256) (h : b.length + 5 ≤ n) : leV ((page n k b).take 2) = noughts ((page n k b).drop 2) := by
  have e1 : (page n k b).take 2 = leB (noughts (rest n k b)) 2 := by unfold page; rw [List.take_left' (leB_length _ _)]
  have e2 : (page n k b).drop 2 = rest n k b := by unfold page; rw [List.drop_left' (leB_length _ _)]
  rw [e1, e2]
  apply leV_leB
  have := noughts_le (rest n k b)
  rw [rest_length n k b h] at this
  omega
theorem page_shape (n k : Nat) (b : List Nat) : ∃ p0 p1 : Nat, page n k b = p0 :: p1 :: k :: (b.length % 256) :: (b.length / 256 % 256) :: (b ++ List.replicate (n - 5 - b.length) 255) := by
  refine ⟨noughts (rest n k b) % 256, noughts (rest n k b) / 256 % 256, ?_⟩
  unfold page
  rw [leB_two]
  generalize noughts (rest n k b) = m
  unfold rest
  rw [leB_two]
  simp
theorem page_form (n k : Nat) (b : List Nat) (hn : n ≤ 256) (hk : isKd k) (h : b.length + 5 ≤ n) : isForm (page n k b) ∧ lenF (page n k b) = b.length ∧ (page n k b).getD 2 0 = k ∧ ((page n k b).drop 5).take b.length = b := by
  have hl := page_length n k b h
  obtain ⟨p0, p1, e⟩ := page_shape n k b
  have e1 : lenF (page n k b) = b.length := by
    rw [lenF, e]
    simp [leV]
    omega
  refine ⟨⟨?_, by rw [e1, hl]; omega, ?_⟩, e1, by rw [e]; rfl, by rw [e]; simp⟩
  · rw [e]; exact hk
  · rw [e1, e]
    rw [show 5 + b.length = b.length + 5 from by omega]
    simp only [List.drop_succ_cons]
    rw [List.drop_left' rfl]
    simp [blank]
theorem page_not_blank (n k : Nat) (b : List Nat) (hk : isKd k) : blank (page n k b) = false := by
  obtain ⟨p0, p1, e⟩ := page_shape n k b
  rw [e]
  exact blank_no _ 2 k rfl (by unfold isKd at hk; omega)
theorem get_page (n k : Nat) (b : List Nat) (hn : isPg n) (hk : isKd k) (h : b.length + 5 ≤ n) : sGetE (page n k b) = 0 ∧ sGetK (page n k b) = k ∧ sGetL (page n k b) = b := by
  have hn' : n ≤ 256 := by unfold isPg at hn; omega
  obtain ⟨f1, f2, f3, f4⟩ := page_form n k b hn' hk h
  have e : sGetE (page n k b) = 0 := by
    unfold sGetE
    rw [page_length n k b h, if_pos hn, page_not_blank n k b hk, if_neg (by simp), if_pos (page_noughts n k b hn' h), if_pos f1]
  refine ⟨e, ?_, ?_⟩
  · unfold sGetK; rw [if_pos e, f3]
  · unfold sGetL; rw [if_pos e, f2, f4]

theorem leB_leV2 (a b : Nat) (ha : a < 256) (hb : b < 256) : leB (leV [a, b]) 2 = [a, b] := by
  rw [leB_two]; simp [leV]; omega
theorem blank_replicate : ∀ (l : List Nat), blank l = true → l = List.replicate l.length 255
  | [], _ => rfl
  | x :: l, h => by
    simp only [blank, List.all_cons, Bool.and_eq_true, beq_iff_eq] at h
    rw [List.length_cons, List.replicate_succ, ← blank_replicate l h.2, h.1]
/-- What bytes say, put again, is the bytes. -/
theorem put_get (l : List Nat) (hl : IsBytes l) (h : sGetE l = 0) : sPutE l.length (sGetK l) (sGetL l) = 0 ∧ sPutL l.length (sGetK l) (sGetL l) = l := by
  obtain ⟨h1, h2, h3, h4⟩ := sGetE_ok h
  have hK : sGetK l = l.getD 2 0 := by unfold sGetK; rw [if_pos h]
  have hL : sGetL l = (l.drop 5).take (lenF l) := by unfold sGetL; rw [if_pos h]
  obtain ⟨f1, f2, f3⟩ := h4
  have hlen : (sGetL l).length = lenF l := by rw [hL]; simp; omega
  have hp : ((sGetL l).length : Int) ≤ (l.length : Int) - 5 := by rw [hlen]; omega
  have hk : isKd (sGetK l) := by rw [hK]; exact f1
  refine ⟨by unfold sPutE; rw [if_pos ⟨h1, hk⟩, if_pos hp], ?_⟩
  unfold sPutL
  rw [if_pos ⟨h1, hk, hp⟩, Int.toNat_natCast]
  have h5 : 5 ≤ l.length := by unfold isPg at h1; omega
  match l, h5 with
  | a :: b :: c :: d :: e :: r, _ =>
    have b0 := hl a (by simp)
    have b1 := hl b (by simp)
    have b3 := hl d (by simp)
    have b4 := hl e (by simp)
    have eR : rest (a :: b :: c :: d :: e :: r).length (sGetK (a :: b :: c :: d :: e :: r)) (sGetL (a :: b :: c :: d :: e :: r)) = c :: d :: e :: r := by
      unfold rest
      rw [hlen, hK, hL]
      have eF : lenF (a :: b :: c :: d :: e :: r) = leV [d, e] := rfl
      rw [eF, leB_leV2 d e b3 b4]
      rw [eF] at f2 f3
      have er := blank_replicate _ f3
      rw [show 5 + leV [d, e] = leV [d, e] + 5 from by omega] at er
      simp only [List.drop_succ_cons, List.length_drop] at er
      simp only [List.drop_succ_cons, List.drop_zero, List.length_cons, List.cons_append, List.nil_append]
      have : r.length + 1 + 1 + 1 + 1 + 1 - 5 - leV [d, e] = r.length - leV [d, e] := by omega
      rw [this, ← er, List.take_append_drop]
      rfl
    unfold page
    rw [eR]
    simp only [List.take_succ_cons, List.take_zero, List.drop_succ_cons, List.drop_zero] at h3
    rw [← h3, leB_leV2 a b b0 b1]
    rfl

theorem leV2_mono (a b c d : Nat) (ha : a ≤ c) (hb : b ≤ d) : leV [a, b] ≤ leV [c, d] ∧ (leV [a, b] = leV [c, d] → a = c ∧ b = d) := by
  simp only [leV]
  omega
theorem under_le (x y : Nat) (hx : x < 256) (hy : y < 256) (h : under x y = true) : y ≤ x := by
  rw [← (under_or x y hx hy).1 h]
  exact Nat.right_le_or
/-- FOR SURE: what is under a page's bytes, and whose own number of noughts is right, is the page. -/
theorem sure_ (q p : List Nat) (hq : IsBytes q) (hp : IsBytes p) (h2 : 2 ≤ p.length) (hu : unders q p = true) (h : leV (p.take 2) = noughts (p.drop 2)) (k : leV (q.take 2) = noughts (q.drop 2)) : q = p := by
  have hlen : 2 ≤ q.length := by have := unders_length q p hu; omega
  match q, p, h2, hlen with
  | x :: y :: q, a :: b :: p, _, _ =>
    simp only [unders, Bool.and_eq_true] at hu
    obtain ⟨u1, u2, u3⟩ := hu
    have l1 := under_le x a hq.cons.1 hp.cons.1 u1
    have l2 := under_le y b hq.cons.2.cons.1 hp.cons.2.cons.1 u2
    obtain ⟨m1, m2⟩ := leV2_mono a b x y l1 l2
    obtain ⟨n1, n2⟩ := unders_noughts q p hq.cons.2.cons.2 hp.cons.2.cons.2 u3
    simp only [List.take_succ_cons, List.take_zero, List.drop_succ_cons, List.drop_zero] at h k
    obtain ⟨rfl, rfl⟩ := m2 (by omega)
    rw [n2 (by omega)]
theorem get_torn (q : List Nat) (n k : Nat) (b : List Nat) (hn : isPg n) (hk : isKd k) (h : b.length + 5 ≤ n) (hq : IsBytes q) (hb : IsBytes b) (hu : unders q (page n k b) = true) (hne : q ≠ page n k b) :
    (sGetE q = 7 ∨ sGetE q = 6 ∧ blank q = true) ∧ sGetL q = [] := by
  have hn' : n ≤ 256 := by unfold isPg at hn; omega
  have hk' : k < 256 := by unfold isKd at hk; omega
  have hlen := unders_length _ _ hu
  rw [page_length n k b h] at hlen
  have ht : ¬ leV (q.take 2) = noughts (q.drop 2) := fun ht => hne (sure_ q _ hq (page_bytes n k b hk' hb) (by rw [page_length n k b h]; omega) hu (page_noughts n k b hn' h) ht)
  have e : sGetE q = 7 ∨ sGetE q = 6 ∧ blank q = true := by
    unfold sGetE
    rw [hlen, if_pos hn]
    by_cases hbl : blank q = true
    · rw [if_pos hbl]; exact .inr ⟨rfl, hbl⟩
    · rw [if_neg hbl, if_neg ht]; exact .inl rfl
  refine ⟨e, ?_⟩
  unfold sGetL
  rw [if_neg]
  rcases e with e | ⟨e, _⟩ <;> rw [e] <;> decide
end Go.Proofs.Ytbiihjdjbknibaa
