/-
  Mathematics of keys (no program): their order, what a key may be, its bytes, what bytes say.
-/
import Derived.Test.YtbiihjdjbknibaaVa
import Derived.Lib.Bytealg
namespace Go.Proofs.Ytbiihjdjbknibaa
set_option maxRecDepth 100000

/-- A key. -/
structure KY where
  i : Int
  t : Nat
  n : ByteArray
  c : Int

theorem KY.ext_ {a b : KY} (h1 : a.i = b.i) (h2 : a.t = b.t) (h3 : a.n = b.n) (h4 : a.c = b.c) : a = b := by
  cases a; cases b; simp_all
instance : DecidableEq KY := fun a b => decidable_of_iff (a.i = b.i ∧ a.t = b.t ∧ a.n = b.n ∧ a.c = b.c) ⟨fun h => KY.ext_ h.1 h.2.1 h.2.2.1 h.2.2.2, fun h => by subst h; exact ⟨rfl, rfl, rfl, rfl⟩⟩

def kcells (k : KY) : List Value := [.int .i64 k.i, .int .u8 (k.t : Nat), .string k.n, .int .i64 k.c]

theorem ba_ext {a b : ByteArray} (h : a.data.toList = b.data.toList) : a = b := by
  rw [← Lib.mk_data a, ← Lib.mk_data b, h]

def cmpI (x y : Int) : Int := if x < y then -1 else if y < x then 1 else 0
def orI (a b c d : Int) : Int := if a ≠ 0 then a else if b ≠ 0 then b else if c ≠ 0 then c else d
/-- How two texts stand. -/
def cmpS (a b : ByteArray) : Int := Lib.compareBytes a.data.toList b.data.toList
/-- How two keys stand: below 0 where the first is ahead. -/
def cmpK (a b : KY) : Int := orI (cmpI a.i b.i) (cmpI a.t b.t) (cmpS a.n b.n) (cmpI a.c b.c)
def befK (a b : KY) : Bool := decide (cmpK a b < 0)

theorem cmpI_lt {x y : Int} : cmpI x y < 0 ↔ x < y := by unfold cmpI; split <;> (try split) <;> omega
theorem cmpI_eq {x y : Int} : cmpI x y = 0 ↔ x = y := by unfold cmpI; split <;> (try split) <;> omega
theorem cmpI_swap (x y : Int) : cmpI y x = - cmpI x y := by unfold cmpI; split <;> split <;> (try split) <;> omega

theorem cb_eq : ∀ (a b : List UInt8), Lib.compareBytes a b = 0 ↔ a = b
  | [], [] => by simp [Lib.compareBytes]
  | [], _ :: _ => by simp [Lib.compareBytes]
  | _ :: _, [] => by simp [Lib.compareBytes]
  | x :: a, y :: b => by
    have ih := cb_eq a b
    unfold Lib.compareBytes
    by_cases h1 : x < y
    · rw [if_pos h1]
      simp only [List.cons.injEq]
      constructor
      · intro h; omega
      · rintro ⟨rfl, _⟩; exact absurd h1 (UInt8.lt_irrefl x)
    · rw [if_neg h1]
      by_cases h2 : y < x
      · rw [if_pos h2]
        simp only [List.cons.injEq]
        constructor
        · intro h; omega
        · rintro ⟨rfl, _⟩; exact absurd h2 (UInt8.lt_irrefl x)
      · rw [if_neg h2, ih]
        have : x = y := UInt8.le_antisymm (UInt8.not_lt.1 h2) (UInt8.not_lt.1 h1)
        simp [this]
theorem cb_swap : ∀ (a b : List UInt8), Lib.compareBytes b a = - Lib.compareBytes a b
  | [], [] => by simp [Lib.compareBytes]
  | [], _ :: _ => by simp [Lib.compareBytes]
  | _ :: _, [] => by simp [Lib.compareBytes]
  | x :: a, y :: b => by
    have ih := cb_swap a b
    unfold Lib.compareBytes
    by_cases h1 : x < y
    · rw [if_pos h1, if_neg (fun h => UInt8.lt_irrefl x (UInt8.lt_trans h1 h)), if_pos h1]; rfl
    · rw [if_neg h1]
      by_cases h2 : y < x
      · rw [if_pos h2, if_pos h2, if_neg h1]
      · rw [if_neg h2, if_neg h2, if_neg h1, ih]
theorem cb_trans : ∀ (a b c : List UInt8), Lib.compareBytes a b < 0 → Lib.compareBytes b c < 0 → Lib.compareBytes a c < 0
  | [], [], _, h, _ => by simp [Lib.compareBytes] at h
  | _, _ :: _, [], _, h => by simp [Lib.compareBytes] at h
  | _ :: _, [], _, h, _ => by simp [Lib.compareBytes] at h
  | [], _ :: _, _ :: _, _, _ => by simp [Lib.compareBytes]
  | x :: a, y :: b, z :: c, h1, h2 => by
    have ih := cb_trans a b c
    unfold Lib.compareBytes at h1 h2 ⊢
    by_cases a1 : x < y
    · by_cases b1 : y < z
      · rw [if_pos (UInt8.lt_trans a1 b1)]; omega
      · rw [if_neg b1] at h2
        by_cases b2 : z < y
        · rw [if_pos b2] at h2; omega
        · have e : y = z := UInt8.le_antisymm (UInt8.not_lt.1 b2) (UInt8.not_lt.1 b1)
          rw [if_pos (e ▸ a1)]; omega
    · rw [if_neg a1] at h1
      by_cases a2 : y < x
      · rw [if_pos a2] at h1; omega
      · rw [if_neg a2] at h1
        have e : x = y := UInt8.le_antisymm (UInt8.not_lt.1 a2) (UInt8.not_lt.1 a1)
        subst e
        by_cases b1 : x < z
        · rw [if_pos b1]; omega
        · rw [if_neg b1] at h2 ⊢
          by_cases b2 : z < x
          · rw [if_pos b2] at h2; omega
          · rw [if_neg b2] at h2 ⊢
            exact ih h1 h2
theorem cmpS_eq {a b : ByteArray} : cmpS a b = 0 ↔ a = b := ⟨fun h => ba_ext ((cb_eq _ _).1 h), fun h => by subst h; exact (cb_eq _ _).2 rfl⟩
theorem cmpS_swap (a b : ByteArray) : cmpS b a = - cmpS a b := cb_swap _ _
theorem cmpS_trans {a b c : ByteArray} (h1 : cmpS a b < 0) (h2 : cmpS b c < 0) : cmpS a c < 0 := cb_trans _ _ _ h1 h2

theorem cmpK_eq {a b : KY} : cmpK a b = 0 ↔ a = b := by
  constructor
  · intro h
    unfold cmpK orI at h
    by_cases h1 : cmpI a.i b.i = 0
    · rw [if_neg (by simpa using h1)] at h
      by_cases h2 : cmpI a.t b.t = 0
      · rw [if_neg (by simpa using h2)] at h
        by_cases h3 : cmpS a.n b.n = 0
        · rw [if_neg (by simpa using h3)] at h
          exact KY.ext_ (cmpI_eq.1 h1) (by have := cmpI_eq.1 h2; omega) (cmpS_eq.1 h3) (cmpI_eq.1 h)
        · rw [if_pos h3] at h; exact absurd h h3
      · rw [if_pos h2] at h; exact absurd h h2
    · rw [if_pos h1] at h; exact absurd h h1
  · rintro rfl
    unfold cmpK
    rw [cmpI_eq.2 rfl, cmpI_eq.2 rfl, cmpS_eq.2 rfl, cmpI_eq.2 rfl]
    rfl
theorem orI_neg (a b c d : Int) : orI (-a) (-b) (-c) (-d) = - orI a b c d := by
  unfold orI
  split <;> split <;> (try omega) <;> split <;> split <;> (try omega) <;> split <;> split <;> omega
theorem cmpK_swap (a b : KY) : cmpK b a = - cmpK a b := by
  unfold cmpK
  rw [cmpI_swap a.i, cmpI_swap (a.t : Int), cmpS_swap a.n, cmpI_swap a.c, orI_neg]

/-- The same, told by the fields. -/
def LtK (a b : KY) : Prop := a.i < b.i ∨ a.i = b.i ∧ (a.t < b.t ∨ a.t = b.t ∧ (cmpS a.n b.n < 0 ∨ a.n = b.n ∧ a.c < b.c))
theorem cmpK_lt {a b : KY} : cmpK a b < 0 ↔ LtK a b := by
  unfold cmpK orI LtK
  by_cases h1 : cmpI a.i b.i = 0
  · rw [if_neg (by simpa using h1)]
    have e1 := cmpI_eq.1 h1
    by_cases h2 : cmpI a.t b.t = 0
    · rw [if_neg (by simpa using h2)]
      have e2 := cmpI_eq.1 h2
      by_cases h3 : cmpS a.n b.n = 0
      · rw [if_neg (by simpa using h3), cmpI_lt]
        have e3 := cmpS_eq.1 h3
        constructor
        · intro h; exact .inr ⟨e1, .inr ⟨by omega, .inr ⟨e3, h⟩⟩⟩
        · rintro (h | ⟨_, h | ⟨_, h | ⟨_, h⟩⟩⟩)
          · omega
          · omega
          · omega
          · exact h
      · rw [if_pos h3]
        constructor
        · intro h; exact .inr ⟨e1, .inr ⟨by omega, .inl h⟩⟩
        · rintro (h | ⟨_, h | ⟨_, h | ⟨h, _⟩⟩⟩)
          · omega
          · omega
          · exact h
          · exact absurd (cmpS_eq.2 h) h3
    · rw [if_pos h2, cmpI_lt]
      constructor
      · intro h; exact .inr ⟨e1, .inl (by omega)⟩
      · rintro (h | ⟨_, h | ⟨h, _⟩⟩)
        · omega
        · omega
        · exact absurd (cmpI_eq.2 (by omega)) h2
  · rw [if_pos h1, cmpI_lt]
    constructor
    · intro h; exact .inl h
    · rintro (h | ⟨h, _⟩)
      · exact h
      · exact absurd (cmpI_eq.2 h) h1
theorem cmpK_trans {a b c : KY} (h1 : cmpK a b < 0) (h2 : cmpK b c < 0) : cmpK a c < 0 := by
  rw [cmpK_lt] at *
  unfold LtK at *
  rcases h1 with h1 | ⟨e1, h1 | ⟨f1, h1 | ⟨g1, h1⟩⟩⟩ <;> rcases h2 with h2 | ⟨e2, h2 | ⟨f2, h2 | ⟨g2, h2⟩⟩⟩
  all_goals first
    | exact .inl (by omega)
    | exact .inr ⟨by omega, .inl (by omega)⟩
    | exact .inr ⟨by omega, .inr ⟨by omega, .inl (cmpS_trans h1 h2)⟩⟩
    | exact .inr ⟨by omega, .inr ⟨by omega, .inl (g2 ▸ h1)⟩⟩
    | exact .inr ⟨by omega, .inr ⟨by omega, .inl (g1 ▸ h2)⟩⟩
    | exact .inr ⟨by omega, .inr ⟨by omega, .inr ⟨g1.trans g2, by omega⟩⟩⟩

theorem befK_irr (a : KY) : befK a a = false := by unfold befK; rw [cmpK_eq.2 rfl]; rfl
theorem befK_trans {a b c : KY} (h1 : befK a b = true) (h2 : befK b c = true) : befK a c = true :=
  decide_eq_true (cmpK_trans (of_decide_eq_true h1) (of_decide_eq_true h2))
theorem befK_anti {a b : KY} (h1 : befK a b = true) : befK b a = false := decide_eq_false (by have := of_decide_eq_true h1; rw [cmpK_swap a b]; omega)
theorem befK_tri (a b : KY) : befK a b = true ∨ a = b ∨ befK b a = true := by
  rcases Int.lt_trichotomy (cmpK a b) 0 with h | h | h
  · exact .inl (decide_eq_true h)
  · exact .inr (.inl (cmpK_eq.1 h))
  · exact .inr (.inr (decide_eq_true (by rw [cmpK_swap a b]; omega)))
/-- Not ahead, then not ahead. -/
theorem befK_le_trans {a b c : KY} (h1 : befK b a = false) (h2 : befK c b = false) : befK c a = false := by
  cases h : befK c a with
  | false => rfl
  | true =>
    rcases befK_tri a b with h3 | rfl | h3
    · rw [befK_trans h h3] at h2; cases h2
    · rw [h] at h2; cases h2
    · rw [h3] at h1; cases h1

/-- How two texts stand, told as the reference tells it. -/
def ordL : List UInt8 → List UInt8 → Int
  | [], ys => - (ys.length : Int)
  | x :: xs, [] => ((x :: xs).length : Int)
  | x :: xs, y :: ys => if x = y then ordL xs ys else (x.toNat : Int) - (y.toNat : Int)
theorem ordL_eq : ∀ (a b : List UInt8), ordL a b = 0 ↔ Lib.compareBytes a b = 0
  | [], [] => by simp [ordL, Lib.compareBytes]
  | [], _ :: _ => by simp only [ordL, Lib.compareBytes, List.length_cons]; omega
  | _ :: _, [] => by simp only [ordL, Lib.compareBytes, List.length_cons]; omega
  | x :: a, y :: b => by
    have ih := ordL_eq a b
    unfold ordL Lib.compareBytes
    by_cases h : x = y
    · subst h
      rw [if_pos rfl, if_neg (UInt8.lt_irrefl x), if_neg (UInt8.lt_irrefl x)]
      exact ih
    · rw [if_neg h]
      have hn : x.toNat ≠ y.toNat := fun e => h (UInt8.toNat_inj.1 e)
      by_cases h1 : x < y
      · rw [if_pos h1]; omega
      · have h2 : y < x := UInt8.lt_of_le_of_ne (UInt8.not_lt.1 h1) (Ne.symm h)
        rw [if_neg h1, if_pos h2]; omega
theorem ordL_lt : ∀ (a b : List UInt8), ordL a b < 0 ↔ Lib.compareBytes a b < 0
  | [], [] => by simp [ordL, Lib.compareBytes]
  | [], _ :: _ => by simp only [ordL, Lib.compareBytes, List.length_cons]; omega
  | _ :: _, [] => by simp only [ordL, Lib.compareBytes, List.length_cons]; omega
  | x :: a, y :: b => by
    have ih := ordL_lt a b
    unfold ordL Lib.compareBytes
    by_cases h : x = y
    · subst h
      rw [if_pos rfl, if_neg (UInt8.lt_irrefl x), if_neg (UInt8.lt_irrefl x)]
      exact ih
    · rw [if_neg h]
      have hn : x.toNat ≠ y.toNat := fun e => h (UInt8.toNat_inj.1 e)
      by_cases h1 : x < y
      · have := UInt8.lt_iff_toNat_lt.1 h1
        rw [if_pos h1]; omega
      · have h2 : y < x := UInt8.lt_of_le_of_ne (UInt8.not_lt.1 h1) (Ne.symm h)
        have := UInt8.lt_iff_toNat_lt.1 h2
        rw [if_neg h1, if_pos h2]; omega
theorem ordL_at : ∀ (k : Nat) (a b : List UInt8) (x y : UInt8), a.take k = b.take k → a[k]? = some x → b[k]? = some y → x ≠ y → ordL a b = (x.toNat : Int) - (y.toNat : Int)
  | _, [], _, _, _, _, h, _, _ => by simp at h
  | _, _ :: _, [], _, _, _, _, h, _ => by simp at h
  | 0, p :: a, q :: b, x, y, _, h1, h2, hn => by
    simp at h1 h2
    subst h1 h2
    unfold ordL
    rw [if_neg hn]
  | k + 1, p :: a, q :: b, x, y, h, h1, h2, hn => by
    simp only [List.take_succ_cons, List.cons.injEq] at h
    unfold ordL
    rw [if_pos h.1]
    exact ordL_at k a b x y h.2 (by simpa using h1) (by simpa using h2) hn
theorem ordL_end : ∀ (k : Nat) (a b : List UInt8), a.take k = b.take k → (k = a.length ∨ k = b.length) → k ≤ a.length → k ≤ b.length → ordL a b = (a.length : Int) - b.length
  | 0, [], b, _, _, _, _ => by simp [ordL]
  | 0, p :: a, [], _, _, _, _ => by simp [ordL]
  | 0, p :: a, q :: b, _, h, _, _ => by simp at h
  | k + 1, [], _, _, _, h, _ => by simp at h
  | k + 1, _ :: _, [], _, _, _, h => by simp at h
  | k + 1, p :: a, q :: b, h, h1, h2, h3 => by
    simp only [List.take_succ_cons, List.cons.injEq] at h
    unfold ordL
    rw [if_pos h.1, ordL_end k a b h.2 (by simp at h1; omega) (by simpa using h2) (by simpa using h3)]
    simp only [List.length_cons]
    omega

/-- What a key may be. -/
def mayK (k : KY) : Bool :=
  decide (1 ≤ k.i ∧ k.i ≤ 65535) && (if k.t = 1 then decide (k.n.data.toList = [] ∧ k.c = 0) else if k.t = 2 then nameL k.n.data.toList && decide (k.c = 0)
    else if k.t = 3 then decide (k.n.data.toList = [] ∧ 0 ≤ k.c ∧ k.c < 8) else false)

def nB (s : ByteArray) : List Nat := s.data.toList.map UInt8.toNat
/-- A key's bytes behind its Ino and What. -/
def restK (k : KY) : List Nat := if k.t = 2 then k.n.size :: nB k.n else if k.t = 3 then [k.c.toNat] else []
def keyB (k : KY) : List Nat := [k.i.toNat % 256, k.i.toNat / 256 % 256, k.t] ++ restK k
def pkL (k : KY) : List Nat := if mayK k = true then keyB k else []
def pkE (k : KY) : Int := if mayK k = true then 0 else 2

theorem nB_len (s : ByteArray) : (nB s).length = s.size := by unfold nB; rw [List.length_map, Lib.size_eq]
theorem nB_lt (s : ByteArray) : ∀ x ∈ nB s, x < 256 := fun x hx => by
  obtain ⟨y, _, rfl⟩ := List.mem_map.1 hx
  exact y.toNat_lt
theorem nB_inj {s t : ByteArray} (h : nB s = nB t) : s = t := by
  refine ba_ext (List.map_inj_right ?_ |>.1 h)
  intro x y e
  exact UInt8.toNat_inj.1 e

theorem may_parts {k : KY} (h : mayK k = true) : 1 ≤ k.i ∧ k.i ≤ 65535 ∧ k.t < 256 ∧ (k.t = 1 ∧ k.n.data.toList = [] ∧ k.c = 0 ∨ k.t = 2 ∧ nameL k.n.data.toList = true ∧ k.c = 0 ∨ k.t = 3 ∧ k.n.data.toList = [] ∧ 0 ≤ k.c ∧ k.c < 8) := by
  unfold mayK at h
  simp only [Bool.and_eq_true, decide_eq_true_eq] at h
  obtain ⟨⟨h1, h2⟩, h3⟩ := h
  by_cases t1 : k.t = 1
  · rw [if_pos t1] at h3
    have h3 := of_decide_eq_true h3
    exact ⟨h1, h2, by omega, .inl ⟨t1, h3.1, h3.2⟩⟩
  · rw [if_neg t1] at h3
    by_cases t2 : k.t = 2
    · rw [if_pos t2] at h3
      simp at h3
      exact ⟨h1, h2, by omega, .inr (.inl ⟨t2, h3.1, h3.2⟩)⟩
    · rw [if_neg t2] at h3
      by_cases t3 : k.t = 3
      · rw [if_pos t3] at h3
        have h3 := of_decide_eq_true h3
        exact ⟨h1, h2, by omega, .inr (.inr ⟨t3, h3.1, h3.2⟩)⟩
      · rw [if_neg t3] at h3; cases h3
theorem may_name {k : KY} (h : mayK k = true) : k.n.size ≤ 12 := by
  obtain ⟨_, _, _, ⟨_, h, _⟩ | ⟨_, h, _⟩ | ⟨_, h, _⟩⟩ := may_parts h
  · rw [Lib.size_eq, h]; simp
  · rw [Lib.size_eq]; exact (name_ne h).2.1
  · rw [Lib.size_eq, h]; simp
theorem rest_len {k : KY} (h : mayK k = true) : (restK k).length ≤ 13 := by
  have := may_name h
  unfold restK
  split
  · simp [nB_len]; omega
  · split <;> simp
theorem keyB_lt {k : KY} (h : mayK k = true) : ∀ x ∈ keyB k, x < 256 := by
  obtain ⟨h1, h2, h3, h4⟩ := may_parts h
  have hn := may_name h
  intro x hx
  unfold keyB at hx
  rcases List.mem_append.1 hx with hx | hx
  · simp only [List.mem_cons, List.not_mem_nil, or_false] at hx
    omega
  · unfold restK at hx
    split at hx
    · rcases List.mem_cons.1 hx with rfl | hx
      · omega
      · exact nB_lt _ _ hx
    · split at hx
      · rename_i t3
        simp only [List.mem_cons, List.not_mem_nil, or_false] at hx
        rcases h4 with h4 | h4 | h4 <;> omega
      · cases hx

theorem pkL_len (k : KY) : (pkL k).length ≤ 16 := by
  unfold pkL
  split
  · rename_i h
    have := rest_len h
    simp only [keyB, List.length_append, List.length_cons, List.length_nil]
    omega
  · simp
theorem pkL_lt (k : KY) : ∀ x ∈ pkL k, x < 256 := by
  unfold pkL
  split
  · rename_i h; exact keyB_lt h
  · simp
theorem empty_of {s : ByteArray} (h : s.data.toList = []) : s = ByteArray.empty := ba_ext h

/-- Two keys have two rows of bytes. -/
theorem keyB_inj {a b : KY} (ha : mayK a = true) (hb : mayK b = true) (h : keyB a = keyB b) : a = b := by
  obtain ⟨a1, a2, a3, a4⟩ := may_parts ha
  obtain ⟨b1, b2, b3, b4⟩ := may_parts hb
  unfold keyB at h
  simp only [List.cons_append, List.nil_append, List.cons.injEq] at h
  obtain ⟨h1, h2, h3, h4⟩ := h
  have hi : a.i = b.i := by omega
  unfold restK at h4
  rw [h3] at h4
  rcases a4 with ⟨t, n, c⟩ | ⟨t, n, c⟩ | ⟨t, n, c⟩
  · rcases b4 with ⟨t', n', c'⟩ | ⟨t', n', c'⟩ | ⟨t', n', c'⟩
    · exact KY.ext_ hi h3 ((empty_of n).trans (empty_of n').symm) (by omega)
    · omega
    · omega
  · rcases b4 with ⟨t', n', c'⟩ | ⟨t', n', c'⟩ | ⟨t', n', c'⟩
    · omega
    · rw [if_pos t', if_pos t'] at h4
      simp only [List.cons.injEq] at h4
      exact KY.ext_ hi h3 (nB_inj h4.2) (by omega)
    · omega
  · rcases b4 with ⟨t', n', c'⟩ | ⟨t', n', c'⟩ | ⟨t', n', c'⟩
    · omega
    · omega
    · rw [if_neg (by omega), if_pos t', if_neg (by omega), if_pos t'] at h4
      simp only [List.cons.injEq, and_true] at h4
      exact KY.ext_ hi h3 ((empty_of n).trans (empty_of n').symm) (by omega)
end Go.Proofs.Ytbiihjdjbknibaa
