/-
  A chip as a state, over lists: what a deed, a hit, a look make of it; and what follows of these words alone (no program).
-/
import Derived.Test.YtgfdiboaiifdnaaGreatSd
namespace Go.Proofs.YtgfdiboaiifdnaaGreat

/-- Of the bits of g those that m has, of c the others. -/
def mixB (c g m : Nat) : Nat := (c &&& (255 - m)) ||| (g &&& m)
/-- Byte by byte; m tells the mask's byte at each place. -/
def mixF (m : Nat → Nat) (c g : List Nat) : List Nat := (List.range c.length).map fun i => mixB (c.getD i 0) (g.getD i 0) (m i)
/-- A mask's byte at a place: it begins anew where it ends; of none no bit. -/
def maskF (l : List Nat) (i : Nat) : Nat := l.getD (i % l.length) 0

theorem sub255 (m : Nat) (hm : m < 256) (j : Nat) : (255 - m).testBit j = (decide (j < 8) && !m.testBit j) := by
  rw [show 255 - m = 2 ^ 8 - (m + 1) from by omega]
  exact Nat.testBit_two_pow_sub_succ (show m < 2 ^ 8 from hm) j
theorem mixB_bit (c g m : Nat) (hm : m < 256) (j : Nat) : (mixB c g m).testBit j = ((c.testBit j && (decide (j < 8) && !m.testBit j)) || (g.testBit j && m.testBit j)) := by
  unfold mixB
  rw [Nat.testBit_or, Nat.testBit_and, Nat.testBit_and, sub255 m hm]
theorem mixB_lt (c g m : Nat) (hg : g < 256) : mixB c g m < 256 :=
  Nat.or_lt_two_pow (n := 8) (Nat.and_lt_two_pow _ (show 255 - m < 2 ^ 8 by omega)) (Nat.lt_of_le_of_lt Nat.and_le_left hg)
theorem mixB_zero (c g : Nat) (hc : c < 256) : mixB c g 0 = c := by
  unfold mixB
  rw [Nat.and_zero, Nat.or_zero]
  have := Nat.and_two_pow_sub_one_eq_mod c 8
  simp only [Nat.reducePow, Nat.reduceSub] at this
  rw [show 255 - 0 = 255 from rfl, this]
  omega
theorem mixB_full (c g : Nat) (hg : g < 256) : mixB c g 255 = g := by
  unfold mixB
  rw [show 255 - 255 = 0 from rfl, Nat.and_zero, Nat.zero_or]
  have := Nat.and_two_pow_sub_one_eq_mod g 8
  simp only [Nat.reducePow, Nat.reduceSub] at this
  rw [this]
  omega
/-- The bits below j+1, bit by bit. -/
theorem mixB_step (c g m j : Nat) (_hc : c < 256) (hg : g < 256) (hj : j < 8) :
    mixB c g (m % 2 ^ (j + 1)) = if m.testBit j then ((mixB c g (m % 2 ^ j) &&& (255 - 2 ^ j)) ||| (g &&& 2 ^ j)) else mixB c g (m % 2 ^ j) := by
  have p1 : 2 ^ (j + 1) ≤ 2 ^ 8 := Nat.pow_le_pow_right (by omega) (by omega)
  have p2 : 2 ^ j < 2 ^ 8 := Nat.pow_lt_pow_right (by omega) hj
  have m1 : m % 2 ^ (j + 1) < 256 := Nat.lt_of_lt_of_le (Nat.mod_lt _ (Nat.two_pow_pos _)) p1
  have m2 : m % 2 ^ j < 256 := Nat.lt_of_lt_of_le (Nat.mod_lt _ (Nat.two_pow_pos _)) (Nat.le_of_lt p2)
  have hr : (if m.testBit j then ((mixB c g (m % 2 ^ j) &&& (255 - 2 ^ j)) ||| (g &&& 2 ^ j)) else mixB c g (m % 2 ^ j)) < 256 := by
    split
    · exact Nat.or_lt_two_pow (n := 8) (Nat.and_lt_two_pow _ (show 255 - 2 ^ j < 2 ^ 8 by omega)) (Nat.lt_of_le_of_lt Nat.and_le_left hg)
    · exact mixB_lt _ _ _ hg
  refine eq_of_bits _ _ (mixB_lt _ _ _ hg) hr fun i hi => ?_
  rw [mixB_bit _ _ _ m1]
  have t1 : (m % 2 ^ (j + 1)).testBit i = (decide (i < j + 1) && m.testBit i) := Nat.testBit_mod_two_pow m (j + 1) i
  have t2 : (m % 2 ^ j).testBit i = (decide (i < j) && m.testBit i) := Nat.testBit_mod_two_pow m j i
  have t3 : (2 ^ j).testBit i = decide (j = i) := Nat.testBit_two_pow
  by_cases hb : m.testBit j = true
  · rw [if_pos hb, Nat.testBit_or, Nat.testBit_and, Nat.testBit_and, mixB_bit _ _ _ m2, sub255 _ p2, t1, t2, t3]
    rcases Nat.lt_trichotomy i j with h | h | h
    · have h1 : ¬ j = i := by omega
      have h2 : i < j + 1 := by omega
      simp [h, h1, h2, hi]
    · subst h
      simp [hb]
    · have h1 : ¬ j = i := by omega
      have h2 : ¬ i < j + 1 := by omega
      have h3 : ¬ i < j := by omega
      simp [h1, h2, h3, hi]
  · rw [if_neg hb, mixB_bit _ _ _ m2, t1, t2]
    have hb' : m.testBit j = false := by simpa using hb
    rcases Nat.lt_trichotomy i j with h | h | h
    · have h2 : i < j + 1 := by omega
      simp [h, h2]
    · subst h
      simp [hb']
    · have h2 : ¬ i < j + 1 := by omega
      have h3 : ¬ i < j := by omega
      simp [h2, h3]

theorem mixF_length (m : Nat → Nat) (c g : List Nat) : (mixF m c g).length = c.length := by simp [mixF]
theorem mixF_bytes (m : Nat → Nat) (c g : List Nat) (hg : IsBytes g) : IsBytes (mixF m c g) := by
  intro x hx
  obtain ⟨i, _, rfl⟩ := List.mem_map.1 hx
  refine mixB_lt _ _ _ ?_
  rw [List.getD_eq_getElem?_getD]
  cases h : g[i]? with
  | none => simp
  | some y => exact hg y (List.mem_of_getElem? h)
theorem mixF_get (m : Nat → Nat) (c g : List Nat) (i : Nat) (hi : i < c.length) : (mixF m c g)[i]? = some (mixB (c.getD i 0) (g.getD i 0) (m i)) := by
  simp [mixF, hi]
theorem mixF_full (c g : List Nat) (h : c.length = g.length) (hg : IsBytes g) : mixF (fun _ => 255) c g = g := by
  apply List.ext_getElem?
  intro i
  rcases Nat.lt_or_ge i c.length with hi | hi
  · rw [mixF_get _ _ _ _ hi, List.getD_eq_getElem?_getD, List.getD_eq_getElem?_getD, List.getElem?_eq_getElem (show i < g.length by omega)]
    simp only [Option.getD_some]
    rw [mixB_full _ _ (hg _ (List.getElem_mem _))]
  · rw [List.getElem?_eq_none (by rw [mixF_length]; exact hi), List.getElem?_eq_none (by omega)]
theorem mixF_none (c g : List Nat) (hc : IsBytes c) : mixF (maskF []) c g = c := by
  apply List.ext_getElem?
  intro i
  rcases Nat.lt_or_ge i c.length with hi | hi
  · rw [mixF_get _ _ _ _ hi, List.getD_eq_getElem?_getD, List.getElem?_eq_getElem hi]
    simp only [Option.getD_some]
    rw [show maskF [] i = 0 from rfl, mixB_zero _ _ (hc _ (List.getElem_mem _))]
  · rw [List.getElem?_eq_none (by rw [mixF_length]; exact hi), List.getElem?_eq_none hi]
/-- What a struck program or erase leaves has a 1 wherever both have one .. -/
theorem maskF_lt (l : List Nat) (hl : IsBytes l) (i : Nat) : maskF l i < 256 := by
  unfold maskF
  rw [List.getD_eq_getElem?_getD]
  cases h : l[i % l.length]? with
  | none => simp
  | some y => exact hl y (List.mem_of_getElem? h)

/-- A hit. -/
structure Hit where
  after : Nat
  fails : Bool
  mask : List Nat

/-- A chip. -/
structure CSt where
  nb : Nat
  np : Nat
  nz : Nat
  ns : Nat
  by_ : List Nat
  bad : List Bool
  hits : List Hit
  since : Nat
  dead : Bool
  deeds : Nat

def geoOk (a b c d : Int) : Prop := (8 ≤ a ∧ a ≤ 64) ∧ (4 ≤ b ∧ b ≤ 32) ∧ (128 ≤ c ∧ c ≤ 256) ∧ 0 ≤ d ∧ d ≤ 4
instance (a b c d : Int) : Decidable (geoOk a b c d) := by unfold geoOk; infer_instance

structure HitOk (h : Hit) : Prop where
  after : h.after ≤ 9223372036854775807
  bytes : IsBytes h.mask
  len : h.mask.length ≤ 140737488351232

/-- What holds of every chip. -/
structure CSt.Ok (s : CSt) : Prop where
  nb1 : 8 ≤ s.nb
  nb2 : s.nb ≤ 64
  np1 : 4 ≤ s.np
  np2 : s.np ≤ 32
  nz1 : 128 ≤ s.nz
  nz2 : s.nz ≤ 256
  ns : s.ns ≤ 4
  len : s.by_.length = s.nb * s.np * s.nz
  bytes : IsBytes s.by_
  badl : s.bad.length = s.nb
  hits : ∀ h ∈ s.hits, HitOk h
  since : s.since ≤ 9223372036854775807
  deeds : s.deeds ≤ 4611686018427387904

theorem prod_le {a b c : Nat} (ha : a ≤ 64) (hb : b ≤ 32) (hc : c ≤ 256) : a * b * c ≤ 524288 := by
  have h1 : a * b ≤ 64 * 32 := Nat.mul_le_mul ha hb
  have h2 := Nat.mul_le_mul h1 hc
  omega
theorem CSt.Ok.size {s : CSt} (h : s.Ok) : s.by_.length ≤ 524288 := by rw [h.len]; exact prod_le h.nb2 h.np2 h.nz2

def there (s : CSt) (b p : Int) : Prop := (0 ≤ b ∧ b < s.nb) ∧ 0 ≤ p ∧ p < s.np
instance (s : CSt) (b p : Int) : Decidable (there s b p) := by unfold there; infer_instance
/-- Why nothing can be asked of a page. -/
def refE (s : CSt) (b p : Int) : Int := if s.dead = true then 10 else if there s b p then 0 else 2
/-- Where a page begins. -/
def offP (s : CSt) (b p : Int) : Nat := (b.toNat * s.np + p.toNat) * s.nz
def pgL (s : CSt) (b p : Int) : List Nat := (s.by_.drop (offP s b p)).take s.nz
/-- The page and those behind it in its block. -/
def tailL (s : CSt) (b p : Int) : List Nat := (s.by_.drop (offP s b p)).take ((s.np - p.toNat) * s.nz)

def deedE (s : CSt) : Int := match s.hits with | [] => 0 | h :: _ => if s.since < h.after then 0 else if h.fails = true then 9 else 10
def deedS (s : CSt) (block off : Nat) (goal : List Nat) : CSt :=
  match s.hits with
  | [] => { s with deeds := s.deeds + 1, by_ := lay s.by_ off goal }
  | h :: t =>
    if s.since < h.after then { s with deeds := s.deeds + 1, since := s.since + 1, by_ := lay s.by_ off goal }
    else { s with deeds := s.deeds + 1, hits := t, since := 0, by_ := lay s.by_ off (mixF (maskF h.mask) ((s.by_.drop off).take goal.length) goal), bad := if h.fails = true then s.bad.set block true else s.bad, dead := !h.fails }

def badAt (s : CSt) (b : Nat) : Bool := s.bad.getD b false
def readE (s : CSt) (b p : Int) : Int := refE s b p
def readL (s : CSt) (b p : Int) : List Nat := if refE s b p = 0 then pgL s b p else []
/-- Why a program is refused ahead of all, 0: it is not. -/
def progR (s : CSt) (b p : Int) (n : Nat) : Int :=
  if refE s b p ≠ 0 then refE s b p else if n ≠ s.nz then 2 else if badAt s b.toNat = true then 9 else if blank (tailL s b p) = true then 0 else 8
def progE (s : CSt) (b p : Int) (l : List Nat) : Int := if progR s b p l.length = 0 then deedE s else progR s b p l.length
def progS (s : CSt) (b p : Int) (l : List Nat) : CSt := if progR s b p l.length = 0 then deedS s b.toNat (offP s b p) l else s
def erasR (s : CSt) (b : Int) : Int := if refE s b 0 ≠ 0 then refE s b 0 else if badAt s b.toNat = true then 9 else 0
def ones (s : CSt) : List Nat := List.replicate (s.np * s.nz) 255
def erasE (s : CSt) (b : Int) : Int := if erasR s b = 0 then deedE s else erasR s b
def erasS (s : CSt) (b : Int) : CSt := if erasR s b = 0 then deedS s b.toNat (offP s b 0) (ones s) else s
/-- A hit as it is handed in. -/
structure HitI where
  after : Int
  fails : Bool
  mask : List Nat
def HitI.hit (h : HitI) : Hit := ⟨h.after.toNat, h.fails, h.mask⟩
def hitsE (l : List HitI) : Int := if ∀ h ∈ l, 0 ≤ h.after then 0 else 2
def hitsS (s : CSt) (l : List HitI) : CSt := if ∀ h ∈ l, 0 ≤ h.after then { s with hits := l.map HitI.hit, since := 0 } else s
def powS (s : CSt) : CSt := { s with hits := [], since := 0, dead := false, deeds := 0 }
def newS (a b c d : Nat) : CSt := { nb := a, np := b, nz := c, ns := d, by_ := List.replicate (a * b * c) 255, bad := List.replicate a false, hits := [], since := 0, dead := false, deeds := 0 }

theorem lay_bytes (c : List Nat) (off : Nat) (k : List Nat) (hc : IsBytes c) (hk : IsBytes k) : IsBytes (lay c off k) := by
  intro x hx
  unfold lay at hx
  rcases List.mem_append.1 hx with h | h
  · exact hc x (List.mem_of_mem_take h)
  · rcases List.mem_append.1 h with h | h
    · exact hk x h
    · exact hc x (List.mem_of_mem_drop h)
theorem rep_bytes (n : Nat) : IsBytes (List.replicate n 255) := fun x hx => by have := List.eq_of_mem_replicate hx; omega

theorem deedS_ok (s : CSt) (block off : Nat) (goal : List Nat) (h : s.Ok) (hg : IsBytes goal) (hf : off + goal.length ≤ s.by_.length) (hd : s.deeds < 4611686018427387904) : (deedS s block off goal).Ok := by
  have hlen : ((s.by_.drop off).take goal.length).length = goal.length := by simp; omega
  unfold deedS
  split
  · exact { h with len := by rw [lay_length _ _ _ hf]; exact h.len, bytes := lay_bytes _ _ _ h.bytes hg, deeds := hd }
  · rename_i h' t e
    split
    · rename_i hs
      have := (h.hits h' (by rw [e]; simp)).after
      exact { h with len := by rw [lay_length _ _ _ hf]; exact h.len, bytes := lay_bytes _ _ _ h.bytes hg, deeds := hd, since := by show s.since + 1 ≤ _; omega }
    · refine { h with len := ?_, bytes := lay_bytes _ _ _ h.bytes (mixF_bytes _ _ _ hg), deeds := hd, since := by simp, hits := fun x hx => h.hits x (by rw [e]; exact List.mem_cons_of_mem _ hx), badl := ?_ }
      · show (lay s.by_ off _).length = _
        rw [lay_length _ _ _ (by rw [mixF_length, hlen]; exact hf)]
        exact h.len
      · show (if _ then _ else _ : List Bool).length = _
        split
        · rw [List.length_set]; exact h.badl
        · exact h.badl

theorem off_fit (s : CSt) (h : s.Ok) (b p : Int) (ht : there s b p) : offP s b p + (s.np - p.toNat) * s.nz ≤ s.by_.length ∧ s.nz ≤ (s.np - p.toNat) * s.nz ∧ offP s b p + s.nz ≤ s.by_.length := by
  unfold there at ht
  rw [h.len]
  unfold offP
  obtain ⟨b', rfl⟩ : ∃ b' : Nat, b = b' := ⟨b.toNat, by omega⟩
  obtain ⟨p', rfl⟩ : ∃ p' : Nat, p = p' := ⟨p.toNat, by omega⟩
  simp only [Int.toNat_natCast]
  have hb : b' + 1 ≤ s.nb := by omega
  have hp : p' < s.np := by omega
  have e1 : b' * s.np + p' + (s.np - p') = (b' + 1) * s.np := by rw [Nat.add_mul]; omega
  have h1 : (b' * s.np + p') * s.nz + (s.np - p') * s.nz = (b' + 1) * s.np * s.nz := by rw [← Nat.add_mul, e1]
  have h2 : (b' + 1) * s.np * s.nz ≤ s.nb * s.np * s.nz := Nat.mul_le_mul_right _ (Nat.mul_le_mul_right _ hb)
  have h3 : 1 * s.nz ≤ (s.np - p') * s.nz := Nat.mul_le_mul_right _ (by omega)
  omega
theorem pg_len (s : CSt) (h : s.Ok) (b p : Int) (ht : there s b p) : (pgL s b p).length = s.nz := by
  have := off_fit s h b p ht
  simp [pgL]; omega
theorem pg_bytes (s : CSt) (h : s.Ok) (b p : Int) : IsBytes (pgL s b p) := fun x hx => h.bytes x (List.mem_of_mem_drop (List.mem_of_mem_take hx))

/-- A struck deed refuses what was struck, or all. -/
theorem deedE_zero (s : CSt) : (deedE s = 0) ∨ deedE s = 9 ∨ deedE s = 10 := by
  unfold deedE
  split
  · exact .inl rfl
  · split
    · exact .inl rfl
    · split
      · exact .inr (.inl rfl)
      · exact .inr (.inr rfl)
theorem refE_ok {s : CSt} {b p : Int} (h : refE s b p = 0) : s.dead = false ∧ there s b p := by
  unfold refE at h
  split at h
  · cases h
  · rename_i h1
    split at h
    · rename_i h2
      exact ⟨by simpa using h1, h2⟩
    · cases h
theorem progR_ok {s : CSt} {b p : Int} {n : Nat} (h : progR s b p n = 0) : refE s b p = 0 ∧ n = s.nz ∧ badAt s b.toNat = false ∧ blank (tailL s b p) = true := by
  unfold progR at h
  split at h
  · rename_i h1; exact absurd h h1
  · rename_i h1
    split at h
    · cases h
    · rename_i h2
      split at h
      · cases h
      · rename_i h3
        split at h
        · rename_i h4
          exact ⟨by simpa using h1, by simpa using h2, by simpa using h3, h4⟩
        · cases h
theorem erasR_ok {s : CSt} {b : Int} (h : erasR s b = 0) : refE s b 0 = 0 ∧ badAt s b.toNat = false := by
  unfold erasR at h
  split at h
  · rename_i h1; exact absurd h h1
  · rename_i h1
    split at h
    · cases h
    · rename_i h3
      exact ⟨by simpa using h1, by simpa using h3⟩
theorem ones_len (s : CSt) : (ones s).length = s.np * s.nz := by simp [ones]
theorem progS_ok (s : CSt) (b p : Int) (l : List Nat) (h : s.Ok) (hl : IsBytes l) (hd : s.deeds < 4611686018427387904) : (progS s b p l).Ok := by
  unfold progS
  split
  · rename_i h1
    obtain ⟨h2, h3, _⟩ := progR_ok h1
    exact deedS_ok s _ _ l h hl (by rw [h3]; exact (off_fit s h b p (refE_ok h2).2).2.2) hd
  · exact h
theorem erasS_ok (s : CSt) (b : Int) (h : s.Ok) (hd : s.deeds < 4611686018427387904) : (erasS s b).Ok := by
  unfold erasS
  split
  · rename_i h1
    have h2 := (refE_ok (erasR_ok h1).1).2
    have := (off_fit s h b 0 h2).1
    exact deedS_ok s _ _ _ h (rep_bytes _) (by rw [ones_len]; simpa using this) hd
  · exact h
theorem newS_ok (a b c d : Nat) (h : geoOk a b c d) : (newS a b c d).Ok := by
  unfold geoOk at h
  exact { nb1 := by show 8 ≤ a; omega, nb2 := by show a ≤ 64; omega, np1 := by show 4 ≤ b; omega, np2 := by show b ≤ 32; omega, nz1 := by show 128 ≤ c; omega, nz2 := by show c ≤ 256; omega, ns := by show d ≤ 4; omega,
          len := by simp [newS], bytes := rep_bytes _, badl := by simp [newS], hits := by simp [newS], since := by simp [newS], deeds := by simp [newS] }
theorem powS_ok (s : CSt) (h : s.Ok) : (powS s).Ok := { h with hits := by simp [powS], since := by simp [powS], deeds := by simp [powS] }

/-- A hit as it may be handed in. -/
structure HitIOk (h : HitI) : Prop where
  after : h.after ≤ 9223372036854775807
  low : -9223372036854775808 ≤ h.after
  bytes : IsBytes h.mask
  len : h.mask.length ≤ 140737488351232
theorem hitsS_ok (s : CSt) (l : List HitI) (h : s.Ok) (hl : ∀ x ∈ l, HitIOk x) : (hitsS s l).Ok := by
  unfold hitsS
  split
  · refine { h with hits := ?_, since := by simp }
    intro x hx
    obtain ⟨y, hy, rfl⟩ := List.mem_map.1 hx
    have := hl y hy
    exact ⟨by have := this.after; show y.after.toNat ≤ _; omega, this.bytes, this.len⟩
  · exact h
end Go.Proofs.YtgfdiboaiifdnaaGreat
