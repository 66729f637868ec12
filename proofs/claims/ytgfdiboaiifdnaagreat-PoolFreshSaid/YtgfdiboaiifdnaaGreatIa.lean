/-
  What a deed of the chip leaves, page by page (no program): the pages that it does not reach stay; what is erased, or programmed into blank bytes, is under what was, or under what was to be.
  Heads and torn pages (no program): what a chip's first pages say, whatever is erased or programmed; and how one deed of the chip changes what is looked at.
  A pool that agrees with its chip (no program): what is looked at behind each deed; what Take and Free do to both.
  What Take and Free answer and leave (no program): the pool agrees with its chip behind each, as long as that is alive.
  What a pool tells, sorted (no program): the list of taken blocks is that of the chip, by rising Seq, however it is sorted; the scan of a living chip is good.
  The reference's reading of a chip: Head; is the chip alive; pieces of rows.
  The reference's Taken.
  The reference's Blanks and Last.
  What a pool tells is what is read of its chip (same).
-/
import Derived.Test.YtgfdiboaiifdnaaGreatGr
import Derived.Lib.Builder
namespace Go.Proofs.YtgfdiboaiifdnaaGreat

section

/-- A piece of bytes. -/
def sl (c : List Nat) (o n : Nat) : List Nat := (c.drop o).take n

theorem sl_get (c : List Nat) (o n k : Nat) (hk : k < n) : (sl c o n)[k]? = c[o + k]? := by
  unfold sl
  rw [List.getElem?_take, if_pos hk, List.getElem?_drop]

theorem sl_len (c : List Nat) (o n : Nat) (h : o + n ≤ c.length) : (sl c o n).length = n := by
  unfold sl
  rw [List.length_take, List.length_drop]
  omega

theorem sl_ext (c d : List Nat) (o p n : Nat) (hc : o + n ≤ c.length) (hd : p + n ≤ d.length) (h : ∀ k, k < n → c[o + k]? = d[p + k]?) : sl c o n = sl d p n := by
  apply List.ext_getElem?
  intro k
  by_cases hk : k < n
  · rw [sl_get _ _ _ _ hk, sl_get _ _ _ _ hk, h k hk]
  · rw [List.getElem?_eq_none (by rw [sl_len _ _ _ hc]; omega), List.getElem?_eq_none (by rw [sl_len _ _ _ hd]; omega)]

theorem lay_at (c M : List Nat) (off : Nat) (h : off + M.length ≤ c.length) (j : Nat) : (lay c off M)[j]? = if off ≤ j ∧ j < off + M.length then M[j - off]? else c[j]? := by
  unfold lay
  by_cases h1 : j < off
  · rw [if_neg (by omega), List.getElem?_append_left (by rw [List.length_take]; omega), List.getElem?_take, if_pos h1]
  · by_cases h2 : j < off + M.length
    · rw [if_pos ⟨by omega, h2⟩, List.getElem?_append_right (by rw [List.length_take]; omega), List.length_take, Nat.min_eq_left (by omega), List.getElem?_append_left (by omega)]
    · rw [if_neg (by omega), List.getElem?_append_right (by rw [List.length_take]; omega), List.length_take, Nat.min_eq_left (by omega), List.getElem?_append_right (by omega), List.getElem?_drop]
      congr 1
      omega

theorem sl_lay_in (c M : List Nat) (off o n : Nat) (h : off + M.length ≤ c.length) (h1 : off ≤ o) (h2 : o + n ≤ off + M.length) : sl (lay c off M) o n = sl M (o - off) n := by
  apply sl_ext
  · rw [lay_length _ _ _ h]; omega
  · omega
  · intro k hk
    rw [lay_at c M off h, if_pos ⟨by omega, by omega⟩]
    congr 1
    omega

theorem sl_lay_out (c M : List Nat) (off o n : Nat) (h : off + M.length ≤ c.length) (h1 : o + n ≤ off ∨ off + M.length ≤ o) (h2 : o + n ≤ c.length) : sl (lay c off M) o n = sl c o n := by
  apply sl_ext
  · rw [lay_length _ _ _ h]; omega
  · omega
  · intro k hk
    rw [lay_at c M off h, if_neg (by omega)]

/-- What a deed leaves of the bytes. -/
theorem deedS_in (s : CSt) (b off : Nat) (goal : List Nat) (ok : s.Ok) (hg : IsBytes goal) (hf : off + goal.length ≤ s.by_.length) :
    ∃ m : Nat → Nat, (∀ i, m i < 256) ∧ (deedS s b off goal).by_ = lay s.by_ off (mixF m (sl s.by_ off goal.length) goal) ∧ (deedE s = 0 → m = fun _ => 255) := by
  have hlen := sl_len s.by_ off goal.length hf
  have hfull : mixF (fun _ => 255) (sl s.by_ off goal.length) goal = goal := mixF_full _ _ hlen hg
  cases hh : s.hits with
  | nil =>
    refine ⟨fun _ => 255, fun _ => (by decide : 255 < 256), ?_, fun _ => rfl⟩
    unfold deedS
    rw [hh, hfull]
  | cons x t =>
    by_cases hs : s.since < x.after
    · refine ⟨fun _ => 255, fun _ => (by decide : 255 < 256), ?_, fun _ => rfl⟩
      unfold deedS
      rw [hh]
      simp only
      rw [if_pos hs, hfull]
    · refine ⟨maskF x.mask, maskF_lt _ (ok.hits x (by rw [hh]; simp)).bytes, ?_, fun e => ?_⟩
      · unfold deedS
        rw [hh]
        simp only
        rw [if_neg hs]
        rfl
      · unfold deedE at e
        rw [hh] at e
        simp only at e
        rw [if_neg hs] at e
        split at e <;> simp at e

theorem deedS_dead (s : CSt) (b off : Nat) (goal : List Nat) (h : s.dead = false) : (deedS s b off goal).dead = decide (deedE s = 10) := by
  unfold deedS deedE
  cases s.hits with
  | nil => simp [h]
  | cons x t =>
    simp only
    split
    · simp [h]
    · cases x.fails <;> simp

theorem deedS_badAt (s : CSt) (b off : Nat) (goal : List Nat) (hb : b < s.bad.length) (j : Nat) : badAt (deedS s b off goal) j = (badAt s j || decide (deedE s = 9 ∧ j = b)) := by
  unfold deedS deedE badAt
  cases s.hits with
  | nil => simp
  | cons x t =>
    simp only
    split
    · simp
    · cases x.fails with
      | false => simp
      | true =>
        simp only [if_true, List.getD_eq_getElem?_getD, List.getElem?_set]
        by_cases e : b = j
        · subst e; simp [hb]
        · rw [if_neg e]
          simp [Ne.symm e]

/-- Where a page begins, in numbers. -/
theorem pgL_sl (s : CSt) (i q : Nat) : pgL s i q = sl s.by_ ((i * s.np + q) * s.nz) s.nz := by unfold pgL offP sl; simp

theorem page_before {np nz i q b : Nat} (hq : q < np) (h : i < b) : (i * np + q) * nz + nz ≤ b * np * nz := by
  have h1 : i * np + q + 1 ≤ b * np := by
    have : (i + 1) * np ≤ b * np := Nat.mul_le_mul_right _ h
    rw [Nat.add_mul] at this
    omega
  have h2 := Nat.mul_le_mul_right nz h1
  rw [Nat.add_mul (i * np + q) 1 nz, Nat.one_mul] at h2
  exact h2
theorem page_behind {np nz i q b : Nat} (h : b < i) : b * np * nz + np * nz ≤ (i * np + q) * nz := by
  have h1 : b * np + np ≤ i * np + q := by
    have : (b + 1) * np ≤ i * np := Nat.mul_le_mul_right _ h
    rw [Nat.add_mul] at this
    omega
  have h2 := Nat.mul_le_mul_right nz h1
  rw [Nat.add_mul] at h2
  exact h2
theorem page_fit {np nz nb i q : Nat} (hi : i < nb) (hq : q < np) : (i * np + q) * nz + nz ≤ nb * np * nz := page_before hq hi

theorem eras_pg (s : CSt) (b : Nat) (ok : s.Ok) (hb : b < s.nb) (hR : erasR s b = 0) :
    (∀ i q, i < s.nb → q < s.np → i ≠ b → pgL (erasS s b) i q = pgL s i q) ∧
    (∀ q, q < s.np → unders (pgL (erasS s b) b q) (pgL s b q) = true) ∧
    (erasE s b = 0 → ∀ q, q < s.np → pgL (erasS s b) b q = List.replicate s.nz 255) := by
  have h2 : offP s b 0 = b * s.np * s.nz := by unfold offP; simp
  have hS : erasS s b = deedS s b (b * s.np * s.nz) (ones s) := by unfold erasS; rw [if_pos hR, h2]; simp
  have hE : erasE s b = deedE s := by unfold erasE; rw [if_pos hR]
  have hfit : b * s.np * s.nz + (ones s).length ≤ s.by_.length := by
    rw [ones_len, ok.len]
    have : (b + 1) * s.np ≤ s.nb * s.np := Nat.mul_le_mul_right _ hb
    have h3 := Nat.mul_le_mul_right s.nz this
    rw [Nat.add_mul b 1, Nat.one_mul, Nat.add_mul] at h3
    exact h3
  obtain ⟨m, hm, hby, hz⟩ := deedS_in s b (b * s.np * s.nz) (ones s) ok (rep_bytes _) hfit
  obtain ⟨g1, g2, g3, _⟩ := deedS_geo s b (b * s.np * s.nz) (ones s)
  have hml : (mixF m (sl s.by_ (b * s.np * s.nz) (ones s).length) (ones s)).length = s.np * s.nz := by rw [mixF_length, sl_len _ _ _ hfit, ones_len]
  have hfit2 : b * s.np * s.nz + (mixF m (sl s.by_ (b * s.np * s.nz) (ones s).length) (ones s)).length ≤ s.by_.length := by rw [hml, ← ones_len s]; exact hfit
  have hin : ∀ q, q < s.np → q * s.nz + s.nz ≤ s.np * s.nz := fun q hq => by
    have := Nat.mul_le_mul_right s.nz (show q + 1 ≤ s.np from hq)
    rw [Nat.add_mul, Nat.one_mul] at this
    exact this
  have hoff : ∀ q, (b * s.np + q) * s.nz = b * s.np * s.nz + q * s.nz := fun q => Nat.add_mul _ _ _
  have hpg : ∀ q, q < s.np → pgL (erasS s b) b q = sl (mixF m (sl s.by_ (b * s.np * s.nz) (ones s).length) (ones s)) (q * s.nz) s.nz := fun q hq => by
    rw [pgL_sl, hS, g2, g3, hby, sl_lay_in _ _ _ _ _ hfit2 (by rw [hoff]; omega) (by rw [hoff, hml]; have := hin q hq; omega)]
    congr 1
    rw [hoff]
    omega
  refine ⟨fun i q hi hq hne => ?_, fun q hq => ?_, fun h0 q hq => ?_⟩
  · rw [pgL_sl, pgL_sl, hS, g2, g3, hby]
    apply sl_lay_out _ _ _ _ _ hfit2
    · rw [hml]
      rcases Nat.lt_or_gt_of_ne hne with h | h
      · exact .inl (page_before hq h)
      · exact .inr (page_behind h)
    · rw [ok.len]; exact page_fit hi hq
  · rw [hpg q hq, pgL_sl]
    have hi1 := hin q hq
    have hb1 : (b * s.np + q) * s.nz + s.nz ≤ s.by_.length := by rw [ok.len]; exact page_fit hb hq
    refine (unders_iff _ _ (by rw [sl_len _ _ _ (by rw [hml]; exact hi1), sl_len _ _ _ hb1])).2 fun k x y hx hy => ?_
    have hk : k < s.nz := by
      have := (List.getElem?_eq_some_iff.1 hy).1
      rwa [sl_len _ _ _ hb1] at this
    rw [sl_get _ _ _ _ hk] at hx hy
    rw [mixF_get _ _ _ _ (by rw [sl_len _ _ _ hfit, ones_len]; omega)] at hx
    injection hx with hx
    have e1 : (sl s.by_ (b * s.np * s.nz) (ones s).length).getD (q * s.nz + k) 0 = y := by
      rw [List.getD_eq_getElem?_getD, sl_get _ _ _ _ (by rw [ones_len]; omega), ← Nat.add_assoc, ← hoff, hy]
      rfl
    have e2 : (ones s).getD (q * s.nz + k) 0 = 255 := by
      unfold ones
      rw [List.getD_eq_getElem?_getD, List.getElem?_replicate, if_pos (by omega)]
      rfl
    rw [← hx, e1, e2]
    exact under_keep y _ (ok.bytes y (List.mem_of_getElem? hy)) (hm _)
  · rw [hE] at h0
    have hm0 := hz h0
    rw [hpg q hq, hm0, mixF_full _ _ (sl_len _ _ _ hfit) (rep_bytes _)]
    have hi1 := hin q hq
    apply List.ext_getElem?
    intro k
    by_cases hk : k < s.nz
    · rw [sl_get _ _ _ _ hk, List.getElem?_replicate, if_pos hk]
      unfold ones
      rw [List.getElem?_replicate, if_pos (by omega)]
    · rw [List.getElem?_eq_none (by rw [sl_len _ _ _ (by rw [ones_len]; exact hi1)]; omega), List.getElem?_eq_none (by rw [List.length_replicate]; omega)]

theorem prog_pg (s : CSt) (b p : Nat) (l : List Nat) (ok : s.Ok) (hl : IsBytes l) (hb : b < s.nb) (hp : p < s.np) (hR : progR s b p l.length = 0) :
    (∀ i q, i < s.nb → q < s.np → (i ≠ b ∨ q ≠ p) → pgL (progS s b p l) i q = pgL s i q) ∧
    pgL s b p = List.replicate s.nz 255 ∧ unders (pgL (progS s b p l) b p) l = true ∧
    (progE s b p l = 0 → pgL (progS s b p l) b p = l) := by
  have h2 : offP s b p = (b * s.np + p) * s.nz := by unfold offP; simp
  obtain ⟨hr0, hln, _, hbl⟩ := progR_ok hR
  have hS : progS s b p l = deedS s b ((b * s.np + p) * s.nz) l := by unfold progS; rw [if_pos hR, h2]; simp
  have hE : progE s b p l = deedE s := by unfold progE; rw [if_pos hR]
  have hfit : (b * s.np + p) * s.nz + l.length ≤ s.by_.length := by rw [hln, ok.len]; exact page_fit hb hp
  have hblank : pgL s b p = List.replicate s.nz 255 := by
    rw [pgL_sl]
    apply List.ext_getElem?
    intro k
    have hfit3 : (b * s.np + p) * s.nz + s.nz ≤ s.by_.length := by rw [hln] at hfit; exact hfit
    by_cases hk : k < s.nz
    · rw [sl_get _ _ _ _ hk, List.getElem?_replicate, if_pos hk]
      unfold blank tailL at hbl
      rw [List.all_eq_true] at hbl
      have hk2 : (b * s.np + p) * s.nz + k < s.by_.length := by omega
      rw [List.getElem?_eq_getElem hk2]
      have hmem : s.by_[(b * s.np + p) * s.nz + k] ∈ (s.by_.drop (offP s b p)).take ((s.np - (p : Int).toNat) * s.nz) := by
        apply List.mem_of_getElem? (i := k)
        have hpos : s.nz ≤ (s.np - (p : Int).toNat) * s.nz := by
          have := Nat.mul_le_mul_right s.nz (show 1 ≤ s.np - (p : Int).toNat by simp; omega)
          omega
        rw [List.getElem?_take, if_pos (by omega), List.getElem?_drop, h2, List.getElem?_eq_getElem hk2]
      have := hbl _ hmem
      rw [beq_iff_eq.1 this]
    · rw [List.getElem?_eq_none (by rw [sl_len _ _ _ hfit3]; omega), List.getElem?_eq_none (by rw [List.length_replicate]; omega)]
  obtain ⟨m, hm, hby, hz⟩ := deedS_in s b ((b * s.np + p) * s.nz) l ok hl hfit
  obtain ⟨g1, g2, g3, _⟩ := deedS_geo s b ((b * s.np + p) * s.nz) l
  have hml : (mixF m (sl s.by_ ((b * s.np + p) * s.nz) l.length) l).length = s.nz := by rw [mixF_length, sl_len _ _ _ hfit, hln]
  have hfit2 : (b * s.np + p) * s.nz + (mixF m (sl s.by_ ((b * s.np + p) * s.nz) l.length) l).length ≤ s.by_.length := by rw [hml]; have h9 := hfit; rw [hln] at h9; exact h9
  have hpg : pgL (progS s b p l) b p = mixF m (List.replicate s.nz 255) l := by
    rw [pgL_sl, hS, g2, g3, hby, sl_lay_in _ _ _ _ _ hfit2 (Nat.le_refl _) (by rw [hml]; exact Nat.le_refl _), Nat.sub_self, hln, ← pgL_sl, hblank]
    unfold sl
    rw [List.drop_zero, List.take_of_length_le (by rw [mixF_length, List.length_replicate]; exact Nat.le_refl _)]
  refine ⟨fun i q hi hq hne => ?_, hblank, ?_, fun h0 => ?_⟩
  · rw [pgL_sl, pgL_sl, hS, g2, g3, hby]
    apply sl_lay_out _ _ _ _ _ hfit2
    · rw [hml]
      have key : ∀ x y : Nat, x < y → x * s.nz + s.nz ≤ y * s.nz := fun x y h => by
        have := Nat.mul_le_mul_right s.nz (show x + 1 ≤ y from h)
        rwa [Nat.add_mul, Nat.one_mul] at this
      have hne2 : i * s.np + q < b * s.np + p ∨ b * s.np + p < i * s.np + q := by
        rcases Nat.lt_trichotomy i b with h | h | h
        · have : (i + 1) * s.np ≤ b * s.np := Nat.mul_le_mul_right _ h
          rw [Nat.add_mul] at this
          omega
        · subst h
          rcases hne with h | h
          · exact absurd rfl h
          · omega
        · have : (b + 1) * s.np ≤ i * s.np := Nat.mul_le_mul_right _ h
          rw [Nat.add_mul] at this
          omega
      rcases hne2 with h | h
      · exact .inl (key _ _ h)
      · exact .inr (key _ _ h)
    · rw [ok.len]; exact page_fit hi hq
  · rw [hpg]
    refine (unders_iff _ _ (by rw [mixF_length, List.length_replicate, hln])).2 fun k x y hx hy => ?_
    have hk : k < s.nz := by
      have := (List.getElem?_eq_some_iff.1 hy).1
      rwa [hln] at this
    rw [mixF_get _ _ _ _ (by rw [List.length_replicate]; exact hk)] at hx
    injection hx with hx
    have e1 : (List.replicate s.nz 255).getD k 0 = 255 := by rw [List.getD_eq_getElem?_getD, List.getElem?_replicate, if_pos hk]; rfl
    have e2 : l.getD k 0 = y := by rw [List.getD_eq_getElem?_getD, hy]; rfl
    rw [← hx, e1, e2]
    exact under_goal y _ (hl y (List.mem_of_getElem? hy)) (hm _)
  · rw [hE] at h0
    rw [hpg, hz h0, mixF_full _ _ (by rw [List.length_replicate, hln]) hl]

end

section

def okHd (k e q : Nat) : Prop := isHd k e q ∧ e < 4294967296 ∧ q < 18446744073709551616

theorem okHd.k256 {k e q : Nat} (h : okHd k e q) : k < 256 := by have := h.1.1; omega

theorem ph_ok {n k e q : Nat} (hn : isPg n) (h : okHd k e q) : phE n k e q = 0 ∧ phL n k e q = page n 1 (hdL k e q) := by
  have hl := hdL_length k e q
  have hn' := hn
  unfold isPg at hn'
  have hle : ((hdL k e q).length : Int) ≤ (n : Int) - 5 := by omega
  have hkd : isKd 1 := by unfold isKd; omega
  constructor
  · unfold phE sPutE
    rw [if_pos h.1, if_pos ⟨hn, hkd⟩, if_pos hle]
  · unfold phL sPutL
    rw [if_pos h.1, if_pos ⟨hn, hkd, hle⟩]
    simp

theorem ph_len {n k e q : Nat} (hn : isPg n) (h : okHd k e q) : (phL n k e q).length = n := by
  rw [(ph_ok hn h).2, page_length]
  have hl := hdL_length k e q
  unfold isPg at hn
  omega

theorem hd_bytes (k e q : Nat) (_ : k < 256) : IsBytes (hdL k e q) := by
  intro x hx
  unfold hdL at hx
  rcases List.mem_append.1 hx with h | h
  · rcases List.mem_append.1 h with h | h
    · exact leB_lt _ _ x h
    · exact leB_lt _ _ x h
  · exact leB_lt _ _ x h

theorem ph_bytes {n k e q : Nat} (hn : isPg n) (h : okHd k e q) : IsBytes (phL n k e q) := by
  rw [(ph_ok hn h).2]
  exact page_bytes n 1 _ (by omega) (hd_bytes k e q h.k256)

theorem ph_reads {n k e q : Nat} (hn : isPg n) (h : okHd k e q) : ghE (phL n k e q) = 0 ∧ ghK (phL n k e q) = k ∧ ghR (phL n k e q) = e ∧ ghS (phL n k e q) = q :=
  heads_back h.k256 h.2.1 h.2.2 (ph_ok hn h).1

/-- A page that was a head's, and has more bits that are 1; or blank. -/
def TornP (n : Nat) (r : List Nat) : Prop := ∃ k e q, okHd k e q ∧ unders r (phL n k e q) = true ∧ r ≠ phL n k e q

theorem torn_no {n : Nat} {r : List Nat} (hn : isPg n) (hr : IsBytes r) (h : TornP n r) : ghE r ≠ 0 := by
  obtain ⟨k, e, q, hh, hu, hne⟩ := h
  rw [(ph_ok hn hh).2] at hu hne
  have hl := hdL_length k e q
  have := (get_torn r n 1 (hdL k e q) hn (by unfold isKd; omega) (by unfold isPg at hn; omega) hr (hd_bytes k e q hh.k256) hu hne).1
  have hs : sGetE r ≠ 0 := by rcases this with h | h <;> omega
  unfold ghE
  rw [if_pos hs]
  exact hs

theorem unders_anti {a b : List Nat} (ha : IsBytes a) (hb : IsBytes b) (h1 : unders a b = true) (h2 : unders b a = true) : a = b := by
  have e1 := unders_noughts a b ha hb h1
  have e2 := unders_noughts b a hb ha h2
  exact e1.2 (by omega)

theorem torn_more {n : Nat} {r r' : List Nat} (hn : isPg n) (hr : IsBytes r) (hr' : IsBytes r') (h : TornP n r) (hu : unders r' r = true) : TornP n r' := by
  obtain ⟨k, e, q, hh, h1, h2⟩ := h
  have hb := ph_bytes hn hh
  refine ⟨k, e, q, hh, unders_trans r' r _ hr' hr hb hu h1, fun e1 => h2 ?_⟩
  subst e1
  exact unders_anti hr hb h1 hu

theorem head_more {n k e q : Nat} {r' : List Nat} (hh : okHd k e q) (hu : unders r' (phL n k e q) = true) : r' = phL n k e q ∨ TornP n r' := by
  by_cases h : r' = phL n k e q
  · exact .inl h
  · exact .inr ⟨k, e, q, hh, hu, h⟩

theorem blank_torn {n : Nat} (hn : isPg n) : TornP n (List.replicate n 255) := by
  have hh : okHd 1 1 1 := by unfold okHd isHd; omega
  have hb := ph_bytes hn hh
  have hl := ph_len hn hh
  refine ⟨1, 1, 1, hh, ?_, fun e => ?_⟩
  · refine (unders_iff _ _ (by rw [List.length_replicate, hl])).2 fun k x y hx hy => ?_
    rw [List.getElem?_replicate] at hx
    split at hx
    · injection hx with hx
      rw [← hx]
      have := under_goal y 0 (hb y (List.mem_of_getElem? hy)) (by omega)
      rwa [mixB_zero 255 y (by omega)] at this
    · cases hx
  · have h1 := (ph_reads hn hh).1
    rw [← e] at h1
    unfold ghE sGetE at h1
    have hbl : blank (List.replicate n 255) = true := by
      unfold blank
      rw [List.all_eq_true]
      intro x hx
      have := List.eq_of_mem_replicate hx
      simp [this]
    rw [List.length_replicate, if_pos hn, if_pos hbl] at h1
    simp at h1

theorem ok_pg {s : CSt} (ok : s.Ok) : isPg s.nz := by have := ok.nz1; have := ok.nz2; unfold isPg; omega

/-- What the first pages of a chip's blocks say: heads up to L, no two with one Seq; or nothing. -/
structure InvC (s : CSt) (L : Nat) : Prop where
  p0 : ∀ i, i < s.nb → TornP s.nz (pgL s i 0) ∨ ∃ k e q, okHd k e q ∧ pgL s i 0 = phL s.nz k e q ∧ q ≤ L
  ne : ∀ i j, i < s.nb → j < s.nb → i ≠ j → ghE (pgL s i 0) = 0 → ghE (pgL s j 0) = 0 → ghS (pgL s i 0) ≠ ghS (pgL s j 0)

theorem InvC.mono {s : CSt} {L L' : Nat} (h : InvC s L) (hL : L ≤ L') : InvC s L' :=
  ⟨fun i hi => (h.p0 i hi).imp id fun ⟨k, e, q, a, b, c⟩ => ⟨k, e, q, a, b, Nat.le_trans c hL⟩, h.ne⟩

theorem InvC.same {s s' : CSt} {L : Nat} (h : InvC s L) (hb : s'.nb = s.nb) (hz : s'.nz = s.nz) (hp : ∀ i : Nat, i < s.nb → pgL s' i 0 = pgL s i 0) : InvC s' L := by
  constructor
  · intro i hi
    rw [hb] at hi
    rw [hp i hi, hz]
    exact h.p0 i hi
  · intro i j hi hj
    rw [hb] at hi hj
    rw [hp i hi, hp j hj]
    exact h.ne i j hi hj

theorem InvC.seq {s : CSt} {L : Nat} (ok : s.Ok) (h : InvC s L) {i : Nat} (hi : i < s.nb) (h0 : ghE (pgL s i 0) = 0) : ∃ k e q, okHd k e q ∧ pgL s i 0 = phL s.nz k e q ∧ q ≤ L := by
  rcases h.p0 i hi with ht | h1
  · exact absurd h0 (torn_no (ok_pg ok) (pg_bytes s ok i 0) ht)
  · exact h1

/-- One block's first page changes, and says nothing more, or what it said. -/
theorem InvC.less {s s' : CSt} {L b : Nat} (ok : s.Ok) (ok' : s'.Ok) (h : InvC s L) (hnb : s'.nb = s.nb) (hz : s'.nz = s.nz) (hb : b < s.nb) (ho : ∀ i : Nat, i < s.nb → i ≠ b → pgL s' i 0 = pgL s i 0)
    (hu : unders (pgL s' b 0) (pgL s b 0) = true) : InvC s' L := by
  have hpg := ok_pg ok
  have key : TornP s.nz (pgL s' b 0) ∨ pgL s' b 0 = pgL s b 0 := by
    rcases h.p0 b hb with ht | ⟨k, e, q, hh, he, _⟩
    · exact .inl (torn_more hpg (pg_bytes s ok b 0) (pg_bytes s' ok' b 0) ht hu)
    · rw [he] at hu
      rcases head_more hh hu with h1 | h1
      · exact .inr (by rw [h1, he])
      · exact .inl h1
  have hsame : ∀ i : Nat, i < s.nb → ghE (pgL s' i 0) = 0 → pgL s' i 0 = pgL s i 0 := fun i hi h0 => by
    by_cases e : i = b
    · subst e
      rcases key with ht | h1
      · exact absurd h0 (torn_no hpg (pg_bytes s' ok' i 0) ht)
      · exact h1
    · exact ho i hi e
  constructor
  · intro i hi
    rw [hnb] at hi
    rw [hz]
    by_cases e : i = b
    · subst e
      rcases key with ht | h1
      · exact .inl ht
      · rw [h1]; exact h.p0 i hi
    · rw [ho i hi e]; exact h.p0 i hi
  · intro i j hi hj hne h1 h2
    rw [hnb] at hi hj
    have e1 := hsame i hi h1
    have e2 := hsame j hj h2
    rw [e1] at h1 ⊢
    rw [e2] at h2 ⊢
    exact h.ne i j hi hj hne h1 h2

/-- One block's first page, blank, becomes under a head's of a greater Seq. -/
theorem InvC.more {s s' : CSt} {L b k e : Nat} (ok : s.Ok) (ok' : s'.Ok) (h : InvC s L) (hnb : s'.nb = s.nb) (hz : s'.nz = s.nz) (hb : b < s.nb) (ho : ∀ i : Nat, i < s.nb → i ≠ b → pgL s' i 0 = pgL s i 0)
    (hh : okHd k e (L + 1)) (hu : unders (pgL s' b 0) (phL s.nz k e (L + 1)) = true) : InvC s' (L + 1) := by
  have hpg := ok_pg ok
  have key := head_more (n := s.nz) hh hu
  have hseq : ∀ i : Nat, i < s.nb → i ≠ b → ghE (pgL s' i 0) = 0 → ghS (pgL s' i 0) ≤ L := fun i hi hne h0 => by
    rw [ho i hi hne] at h0 ⊢
    obtain ⟨k', e', q', hh', he', hq'⟩ := h.seq ok hi h0
    rw [he', (ph_reads hpg hh').2.2.2]
    exact hq'
  have hb1 : ghE (pgL s' b 0) = 0 → ghS (pgL s' b 0) = L + 1 := fun h0 => by
    rcases key with h1 | ht
    · rw [h1, (ph_reads hpg hh).2.2.2]
    · exact absurd h0 (torn_no hpg (pg_bytes s' ok' b 0) ht)
  constructor
  · intro i hi
    rw [hnb] at hi
    rw [hz]
    by_cases e1 : i = b
    · subst e1
      rcases key with h1 | ht
      · exact .inr ⟨k, e, L + 1, hh, h1, Nat.le_refl _⟩
      · exact .inl ht
    · rw [ho i hi e1]
      exact (h.p0 i hi).imp id fun ⟨k, e, q, a, b, c⟩ => ⟨k, e, q, a, b, by omega⟩
  · intro i j hi hj hne h1 h2
    rw [hnb] at hi hj
    by_cases e1 : i = b
    · subst e1
      have := hseq j hj (Ne.symm hne) h2
      rw [hb1 h1]
      omega
    · by_cases e2 : j = b
      · subst e2
        have := hseq i hi hne h1
        rw [hb1 h2]
        omega
      · rw [ho i hi e1] at h1 ⊢
        rw [ho j hj e2] at h2 ⊢
        exact h.ne i j hi hj hne h1 h2

/-- How a deed on block b ends. -/
inductive Ends (er : Int) (s' : CSt) (b : Nat) : Prop where
  | good (h : er = 0) (hd : s'.dead = false) (hb : badAt s' b = false) : Ends er s' b
  | bad (h : er = 9) (hd : s'.dead = false) (hb : badAt s' b = true) : Ends er s' b
  | cut (h : er = 10) (hd : s'.dead = true) : Ends er s' b

theorem deed_ends (s : CSt) (b off : Nat) (goal : List Nat) (hd : s.dead = false) (hb : b < s.bad.length) (hbad : badAt s b = false) : Ends (deedE s) (deedS s b off goal) b := by
  have h1 := deedS_dead s b off goal hd
  have h2 := deedS_badAt s b off goal hb b
  rcases deedE_zero s with h | h | h
  · exact .good h (by rw [h1, h]; rfl) (by rw [h2, h, hbad]; rfl)
  · exact .bad h (by rw [h1, h]; rfl) (by rw [h2, h]; simp)
  · exact .cut h (by rw [h1, h]; rfl)

/-- All but block b, page by page, are as they were. -/
structure Keeps (s s' : CSt) (b : Nat) : Prop where
  nb : s'.nb = s.nb
  np : s'.np = s.np
  nz : s'.nz = s.nz
  ns : s'.ns = s.ns
  pg : ∀ i q, i < s.nb → q < s.np → i ≠ b → pgL s' i q = pgL s i q
  bad : ∀ i, i ≠ b → badAt s' i = badAt s i

theorem Keeps.refl (s : CSt) (b : Nat) : Keeps s s b := ⟨rfl, rfl, rfl, rfl, fun _ _ _ _ _ => rfl, fun _ _ => rfl⟩
theorem Keeps.trans {s s' s2 : CSt} {b : Nat} (h : Keeps s s' b) (k : Keeps s' s2 b) : Keeps s s2 b :=
  ⟨k.nb.trans h.nb, k.np.trans h.np, k.nz.trans h.nz, k.ns.trans h.ns, fun i q hi hq hne => (k.pg i q (by rw [h.nb]; exact hi) (by rw [h.np]; exact hq) hne).trans (h.pg i q hi hq hne), fun i hne => (k.bad i hne).trans (h.bad i hne)⟩

theorem eras_step (s : CSt) (b L : Nat) (ok : s.Ok) (hd : s.dead = false) (hb : b < s.nb) (hbad : badAt s b = false) (hdd : s.deeds < 4611686018427387904) (h : InvC s L) :
    Keeps s (erasS s b) b ∧ (erasS s b).Ok ∧ InvC (erasS s b) L ∧ Ends (erasE s b) (erasS s b) b ∧ (erasE s b = 0 → ∀ q, q < s.np → pgL (erasS s b) b q = List.replicate s.nz 255) := by
  have hr : refE s b 0 = 0 := by
    have ht : there s b 0 := ⟨⟨by omega, by omega⟩, by omega, by have := ok.np1; omega⟩
    unfold refE
    rw [if_neg (by rw [hd]; simp), if_pos ht]
  have hR : erasR s b = 0 := erasR_zero hr (by rw [Int.toNat_natCast]; exact hbad)
  obtain ⟨h1, h2, h3⟩ := eras_pg s b ok hb hR
  have ok' := erasS_ok s b ok hdd
  obtain ⟨g1, g2, g3, g4⟩ := erasS_geo s b
  have hS : erasS s b = deedS s b (offP s b 0) (ones s) := by unfold erasS; rw [if_pos hR]; simp
  have hE : erasE s b = deedE s := by unfold erasE; rw [if_pos hR]
  have hbl : b < s.bad.length := by rw [ok.badl]; exact hb
  refine ⟨⟨g1, g2, g3, g4, h1, fun i hne => ?_⟩, ok', ?_, ?_, h3⟩
  · rw [hS, deedS_badAt s b _ _ hbl, decide_eq_false (fun e => hne e.2), Bool.or_false]
  · exact InvC.less ok ok' h g1 g3 hb (fun i hi hne => h1 i 0 hi (by have := ok.np1; omega) hne) (h2 0 (by have := ok.np1; omega))
  · rw [hE, hS]
    exact deed_ends s b _ _ hd hbl hbad

theorem prog_step (s : CSt) (b p : Nat) (l : List Nat) (ok : s.Ok) (hl : IsBytes l) (hb : b < s.nb) (hp : p < s.np) (hdd : s.deeds < 4611686018427387904) (hR : progR s b p l.length = 0) :
    (progS s b p l).nb = s.nb ∧ (progS s b p l).np = s.np ∧ (progS s b p l).nz = s.nz ∧ (progS s b p l).ns = s.ns ∧ (progS s b p l).Ok ∧
    (∀ i q, i < s.nb → q < s.np → (i ≠ b ∨ q ≠ p) → pgL (progS s b p l) i q = pgL s i q) ∧ (∀ i, i ≠ b → badAt (progS s b p l) i = badAt s i) ∧
    unders (pgL (progS s b p l) b p) l = true ∧ (progE s b p l = 0 → pgL (progS s b p l) b p = l) ∧ Ends (progE s b p l) (progS s b p l) b := by
  obtain ⟨h1, _, h2, h3⟩ := prog_pg s b p l ok hl hb hp hR
  obtain ⟨g1, g2, g3, g4⟩ := progS_geo s b p l
  obtain ⟨hr0, _, hbad, _⟩ := progR_ok hR
  rw [Int.toNat_natCast] at hbad
  have hbl : b < s.bad.length := by rw [ok.badl]; exact hb
  have hS : progS s b p l = deedS s b (offP s b p) l := by unfold progS; rw [if_pos hR]; simp
  have hE : progE s b p l = deedE s := by unfold progE; rw [if_pos hR]
  refine ⟨g1, g2, g3, g4, progS_ok s b p l ok hl hdd, h1, fun i hne => ?_, h2, h3, ?_⟩
  · rw [hS, deedS_badAt s b _ _ hbl, decide_eq_false (fun e => hne e.2), Bool.or_false]
  · rw [hE, hS]
    exact deed_ends s b _ _ (refE_ok hr0).1 hbl hbad

end

section

/-- The pool knows of each block what is read of the chip. -/
def Agree (s : CSt) (p : PSt) : Prop := ∀ i, i < s.nb → p.bl[i]? = some (lookV s i)

theorem readL_pg {s : CSt} {i q : Nat} (hd : s.dead = false) (hi : i < s.nb) (hq : q < s.np) : readL s i q = pgL s i q := by
  unfold readL
  rw [if_pos]
  have ht : there s i q := ⟨⟨by omega, by omega⟩, by omega, by omega⟩
  unfold refE
  rw [if_neg (by rw [hd]; simp), if_pos ht]

theorem lookV_of {s : CSt} {i : Nat} (ok : s.Ok) (hd : s.dead = false) (hi : i < s.nb) :
    lookV s i = if ghE (pgL s i 0) = 0 then ⟨1, ghK (pgL s i 0), ghR (pgL s i 0), ghS (pgL s i 0)⟩ else ⟨hlV s i, 0, 0, 0⟩ := by
  have := readL_pg hd hi (q := 0) (by have := ok.np1; omega)
  unfold lookV
  rw [show ((0 : Int)) = ((0 : Nat) : Int) from rfl, this]

theorem lookV_same {s s' : CSt} {i : Nat} (ok : s.Ok) (ok' : s'.Ok) (hd : s.dead = false) (hd' : s'.dead = false) (hnb : s'.nb = s.nb) (hnp : s'.np = s.np) (hi : i < s.nb) (h : ∀ q, q < s.np → pgL s' i q = pgL s i q) : lookV s' i = lookV s i := by
  have hi' : i < s'.nb := by omega
  have e0 : pgL s' i (0 : Nat) = pgL s i (0 : Nat) := h 0 (by have := ok.np1; omega)
  have eb : hlV s' i = hlV s i := by
    have : allBl s' i = allBl s i := by
      unfold allBl
      rw [hnp]
      apply Bool.eq_iff_iff.2
      simp only [List.all_eq_true, List.mem_range]
      constructor
      · intro hh q hq
        have := hh q hq
        rwa [readL_pg hd' hi' (by omega), h q hq, ← readL_pg hd hi hq] at this
      · intro hh q hq
        have := hh q hq
        rwa [readL_pg hd hi hq, ← h q hq, ← readL_pg hd' hi' (by omega)] at this
    unfold hlV
    rw [this]
  rw [lookV_of ok hd hi, lookV_of ok' hd' hi']
  rw [show ((0 : Int)) = ((0 : Nat) : Int) from rfl, e0, eb]

theorem lookV_head {s : CSt} {i k e q : Nat} (ok : s.Ok) (hd : s.dead = false) (hi : i < s.nb) (hh : okHd k e q) (h : pgL s i 0 = phL s.nz k e q) : lookV s i = ⟨1, k, e, q⟩ := by
  obtain ⟨h1, h2, h3, h4⟩ := ph_reads (ok_pg ok) hh
  rw [lookV_of ok hd hi, h, if_pos h1, h2, h3, h4]

theorem blank_rep (n : Nat) : blank (List.replicate n 255) = true := by
  unfold blank
  rw [List.all_eq_true]
  intro x hx
  have := List.eq_of_mem_replicate hx
  simp [this]

theorem lookV_blank {s : CSt} {i : Nat} (ok : s.Ok) (hd : s.dead = false) (hi : i < s.nb) (h : ∀ q, q < s.np → pgL s i q = List.replicate s.nz 255) : lookV s i = ⟨0, 0, 0, 0⟩ := by
  have h0 : pgL s i (0 : Nat) = List.replicate s.nz 255 := h 0 (by have := ok.np1; omega)
  have hb : allBl s i = true := (allBl_iff s i).2 fun q hq => by rw [readL_pg hd hi hq, h q hq]; exact blank_rep _
  have hg : ghE (pgL s i 0) ≠ 0 := torn_no (ok_pg ok) (pg_bytes s ok i 0) (by
    show TornP s.nz (pgL s i (0 : Nat))
    rw [h0]
    exact blank_torn (ok_pg ok))
  rw [lookV_of ok hd hi, if_neg hg]
  unfold hlV
  rw [if_pos hb]

theorem lookV_w {s : CSt} {i : Nat} (ok : s.Ok) (hd : s.dead = false) (hi : i < s.nb) : (lookV s i).w = 1 ↔ ghE (pgL s i 0) = 0 := by
  rw [lookV_of ok hd hi]
  by_cases h : ghE (pgL s i 0) = 0
  · rw [if_pos h]; exact ⟨fun _ => h, fun _ => rfl⟩
  · rw [if_neg h]
    constructor
    · intro e
      exfalso
      have e : hlV s i = 1 := e
      unfold hlV at e
      split at e <;> omega
    · intro e; exact absurd e h

theorem isV_of {s : CSt} {p : PSt} {i : Nat} (ha : Agree s p) (hi : i < s.nb) : isV s p i = if badAt s i = true then 3 else (lookV s i).w := by
  unfold isV
  rw [ha i hi]
  rfl

theorem frV_of {s : CSt} {p : PSt} {i : Nat} (ha : Agree s p) (hi : i < s.nb) : frV s p i = (!badAt s i && decide ((lookV s i).w ≠ 1)) := by
  have hw : (lookV s i).w ≤ 2 := by
    unfold lookV hlV
    split
    · exact (by decide : (1 : Nat) ≤ 2)
    · split <;> decide
  unfold frV
  rw [isV_of ha hi]
  cases badAt s i with
  | true => simp
  | false =>
    simp only [Bool.false_eq_true, if_false, Bool.not_false, Bool.true_and]
    apply Bool.eq_iff_iff.2
    simp only [decide_eq_true_eq]
    omega

/-- Behind a try on block i: the chip's other blocks are as they were; the pool knows of them what it knew. -/
structure TryR (s : CSt) (p : PSt) (i : Nat) (s' : CSt) (p' : PSt) : Prop where
  kp : Keeps s s' i
  ok : s'.Ok
  len : p'.bl.length = p.bl.length
  bl : ∀ j, j ≠ i → p'.bl[j]? = p.bl[j]?
  next : p'.next = p.next
  l1 : p.last ≤ p'.last
  l2 : p'.last ≤ p.last + 1

theorem Keeps.look {s s' : CSt} {i j : Nat} (h : Keeps s s' i) (ok : s.Ok) (ok' : s'.Ok) (hd : s.dead = false) (hd' : s'.dead = false) (hj : j < s.nb) (hne : j ≠ i) : lookV s' j = lookV s j :=
  lookV_same ok ok' hd hd' h.nb h.np hj fun q hq => h.pg j q hj hq hne

theorem eraP_len (s : CSt) (p : PSt) (i : Nat) : (eraP s p i).bl.length = p.bl.length := by unfold eraP; split <;> simp
theorem eraP_bl (s : CSt) (p : PSt) (i j : Nat) (h : j ≠ i) : (eraP s p i).bl[j]? = p.bl[j]? := by
  unfold eraP
  split
  · show (p.bl.set i _)[j]? = _
    rw [List.getElem?_set, if_neg (Ne.symm h)]
  · rfl
theorem eraP_same (s : CSt) (p : PSt) (i : Nat) : (eraP s p i).next = p.next ∧ (eraP s p i).last = p.last := by unfold eraP; split <;> exact ⟨rfl, rfl⟩

/-- A try on a free block. -/
theorem try_step (s : CSt) (p : PSt) (i k e : Nat) (ok : s.Ok) (hd : s.dead = false) (hi : i < s.nb) (hdd : s.deeds < 4611686018427387903) (hlen : p.bl.length = s.nb) (ha : Agree s p) (hI : InvC s p.last)
    (hh : okHd k e (p.last + 1)) (hf : frV s p i = true) :
    TryR s p i (tryS s p i k e) (tryP s p i k e) ∧ InvC (tryS s p i k e) (p.last + 1) ∧
    ((tryE s p i k e = 0 ∧ (tryS s p i k e).dead = false ∧ badAt (tryS s p i k e) i = false ∧ (tryP s p i k e).last = p.last + 1 ∧ lookV (tryS s p i k e) i = ⟨1, k, e, p.last + 1⟩ ∧ (tryP s p i k e).bl[i]? = some ⟨1, k, e, p.last + 1⟩) ∨
      (tryE s p i k e = 9 ∧ (tryS s p i k e).dead = false ∧ badAt (tryS s p i k e) i = true ∧ InvC (tryS s p i k e) (tryP s p i k e).last) ∨
      (tryE s p i k e = 10 ∧ (tryS s p i k e).dead = true)) := by
  have hf' := hf
  rw [frV_of ha hi] at hf'
  simp only [Bool.and_eq_true, Bool.not_eq_true', decide_eq_true_eq] at hf'
  obtain ⟨hbad, hw⟩ := hf'
  have hmax : p.last ≠ maxSeq := by unfold maxSeq; have := hh.2.2; omega
  have hpg := ok_pg ok
  have hiV : isV s p i = (lookV s i).w := by rw [isV_of ha hi, hbad]; rfl
  -- behind the clearing
  have hcl : Keeps s (clS s p i) i ∧ (clS s p i).Ok ∧ InvC (clS s p i) p.last ∧ (clS s p i).deeds ≤ s.deeds + 1 ∧
      ((clE s p i = 0 ∧ (clS s p i).dead = false ∧ badAt (clS s p i) i = false ∧ ∀ q, q < s.np → pgL (clS s p i) i q = List.replicate s.nz 255) ∨
        (clE s p i = 9 ∧ (clS s p i).dead = false ∧ badAt (clS s p i) i = true) ∨ (clE s p i = 10 ∧ (clS s p i).dead = true)) := by
    by_cases h2 : isV s p i = 2
    · obtain ⟨a1, a2, a3, a4, a5⟩ := eras_step s i p.last ok hd hi hbad (by omega) hI
      have e1 : clS s p i = erasS s i := by unfold clS; rw [if_pos h2]
      have e2 : clE s p i = erasE s i := by unfold clE; rw [if_pos h2]
      rw [e1, e2]
      refine ⟨a1, a2, a3, erasS_deeds s i, ?_⟩
      cases a4 with
      | good h hd2 hb2 => exact .inl ⟨h, hd2, hb2, a5 h⟩
      | bad h hd2 hb2 => exact .inr (.inl ⟨h, hd2, hb2⟩)
      | cut h hd2 => exact .inr (.inr ⟨h, hd2⟩)
    · have e1 : clS s p i = s := by unfold clS; rw [if_neg h2]
      have e2 : clE s p i = 0 := by unfold clE; rw [if_neg h2]
      rw [e1, e2]
      have hw0 : (lookV s i).w = 0 := by
        have : (lookV s i).w ≤ 2 := by
          unfold lookV hlV
          split
          · exact (by decide : (1 : Nat) ≤ 2)
          · split <;> decide
        omega
      have hbl : allBl s i = true := by
        unfold lookV hlV at hw0
        split at hw0
        · cases hw0
        · by_cases h : allBl s i = true
          · exact h
          · rw [if_neg h] at hw0; cases hw0
      refine ⟨Keeps.refl _ _, ok, hI, by omega, .inl ⟨rfl, hd, hbad, fun q hq => ?_⟩⟩
      have := (allBl_iff s i).1 hbl q hq
      rw [readL_pg hd hi hq] at this
      rw [blank_replicate _ this]
      congr 1
      rw [pgL_sl]
      exact sl_len _ _ _ (by rw [ok.len]; exact page_fit hi hq)
  obtain ⟨ck, cok, cI, cdd, hc⟩ := hcl
  have clen : (clP s p i).bl.length = p.bl.length := by unfold clP; split; exact eraP_len _ _ _; rfl
  have cbl : ∀ j, j ≠ i → (clP s p i).bl[j]? = p.bl[j]? := fun j hj => by unfold clP; split; exact eraP_bl _ _ _ _ hj; rfl
  obtain ⟨cl1, cl2⟩ := clP_last s p i
  rcases hc with ⟨hE, hdc, hbc, hpc⟩ | ⟨hE, hdc, hbc⟩ | ⟨hE, hdc⟩
  · have e1 : tryE s p i k e = trE s p i k e := by unfold tryE; rw [if_neg hmax, if_neg (by rw [hE]; simp)]
    have e2 : tryS s p i k e = trS s p i k e := by unfold tryS; rw [if_neg hmax, if_neg (by rw [hE]; simp)]
    have e3 : tryP s p i k e = trP s p i k e := by unfold tryP; rw [if_neg hmax, if_neg (by rw [hE]; simp)]
    rw [e1, e2, e3]
    have hnp0 : 0 < (clS s p i).np := by rw [ck.np]; have := ok.np1; omega
    have hib : i < (clS s p i).nb := by rw [ck.nb]; exact hi
    have hR : progR (clS s p i) i (0 : Nat) (phL s.nz k e (p.last + 1)).length = 0 := by
      apply progR_zero
      · have ht : there (clS s p i) i (0 : Nat) := ⟨⟨by omega, by omega⟩, by omega, by omega⟩
        unfold refE
        rw [if_neg (by rw [hdc]; simp), if_pos ht]
      · rw [ph_len hpg hh, ck.nz]
      · rw [Int.toNat_natCast]; exact hbc
      · unfold tailL blank
        rw [List.all_eq_true]
        intro x hx
        obtain ⟨j, hj⟩ := List.getElem?_of_mem hx
        have hjl := (List.getElem?_eq_some_iff.1 hj).1
        rw [List.length_take] at hjl
        have hjn : j < (clS s p i).np * (clS s p i).nz := by simp at hjl; omega
        have hoff : offP (clS s p i) i ((0 : Nat) : Int) = i * s.np * s.nz := by unfold offP; rw [ck.np, ck.nz]; simp
        rw [List.getElem?_take, if_pos (by simp; exact hjn), List.getElem?_drop, hoff] at hj
        rw [ck.np, ck.nz] at hjn
        have hzpos : 0 < s.nz := by have := ok.nz1; omega
        have hq : j / s.nz < s.np := (Nat.div_lt_iff_lt_mul hzpos).2 hjn
        have hp := hpc (j / s.nz) hq
        rw [pgL_sl, ck.np, ck.nz] at hp
        have hm : j % s.nz < s.nz := Nat.mod_lt _ hzpos
        have hg := sl_get (clS s p i).by_ ((i * s.np + j / s.nz) * s.nz) s.nz (j % s.nz) hm
        rw [hp, List.getElem?_replicate, if_pos hm, Nat.add_mul, Nat.add_assoc, Nat.mul_comm (j / s.nz), Nat.div_add_mod, hj] at hg
        injection hg with hg
        simp [← hg]
    have hlb := ph_bytes hpg hh
    obtain ⟨g1, g2, g3, g4, pok, ppg, pbad, pu, p0, pe⟩ := prog_step (clS s p i) i 0 (phL s.nz k e (p.last + 1)) cok hlb hib hnp0 (by omega) hR
    have hSS : trS s p i k e = progS (clS s p i) i (0 : Nat) (phL s.nz k e (p.last + 1)) := rfl
    have hEE : trE s p i k e = progE (clS s p i) i (0 : Nat) (phL s.nz k e (p.last + 1)) := rfl
    have kk : Keeps s (trS s p i k e) i := ck.trans (by
      rw [hSS]
      exact ⟨g1, g2, g3, g4, fun j q hj hq hne => ppg j q hj hq (.inl hne), pbad⟩)
    have hI2 : InvC (trS s p i k e) (p.last + 1) := by
      rw [hSS]
      refine InvC.more (k := k) (e := e) cok pok cI g1 g3 hib (fun j hj hne => ppg j 0 hj hnp0 (.inl hne)) hh ?_
      rw [ck.nz]
      exact pu
    have hTP : (trP s p i k e).bl.length = p.bl.length ∧ (∀ j, j ≠ i → (trP s p i k e).bl[j]? = p.bl[j]?) := by
      unfold trP
      constructor
      · show (if _ then _ else _ : List PB).length = _
        split
        · rw [List.length_set, clen]
        · exact clen
      · intro j hj
        show (if _ then _ else _ : List PB)[j]? = _
        split
        · rw [List.getElem?_set, if_neg (Ne.symm hj)]; exact cbl j hj
        · exact cbl j hj
    have hlast : (trP s p i k e).last = if trE s p i k e = 0 ∨ trE s p i k e = 9 then p.last + 1 else p.last := rfl
    refine ⟨⟨kk, by rw [hSS]; exact pok, hTP.1, hTP.2, rfl, by rw [hlast]; split <;> omega, by rw [hlast]; split <;> omega⟩, hI2, ?_⟩
    cases pe with
    | good h hd2 hb2 =>
      rw [← hEE] at h
      rw [← hSS] at hd2 hb2
      refine .inl ⟨h, hd2, hb2, by rw [hlast, if_pos (.inl h)], ?_, ?_⟩
      · refine lookV_head (by rw [hSS]; exact pok) hd2 (by rw [kk.nb]; exact hi) hh ?_
        rw [kk.nz]
        have := p0 (by rw [← hEE]; exact h)
        rw [← hSS] at this
        exact this
      · show (if _ then _ else _ : List PB)[i]? = _
        rw [if_pos h, List.getElem?_set, if_pos rfl, if_pos (by rw [clen, hlen]; exact hi)]
    | bad h hd2 hb2 =>
      rw [← hEE] at h
      rw [← hSS] at hd2 hb2
      exact .inr (.inl ⟨h, hd2, hb2, by rw [hlast, if_pos (.inr h)]; exact hI2⟩)
    | cut h hd2 =>
      rw [← hEE] at h
      rw [← hSS] at hd2
      exact .inr (.inr ⟨h, hd2⟩)
  · have e1 : tryE s p i k e = 9 := by unfold tryE; rw [if_neg hmax, if_pos (by rw [hE]; simp), hE]
    have e2 : tryS s p i k e = clS s p i := by unfold tryS; rw [if_neg hmax, if_pos (by rw [hE]; simp)]
    have e3 : tryP s p i k e = clP s p i := by unfold tryP; rw [if_neg hmax, if_pos (by rw [hE]; simp)]
    rw [e1, e2, e3]
    exact ⟨⟨ck, cok, clen, cbl, cl2, by omega, by omega⟩, cI.mono (by omega), .inr (.inl ⟨rfl, hdc, hbc, by rw [cl1]; exact cI⟩)⟩
  · have e1 : tryE s p i k e = 10 := by unfold tryE; rw [if_neg hmax, if_pos (by rw [hE]; simp), hE]
    have e2 : tryS s p i k e = clS s p i := by unfold tryS; rw [if_neg hmax, if_pos (by rw [hE]; simp)]
    have e3 : tryP s p i k e = clP s p i := by unfold tryP; rw [if_neg hmax, if_pos (by rw [hE]; simp)]
    rw [e1, e2, e3]
    exact ⟨⟨ck, cok, clen, cbl, cl2, by omega, by omega⟩, cI.mono (by omega), .inr (.inr ⟨rfl, hdc⟩)⟩

end

section

/-- The chip is alive, the pool agrees with it, no Seq is above the pool's last one. -/
structure Good (s : CSt) (p : PSt) : Prop where
  live : s.dead = false
  ag : Agree s p
  inv : InvC s p.last

/-- Blocks with a head are as they were, whatever became of the chip. -/
def Stays (s s' : CSt) : Prop := ∀ j, j < s.nb → (lookV s j).w = 1 → (∀ q, q < s.np → pgL s' j q = pgL s j q) ∧ badAt s' j = badAt s j

theorem Stays.refl (s : CSt) : Stays s s := fun _ _ _ => ⟨fun _ _ => rfl, rfl⟩

theorem Stays.look {s s' : CSt} (h : Stays s s') (ok : s.Ok) (ok' : s'.Ok) (hd : s.dead = false) (hd' : s'.dead = false) (hnb : s'.nb = s.nb) (hnp : s'.np = s.np) {j : Nat} (hj : j < s.nb) (hw : (lookV s j).w = 1) : lookV s' j = lookV s j :=
  lookV_same ok ok' hd hd' hnb hnp hj (h j hj hw).1

theorem Stays.trans {s s1 s2 : CSt} (h : Stays s s1) (k : Stays s1 s2) (ok : s.Ok) (ok1 : s1.Ok) (hd : s.dead = false) (hd1 : s1.dead = false) (hnb : s1.nb = s.nb) (hnp : s1.np = s.np) : Stays s s2 := fun j hj hw => by
  have h1 := h j hj hw
  have h2 := k j (by omega) (by rw [h.look ok ok1 hd hd1 hnb hnp hj hw]; exact hw)
  exact ⟨fun q hq => (h2.1 q (by omega)).trans (h1.1 q hq), h2.2.trans h1.2⟩

/-- What taking leaves, n blocks tried at most. -/
structure TkOut (s : CSt) (p : PSt) (k e n : Nat) (r : TkR) : Prop where
  nb : r.s.nb = s.nb
  np : r.s.np = s.np
  nz : r.s.nz = s.nz
  ns : r.s.ns = s.ns
  ok : r.s.Ok
  inv : InvC r.s (p.last + n)
  l1 : p.last ≤ r.p.last
  l2 : r.p.last ≤ p.last + n
  dd : r.s.deeds ≤ s.deeds + 2 * n
  len : r.p.bl.length = p.bl.length
  next : r.p.next < s.nb
  stay : Stays s r.s
  nf : r.s.dead = false → ∀ j, j < s.nb → frV s p j = false → frV r.s r.p j = false
  out : (r.e = 0 ∧ Good r.s r.p ∧ p.last < r.p.last ∧ ∃ b : Nat, r.b = b ∧ b < s.nb ∧ badAt r.s b = false ∧ lookV r.s b = ⟨1, k, e, r.p.last⟩ ∧ (lookV s b).w ≠ 1) ∨ (r.e = 11 ∧ Good r.s r.p) ∨ (r.e = 10 ∧ r.s.dead = true)

theorem Keeps.stays {s s' : CSt} {i : Nat} (h : Keeps s s' i) (hw : (lookV s i).w ≠ 1) : Stays s s' := fun j hj hj1 => by
  have hne : j ≠ i := fun e => hw (by rw [← e]; exact hj1)
  exact ⟨fun q hq => h.pg j q hj hq hne, h.bad j hne⟩

theorem tryS_dd (s : CSt) (p : PSt) (i k e : Nat) : (tryS s p i k e).deeds ≤ s.deeds + 2 := tryS_deeds s p i k e

theorem take_out (k e : Nat) (hke : (1 ≤ k ∧ k ≤ 3) ∧ 1 ≤ e ∧ e < 4294967296) : ∀ (n : Nat) (s : CSt) (p : PSt) (i : Nat), s.Ok → Good s p → p.bl.length = s.nb → i < s.nb → p.next < s.nb → s.deeds + 2 * n < 4611686018427387903 → p.last + n < 18446744073709551615 →
    TkOut s p k e n (takeGo k e n s p i) ∧ ((takeGo k e n s p i).e = 11 → ∀ t, t < n → frV (takeGo k e n s p i).s (takeGo k e n s p i).p ((i + t) % s.nb) = false)
  | 0, s, p, i, ok, hg, hlen, hi, hnx, hdd, hll => by
    refine ⟨?_, fun _ t ht => absurd ht (by omega)⟩
    exact { nb := rfl, np := rfl, nz := rfl, ns := rfl, ok := ok, inv := hg.inv.mono (by omega), l1 := Nat.le_refl _, l2 := Nat.le_refl _, dd := Nat.le_refl _, len := rfl, next := hnx, stay := Stays.refl _, nf := fun _ _ _ h => h, out := .inr (.inl ⟨rfl, hg⟩) }
  | n + 1, s, p, i, ok, hg, hlen, hi, hnx, hdd, hll => by
    have hib := hi
    have hnext : (i + 1) % s.nb < s.nb := Nat.mod_lt _ (by have := ok.nb1; omega)
    have hvis : ∀ t, (i + (t + 1)) % s.nb = ((i + 1) % s.nb + t) % s.nb := fun t => by rw [Nat.mod_add_mod]; congr 1; omega
    by_cases hf : frV s p i = true
    · have hh : okHd k e (p.last + 1) := ⟨⟨hke.1, hke.2.1, by omega⟩, hke.2.2, by omega⟩
      obtain ⟨hT, hI, hout⟩ := try_step s p i k e ok hg.live hi (by omega) hlen hg.ag hg.inv hh hf
      have hfr := hf
      rw [frV_of hg.ag hi] at hfr
      simp only [Bool.and_eq_true, Bool.not_eq_true', decide_eq_true_eq] at hfr
      have hst := hT.kp.stays hfr.2
      rcases hout with ⟨h0, hd0, hb0, hl0, hv0, hbl0⟩ | ⟨h9, hd9, hb9, hI9⟩ | ⟨h10, hd10⟩
      · have e1 : takeGo k e (n + 1) s p i = ⟨i, 0, tryS s p i k e, { tryP s p i k e with next := (i + 1) % s.nb }⟩ := by
          simp only [takeGo]
          rw [if_pos hf, if_pos h0]
        rw [e1]
        have hag : Agree (tryS s p i k e) { tryP s p i k e with next := (i + 1) % s.nb } := fun j hj => by
          rw [hT.kp.nb] at hj
          by_cases ej : j = i
          · subst ej; rw [hv0]; exact hbl0
          · show (tryP s p i k e).bl[j]? = _
            rw [hT.bl j ej, hg.ag j hj, hT.kp.look ok hT.ok hg.live hd0 hj ej]
        have hgood : Good (tryS s p i k e) { tryP s p i k e with next := (i + 1) % s.nb } := ⟨hd0, hag, by
          show InvC _ (tryP s p i k e).last
          rw [hl0]; exact hI⟩
        refine ⟨{ nb := hT.kp.nb, np := hT.kp.np, nz := hT.kp.nz, ns := hT.kp.ns, ok := hT.ok, inv := hI.mono (by omega), l1 := hT.l1, l2 := ?_, dd := ?_, len := hT.len, next := hnext, stay := hst, nf := ?_, out := .inl ⟨rfl, hgood, ?_, i, rfl, hi, hb0, ?_, hfr.2⟩ }, fun h => absurd h (by show ¬ (0 : Int) = 11; decide)⟩
        · show (tryP s p i k e).last ≤ _; have := hT.l2; omega
        · have := tryS_dd s p i k e; show (tryS s p i k e).deeds ≤ _; omega
        · intro _ j hj hjf
          by_cases ej : j = i
          · subst ej; rw [hf] at hjf; cases hjf
          · rw [frV_of hg.ag hj] at hjf
            rw [frV_of hag (by rw [hT.kp.nb]; exact hj), hT.kp.bad j ej, hT.kp.look ok hT.ok hg.live hd0 hj ej]
            exact hjf
        · show p.last < (tryP s p i k e).last; omega
        · show lookV (tryS s p i k e) i = ⟨1, k, e, (tryP s p i k e).last⟩
          rw [hl0]; exact hv0
      · have e1 : takeGo k e (n + 1) s p i = takeGo k e n (tryS s p i k e) { tryP s p i k e with bl := (tryP s p i k e).bl.set i (lookV (tryS s p i k e) i) } ((i + 1) % s.nb) := by
          simp only [takeGo]
          rw [if_pos hf, if_neg (by rw [h9]; decide), if_pos h9]
        have hil : i < (tryP s p i k e).bl.length := by rw [hT.len, hlen]; exact hi
        have hag : Agree (tryS s p i k e) { tryP s p i k e with bl := (tryP s p i k e).bl.set i (lookV (tryS s p i k e) i) } := fun j hj => by
          rw [hT.kp.nb] at hj
          show ((tryP s p i k e).bl.set i _)[j]? = _
          by_cases ej : j = i
          · subst ej; rw [List.getElem?_set, if_pos rfl, if_pos hil]
          · rw [List.getElem?_set, if_neg (Ne.symm ej), hT.bl j ej, hg.ag j hj, hT.kp.look ok hT.ok hg.live hd9 hj ej]
        have hgood : Good (tryS s p i k e) { tryP s p i k e with bl := (tryP s p i k e).bl.set i (lookV (tryS s p i k e) i) } := ⟨hd9, hag, hI9⟩
        have hdd2 := tryS_dd s p i k e
        have hl1 := hT.l1
        have hl2 := hT.l2
        obtain ⟨ih, ihv⟩ := take_out k e hke n (tryS s p i k e) { tryP s p i k e with bl := (tryP s p i k e).bl.set i (lookV (tryS s p i k e) i) } ((i + 1) % s.nb) hT.ok hgood
          (by show ((tryP s p i k e).bl.set i _).length = _; rw [List.length_set, hT.len, hlen, hT.kp.nb]) (by rw [hT.kp.nb]; exact hnext) (by rw [hT.kp.nb]; show (tryP s p i k e).next < _; rw [hT.next]; exact hnx)
          (by omega) (by show (tryP s p i k e).last + n < _; omega)
        rw [e1]
        have hnf1 : ∀ j, j < s.nb → (frV s p j = false ∨ j = i) → frV (tryS s p i k e) { tryP s p i k e with bl := (tryP s p i k e).bl.set i (lookV (tryS s p i k e) i) } j = false := fun j hj hor => by
          rw [frV_of hag (by rw [hT.kp.nb]; exact hj)]
          by_cases ej : j = i
          · subst ej; rw [hb9]; rfl
          · rcases hor with h | h
            · rw [frV_of hg.ag hj] at h
              rw [hT.kp.bad j ej, hT.kp.look ok hT.ok hg.live hd9 hj ej]
              exact h
            · exact absurd h ej
        refine ⟨{ nb := ih.nb.trans hT.kp.nb, np := ih.np.trans hT.kp.np, nz := ih.nz.trans hT.kp.nz, ns := ih.ns.trans hT.kp.ns, ok := ih.ok, inv := ih.inv.mono ?_, l1 := ?_, l2 := ?_, dd := ?_, len := ?_, next := ?_, stay := ?_, nf := ?_, out := ?_ }, ?_⟩
        · show (tryP s p i k e).last + n ≤ _; omega
        · have := ih.l1; exact Nat.le_trans hl1 this
        · have : _ ≤ (tryP s p i k e).last + n := ih.l2
          omega
        · have := ih.dd; omega
        · rw [ih.len]
          show ((tryP s p i k e).bl.set i _).length = _
          rw [List.length_set, hT.len]
        · have := ih.next; rw [hT.kp.nb] at this; exact this
        · exact hst.trans ih.stay ok hT.ok hg.live hd9 hT.kp.nb hT.kp.np
        · intro hdr j hj hjf
          exact ih.nf hdr j (by rw [hT.kp.nb]; exact hj) (hnf1 j hj (.inl hjf))
        · rcases ih.out with ⟨a, b, c, x, d0, d, f, g, h⟩ | h | h
          · refine .inl ⟨a, b, ?_, x, d0, by rw [hT.kp.nb] at d; exact d, f, g, fun hw => h ?_⟩
            · have : (tryP s p i k e).last < _ := c
              omega
            · have hne : x ≠ i := fun eb => hfr.2 (by rw [← eb]; exact hw)
              rw [hT.kp.look ok hT.ok hg.live hd9 (by rw [hT.kp.nb] at d; exact d) hne]
              exact hw
          · exact .inr (.inl h)
          · exact .inr (.inr h)
        · intro h11 t ht
          rcases t with _ | t
          · rw [show (i + 0) % s.nb = i from Nat.mod_eq_of_lt hi]
            have hgr : (takeGo k e n (tryS s p i k e) { tryP s p i k e with bl := (tryP s p i k e).bl.set i (lookV (tryS s p i k e) i) } ((i + 1) % s.nb)).s.dead = false := by
              rcases ih.out with ⟨a, _⟩ | ⟨_, h⟩ | ⟨a, _⟩
              · rw [a] at h11; exact absurd h11 (by decide)
              · exact h.live
              · rw [a] at h11; exact absurd h11 (by decide)
            exact ih.nf hgr i (by rw [hT.kp.nb]; exact hi) (hnf1 i hi (.inr rfl))
          · rw [hvis t]
            have := ihv h11 t (by omega)
            rw [hT.kp.nb] at this
            exact this
      · have e1 : takeGo k e (n + 1) s p i = ⟨0, tryE s p i k e, tryS s p i k e, tryP s p i k e⟩ := by
          simp only [takeGo]
          rw [if_pos hf, if_neg (by rw [h10]; decide), if_neg (by rw [h10]; decide)]
        rw [e1]
        refine ⟨{ nb := hT.kp.nb, np := hT.kp.np, nz := hT.kp.nz, ns := hT.kp.ns, ok := hT.ok, inv := hI.mono (by omega), l1 := hT.l1, l2 := ?_, dd := ?_, len := hT.len, next := by rw [hT.next]; exact hnx, stay := hst, nf := ?_, out := .inr (.inr ⟨h10, hd10⟩) }, fun h => absurd (h10.symm.trans h) (by decide)⟩
        · have := hT.l2; show (tryP s p i k e).last ≤ _; omega
        · have := tryS_dd s p i k e; show (tryS s p i k e).deeds ≤ _; omega
        · intro hdr
          rw [hd10] at hdr
          cases hdr
    · have e1 : takeGo k e (n + 1) s p i = takeGo k e n s p ((i + 1) % s.nb) := by
        simp only [takeGo]
        rw [if_neg hf]
      obtain ⟨ih, ihv⟩ := take_out k e hke n s p ((i + 1) % s.nb) ok hg hlen hnext hnx (by omega) (by omega)
      rw [e1]
      have hff : frV s p i = false := by simpa using hf
      refine ⟨{ ih with inv := ih.inv.mono (by omega), l2 := by have := ih.l2; omega, dd := by have := ih.dd; omega }, ?_⟩
      intro h11 t ht
      rcases t with _ | t
      · rw [show (i + 0) % s.nb = i from Nat.mod_eq_of_lt hi]
        have hgr : (takeGo k e n s p ((i + 1) % s.nb)).s.dead = false := by
          rcases ih.out with ⟨a, _⟩ | ⟨_, h⟩ | ⟨a, _⟩
          · rw [a] at h11; exact absurd h11 (by decide)
          · exact h.live
          · rw [a] at h11; exact absurd h11 (by decide)
        exact ih.nf hgr i hi hff
      · rw [hvis t]
        exact ihv h11 t (by omega)

/-- Free of a block that may be freed. -/
theorem free_out (s : CSt) (p : PSt) (b : Nat) (ok : s.Ok) (hg : Good s p) (hlen : p.bl.length = s.nb) (hb : b < s.nb) (h1 : isV s p b = 1) (hdd : s.deeds < 4611686018427387904) :
    Keeps s (freeR s p b).s b ∧ (freeR s p b).s.Ok ∧ InvC (freeR s p b).s p.last ∧ (freeR s p b).p.bl.length = p.bl.length ∧ (freeR s p b).p.next = p.next ∧ (freeR s p b).p.last = p.last ∧ (freeR s p b).s.deeds ≤ s.deeds + 1 ∧
    (((freeR s p b).e = 0 ∧ Good (freeR s p b).s (freeR s p b).p ∧ (badAt (freeR s p b).s b = true ∨ (lookV (freeR s p b).s b).w ≠ 1)) ∨ ((freeR s p b).e = 10 ∧ (freeR s p b).s.dead = true)) := by
  have hv := isV_of hg.ag hb
  rw [h1] at hv
  have hbad : badAt s b = false := by
    cases hx : badAt s b with
    | false => rfl
    | true => rw [hx] at hv; simp at hv
  obtain ⟨a1, a2, a3, a4, a5⟩ := eras_step s b p.last ok hg.live hb hbad hdd hg.inv
  have hcond : (0 ≤ (b : Int) ∧ (b : Int) < (s.nb : Int)) ∧ isV s p (b : Int).toNat = 1 := ⟨⟨by omega, by omega⟩, by rw [Int.toNat_natCast]; exact h1⟩
  have hbl : b < p.bl.length := by rw [hlen]; exact hb
  have hother : ∀ (x : PB), (erasS s b).dead = false → x = lookV (erasS s b) b → Agree (erasS s b) { (eraP s p b) with bl := (eraP s p b).bl.set b x } := fun x hd hx j hj => by
    rw [a1.nb] at hj
    show ((eraP s p b).bl.set b x)[j]? = _
    by_cases ej : j = b
    · subst ej
      rw [List.getElem?_set, if_pos rfl, if_pos (by rw [eraP_len]; exact hbl), hx]
    · rw [List.getElem?_set, if_neg (Ne.symm ej), eraP_bl _ _ _ _ ej, hg.ag j hj, a1.look ok a2 hg.live hd hj ej]
  obtain ⟨p1, p2⟩ := eraP_same s p b
  cases a4 with
  | good h hd hb2 =>
    have e1 : freeR s p b = ⟨0, erasE s b, erasS s b, eraP s p b⟩ := by
      unfold freeR
      rw [if_pos hcond, if_neg (by rw [h]; decide), Int.toNat_natCast]
    have hlk : lookV (erasS s b) b = ⟨0, 0, 0, 0⟩ := lookV_blank a2 hd (by rw [a1.nb]; exact hb) fun q hq => by
      rw [a1.nz]
      exact a5 h q (by rw [a1.np] at hq; exact hq)
    have hset : (eraP s p b).bl.set b ⟨0, 0, 0, 0⟩ = (eraP s p b).bl := by
      unfold eraP
      rw [if_pos h]
      simp
    have hag := hother ⟨0, 0, 0, 0⟩ hd hlk.symm
    rw [hset] at hag
    rw [e1]
    exact ⟨a1, a2, a3, eraP_len _ _ _, p1, p2, erasS_deeds s b, .inl ⟨h, ⟨hd, hag, by show InvC _ (eraP s p b).last; rw [p2]; exact a3⟩, .inr (by rw [hlk]; decide)⟩⟩
  | bad h hd hb2 =>
    have e1 : freeR s p b = ⟨0, 0, erasS s b, { eraP s p b with bl := (eraP s p b).bl.set b (lookV (erasS s b) b) }⟩ := by
      unfold freeR
      rw [if_pos hcond, if_pos h, Int.toNat_natCast]
    rw [e1]
    exact ⟨a1, a2, a3, by show ((eraP s p b).bl.set b _).length = _; rw [List.length_set, eraP_len], p1, p2, erasS_deeds s b, .inl ⟨rfl, ⟨hd, hother _ hd rfl, by show InvC _ (eraP s p b).last; rw [p2]; exact a3⟩, .inl hb2⟩⟩
  | cut h hd =>
    have e1 : freeR s p b = ⟨0, erasE s b, erasS s b, eraP s p b⟩ := by
      unfold freeR
      rw [if_pos hcond, if_neg (by rw [h]; decide), Int.toNat_natCast]
    rw [e1]
    exact ⟨a1, a2, a3, eraP_len _ _ _, p1, p2, erasS_deeds s b, .inr ⟨h, hd⟩⟩

end

section

theorem seqAt_get {l : List TK} {i : Nat} {t : TK} (h : l[i]? = some t) : seqAt l i = t.s := by unfold seqAt; rw [h]; rfl

theorem swp_perm (l : List TK) (j : Nat) : (swp l j).Perm l := by
  unfold swp
  split
  · rename_i x y hx hy
    obtain ⟨h1, e1⟩ := List.getElem?_eq_some_iff.1 hx
    obtain ⟨h2, e2⟩ := List.getElem?_eq_some_iff.1 hy
    rw [← e1, ← e2]
    exact List.set_set_perm h2 h1
  · exact List.Perm.refl _

theorem swp_seq {l : List TK} {j : Nat} (h : j + 1 < l.length) (i : Nat) : seqAt (swp l j) i = if i = j then seqAt l (j + 1) else if i = j + 1 then seqAt l j else seqAt l i := by
  have hx : l[j]? = some l[j] := List.getElem?_eq_getElem (by omega)
  have hy : l[j + 1]? = some l[j + 1] := List.getElem?_eq_getElem h
  have e : swp l j = (l.set (j + 1) l[j]).set j l[j + 1] := by unfold swp; rw [hx, hy]
  rw [e]
  unfold seqAt
  rw [List.getElem?_set, List.getElem?_set]
  by_cases h1 : i = j
  · subst h1
    rw [if_pos rfl, if_pos (by rw [List.length_set]; omega), if_pos rfl, hy]
  · rw [if_neg (Ne.symm h1), if_neg h1]
    by_cases h2 : i = j + 1
    · subst h2
      rw [if_pos rfl, if_pos h, if_pos rfl, hx]
    · rw [if_neg (Ne.symm h2), if_neg h2]

theorem bub_perm : ∀ (j : Nat) (l : List TK), (bub j l).Perm l
  | 0, l => List.Perm.refl _
  | j + 1, l => by
    simp only [bub]
    split
    · exact (bub_perm j _).trans (swp_perm l j)
    · exact List.Perm.refl _

theorem insG_perm (l : List TK) : ∀ k, (insG l k).Perm l
  | 0 => List.Perm.refl _
  | k + 1 => (bub_perm _ _).trans (insG_perm l k)

/-- One insertion: up to N all rises, but for what stands at m. -/
theorem bub_srt : ∀ (m N : Nat) (l : List TK), m ≤ N → N < l.length → (∀ a b, a < b → b ≤ N → b ≠ m → seqAt l a ≤ seqAt l b) → ∀ a b, a < b → b ≤ N → seqAt (bub m l) a ≤ seqAt (bub m l) b
  | 0, N, l, _, _, h => fun a b hab hb => h a b hab hb (by omega)
  | m + 1, N, l, hm, hN, h => by
    intro a b hab hb
    simp only [bub]
    split
    · rename_i hlt
      refine bub_srt m N (swp l m) (by omega) (by rw [swp_len]; exact hN) (fun a b hab hb hbm => ?_) a b hab hb
      rw [swp_seq (by omega), swp_seq (by omega)]
      by_cases hb1 : b = m + 1
      · subst hb1
        rw [if_neg (show ¬ m + 1 = m by omega), if_pos rfl]
        by_cases ha : a = m
        · subst ha; rw [if_pos rfl]; omega
        · rw [if_neg ha, if_neg (show ¬ a = m + 1 by omega)]
          exact h a m (by omega) (by omega) (by omega)
      · rw [if_neg hbm, if_neg hb1]
        by_cases ha : a = m
        · subst ha
          rw [if_pos rfl]
          exact h (a + 1) b (by omega) hb hb1
        · rw [if_neg ha]
          by_cases ha1 : a = m + 1
          · subst ha1
            rw [if_pos rfl]
            exact h m b (by omega) hb hb1
          · rw [if_neg ha1]
            exact h a b hab hb hb1
    · rename_i hge
      by_cases hb1 : b = m + 1
      · subst hb1
        by_cases ha : a = m
        · subst ha; omega
        · have := h a m (by omega) (by omega) (by omega)
          omega
      · exact h a b hab hb hb1

theorem insG_srt (l : List TK) : ∀ k, k < l.length → ∀ a b, a < b → b ≤ k → seqAt (insG l k) a ≤ seqAt (insG l k) b
  | 0, _ => fun a b hab hb => absurd hab (by omega)
  | k + 1, hk => by
    simp only [insG]
    refine bub_srt (k + 1) (k + 1) (insG l k) (Nat.le_refl _) (by rw [insG_len]; exact hk) fun a b hab hb hne => ?_
    exact insG_srt l k (by omega) a b hab (by omega)

def SeqLe (a b : TK) : Prop := a.s ≤ b.s

theorem pw_of_seq {l : List TK} (h : ∀ a b, a < b → b < l.length → seqAt l a ≤ seqAt l b) : l.Pairwise SeqLe := by
  rw [List.pairwise_iff_getElem]
  intro i j hi hj hij
  have := h i j hij hj
  rw [seqAt_get (List.getElem?_eq_getElem hi), seqAt_get (List.getElem?_eq_getElem hj)] at this
  exact this

theorem insG_pw (l : List TK) : (insG l (l.length - 1)).Pairwise SeqLe := by
  apply pw_of_seq
  intro a b hab hb
  rw [insG_len] at hb
  exact insG_srt l (l.length - 1) (by omega) a b hab (by omega)

/-- What is told of block i. -/
def tkOf (s : CSt) (i : Nat) : TK := ⟨i, (lookV s i).k, (lookV s i).e, (lookV s i).s, badAt s i⟩
/-- The blocks with a head below k, as they lie. -/
def tkC (s : CSt) : Nat → List TK
  | 0 => []
  | k + 1 => tkC s k ++ (if (lookV s k).w = 1 then [tkOf s k] else [])

theorem tkUpto_eq {s : CSt} {p : PSt} (ha : Agree s p) : ∀ k, k ≤ s.nb → tkUpto s p k = tkC s k
  | 0, _ => rfl
  | k + 1, hk => by
    simp only [tkUpto, tkC]
    rw [tkUpto_eq ha k (by omega), ha k (by omega)]
    rfl

theorem mem_tkC {s : CSt} {t : TK} : ∀ k, t ∈ tkC s k ↔ ∃ i, i < k ∧ (lookV s i).w = 1 ∧ t = tkOf s i
  | 0 => by simp [tkC]
  | k + 1 => by
    simp only [tkC, List.mem_append, mem_tkC k]
    constructor
    · rintro (⟨i, h1, h2⟩ | h)
      · exact ⟨i, by omega, h2⟩
      · split at h
        · rename_i hw
          simp only [List.mem_singleton] at h
          exact ⟨k, by omega, hw, h⟩
        · cases h
    · rintro ⟨i, h1, h2, h3⟩
      by_cases e : i = k
      · subst e
        right
        rw [if_pos h2, h3]
        simp
      · left
        exact ⟨i, by omega, h2, h3⟩

theorem lookV_seq {s : CSt} {i : Nat} (ok : s.Ok) (hd : s.dead = false) (hi : i < s.nb) (hw : (lookV s i).w = 1) : ghE (pgL s i 0) = 0 ∧ (lookV s i).s = ghS (pgL s i 0) := by
  have h0 := (lookV_w ok hd hi).1 hw
  refine ⟨h0, ?_⟩
  rw [lookV_of ok hd hi, if_pos h0]

theorem tk_one {s : CSt} {L : Nat} (ok : s.Ok) (hd : s.dead = false) (h : InvC s L) {a b : TK} (ha : a ∈ tkC s s.nb) (hb : b ∈ tkC s s.nb) (e : a.s = b.s) : a = b := by
  obtain ⟨i, hi, hwi, rfl⟩ := (mem_tkC _).1 ha
  obtain ⟨j, hj, hwj, rfl⟩ := (mem_tkC _).1 hb
  by_cases hij : i = j
  · rw [hij]
  · obtain ⟨a0, a1⟩ := lookV_seq ok hd hi hwi
    obtain ⟨b0, b1⟩ := lookV_seq ok hd hj hwj
    have e' : (lookV s i).s = (lookV s j).s := e
    rw [a1, b1] at e'
    exact absurd e' (h.ne i j hi hj hij a0 b0)

/-- Whatever sorts them, the list is one. -/
theorem tk_sorted {s : CSt} {L : Nat} (ok : s.Ok) (hd : s.dead = false) (h : InvC s L) {l l' : List TK} (h1 : l.Perm (tkC s s.nb)) (h2 : l'.Perm (tkC s s.nb)) (p1 : l.Pairwise SeqLe) (p2 : l'.Pairwise SeqLe) : l = l' := by
  refine List.Perm.eq_of_pairwise (le := SeqLe) (fun a b ha hb hab hba => ?_) p1 p2 (h1.trans h2.symm)
  exact tk_one ok hd h (h1.mem_iff.1 ha) (h2.mem_iff.1 hb) (Nat.le_antisymm hab hba)

/-- The reference's insertion: behind all that are not greater. -/
def insR (l : List TK) (t : TK) : List TK := l.takeWhile (fun x => decide (x.s ≤ t.s)) ++ t :: l.dropWhile (fun x => decide (x.s ≤ t.s))
def refL (s : CSt) : Nat → List TK
  | 0 => []
  | k + 1 => if (lookV s k).w = 1 then insR (refL s k) (tkOf s k) else refL s k

theorem insR_perm (l : List TK) (t : TK) : (insR l t).Perm (l ++ [t]) := by
  unfold insR
  have h1 : (l.takeWhile (fun x => decide (x.s ≤ t.s)) ++ t :: l.dropWhile (fun x => decide (x.s ≤ t.s))).Perm (t :: (l.takeWhile (fun x => decide (x.s ≤ t.s)) ++ l.dropWhile (fun x => decide (x.s ≤ t.s)))) := List.perm_middle
  rw [List.takeWhile_append_dropWhile] at h1
  exact h1.trans (List.perm_append_singleton t l).symm

theorem insR_pw {l : List TK} (h : l.Pairwise SeqLe) (t : TK) : (insR l t).Pairwise SeqLe := by
  unfold insR
  have hs : (l.takeWhile (fun x => decide (x.s ≤ t.s)) ++ l.dropWhile (fun x => decide (x.s ≤ t.s))).Pairwise SeqLe := by rw [List.takeWhile_append_dropWhile]; exact h
  rw [List.pairwise_append] at hs
  obtain ⟨q1, q2, q3⟩ := hs
  have hfront : ∀ a ∈ l.takeWhile (fun x => decide (x.s ≤ t.s)), a.s ≤ t.s := fun a ha => by
    have hall : ∀ (m : List TK), a ∈ m.takeWhile (fun x => decide (x.s ≤ t.s)) → a.s ≤ t.s := by
      intro m
      induction m with
      | nil => intro h; cases h
      | cons c m ih =>
        intro h
        rw [List.takeWhile_cons] at h
        split at h
        · rename_i hc
          rcases List.mem_cons.1 h with rfl | h
          · simpa using hc
          · exact ih h
        · cases h
    exact hall l ha
  have hback : ∀ b ∈ l.dropWhile (fun x => decide (x.s ≤ t.s)), t.s ≤ b.s := fun b hb => by
    cases hd : l.dropWhile (fun x => decide (x.s ≤ t.s)) with
    | nil => rw [hd] at hb; cases hb
    | cons c m =>
      have hc : ¬ c.s ≤ t.s := by
        have := List.head_dropWhile_not (p := fun x : TK => decide (x.s ≤ t.s)) (l := l) (by rw [hd]; simp)
        simp only [hd, List.head_cons, decide_eq_false_iff_not] at this
        exact this
      rw [hd] at hb q2
      rcases List.mem_cons.1 hb with rfl | hb
      · omega
      · have := (List.pairwise_cons.1 q2).1 b hb
        unfold SeqLe at this
        omega
  rw [List.pairwise_append]
  refine ⟨q1, List.pairwise_cons.2 ⟨hback, q2⟩, fun a ha b hb => ?_⟩
  rcases List.mem_cons.1 hb with rfl | hb
  · exact hfront a ha
  · exact q3 a ha b hb

theorem refL_perm (s : CSt) : ∀ k, (refL s k).Perm (tkC s k)
  | 0 => List.Perm.refl _
  | k + 1 => by
    simp only [refL, tkC]
    split
    · exact (insR_perm _ _).trans ((refL_perm s k).append_right _)
    · rw [List.append_nil]; exact refL_perm s k
theorem refL_pw (s : CSt) : ∀ k, (refL s k).Pairwise SeqLe
  | 0 => List.Pairwise.nil
  | k + 1 => by
    simp only [refL]
    split
    · exact insR_pw (refL_pw s k) _
    · exact refL_pw s k

/-- THE POOL TELLS WHAT IS READ. -/
theorem tkn_ref {s : CSt} {p : PSt} (ok : s.Ok) (hg : Good s p) : tknL s p = refL s s.nb := by
  have e : tkUpto s p s.nb = tkC s s.nb := tkUpto_eq hg.ag _ (Nat.le_refl _)
  refine tk_sorted ok hg.live hg.inv ?_ (refL_perm s s.nb) ?_ (refL_pw s s.nb)
  · unfold tknL; rw [e]; exact insG_perm _ _
  · unfold tknL; exact insG_pw _

theorem scan_agree (s : CSt) (l : List PB) (hl : l = scanBl s s.nb) (x y : Nat) : Agree s ⟨l, x, y⟩ := fun i hi => by
  show l[i]? = _
  rw [hl, scanBl, List.getElem?_map, List.getElem?_range hi]
  simp [hi]

theorem pw_last {l : List TK} (h : l.Pairwise SeqLe) {t a : TK} (ht : l.getLast? = some t) (ha : a ∈ l) : a.s ≤ t.s := by
  obtain ⟨m, rfl⟩ := List.getLast?_eq_some_iff.1 ht
  rcases List.mem_append.1 ha with h1 | h1
  · rw [List.pairwise_append] at h
    exact h.2.2 a h1 t (by simp)
  · simp only [List.mem_singleton] at h1
    subst h1
    exact Nat.le_refl _

theorem scan_good {s : CSt} {L : Nat} (ok : s.Ok) (hd : s.dead = false) (h : InvC s L) : Good s (scanS s) ∧ (scanS s).last ≤ L ∧ (scanS s).next < s.nb ∧ (scanS s).bl.length = s.nb := by
  have hnb : 0 < s.nb := by have := ok.nb1; omega
  have e : tkUpto s (scan0 s) s.nb = tkC s s.nb := tkUpto_eq (scan_agree s _ rfl 0 0) _ (Nat.le_refl _)
  have hp : (tknL s (scan0 s)).Perm (tkC s s.nb) := by unfold tknL; rw [e]; exact insG_perm _ _
  have hw : (tknL s (scan0 s)).Pairwise SeqLe := by unfold tknL; exact insG_pw _
  have hle : ∀ i, i < s.nb → ghE (pgL s i 0) = 0 → tkOf s i ∈ tknL s (scan0 s) ∧ (tkOf s i).s = ghS (pgL s i 0) := fun i hi h0 => by
    have hw1 := (lookV_w ok hd hi).2 h0
    exact ⟨hp.mem_iff.2 ((mem_tkC _).2 ⟨i, hi, hw1, rfl⟩), (lookV_seq ok hd hi hw1).2⟩
  have hinv : ∀ M, (∀ i, i < s.nb → ghE (pgL s i 0) = 0 → ghS (pgL s i 0) ≤ M) → InvC s M := fun M hM => ⟨fun i hi => by
    rcases h.p0 i hi with h1 | ⟨k, e, q, hh, he, _⟩
    · exact .inl h1
    · obtain ⟨r0, _, _, r3⟩ := ph_reads (ok_pg ok) hh
      refine .inr ⟨k, e, q, hh, he, ?_⟩
      have := hM i hi (by rw [he]; exact r0)
      rwa [he, r3] at this, h.ne⟩
  cases hl : (tknL s (scan0 s)).getLast? with
  | none =>
    have e1 : scanS s = scan0 s := by unfold scanS; rw [hl]
    rw [e1]
    refine ⟨⟨hd, scan_agree s _ rfl _ _, hinv 0 fun i hi h0 => ?_⟩, Nat.zero_le _, hnb, scanBl_len _ _⟩
    have := (hle i hi h0).1
    rw [List.getLast?_eq_none_iff.1 hl] at this
    cases this
  | some t =>
    have e1 : scanS s = ⟨scanBl s s.nb, (t.b + 1) % s.nb, t.s⟩ := by unfold scanS; rw [hl]
    rw [e1]
    refine ⟨⟨hd, scan_agree s _ rfl _ _, hinv t.s fun i hi h0 => ?_⟩, ?_, Nat.mod_lt _ hnb, scanBl_len _ _⟩
    · obtain ⟨h1, h2⟩ := hle i hi h0
      rw [← h2]
      exact pw_last hw hl h1
    · have hmem : t ∈ tknL s (scan0 s) := List.mem_of_getLast? hl
      obtain ⟨i, hi, hwi, rfl⟩ := (mem_tkC _).1 (hp.mem_iff.1 hmem)
      obtain ⟨h0, h1⟩ := lookV_seq ok hd hi hwi
      obtain ⟨k, e, q, hh, he, hq⟩ := h.seq ok hi h0
      show (lookV s i).s ≤ L
      rw [h1, he, (ph_reads (ok_pg ok) hh).2.2.2]
      exact hq

end

section
open Go.ChangeShapes Go.WideShapes Go.ChangeAt Go.RowKit

/-- A block's head, and whether it has one. -/
def HeadR (w : World) (l : List Nat) (e : Ending) (w' : World) : Prop :=
  e = .returned (.tuple #[.agg #[.int .u8 (ghK l : Nat), .int .u32 (ghR l : Nat), .int .u64 (ghS l : Nat)], .bool (decide (ghE l = 0))]) ∧ New w w'

theorem gh_nil : ghE [] = 2 ∧ ghK [] = 0 ∧ ghR [] = 0 ∧ ghS [] = 0 := by decide

set_option maxRecDepth 100000 in
set_option maxHeartbeats 1600000 in
theorem rHead_any (Q : Nat → Prop) (g : Nat) (s : CSt) (b : Int) (w : World) (h : NChip Q w g s) :
    Calls Tryz.prog 47 #[.pointer (some ⟨g, 0, none⟩), .int .i64 b] w (HeadR w (readL s b 0)) := by
  have HC := Lib.hid h
  clear h
  go_enter Tryz.func47, Tryz.ntmps47
  go_wp2_with fail
  have K0 : Hid (New w (w.alloc (.cells #[.int .u8 0, .int .u32 0, .int .u64 0] 34))) := (Kept.refl _ _).alloc _
  have B0 : Hid (Blk (w.alloc (.cells #[.int .u8 0, .int .u32 0, .int .u64 0] 34)) w.heap.size 34 [.int .u8 0, .int .u32 0, .int .u64 0]) := Blk.made w _ _
  have HC0 := Lib.hid (HC.out.new K0.out)
  generalize hwz : w.alloc (.cells #[.int .u8 0, .int .u32 0, .int .u64 0] 34) = wz at *
  clear hwz
  refine (nRead_any _ _ _ b 0 _ HC0.out).mono ?_
  rintro e w1 ⟨A1, c1, rfl, h1, h2⟩
  have O1 := Lib.hid h1
  have K1 := Lib.hid (K0.out.new h2)
  have B1 := Lib.hid (B0.out.new h2)
  have hcl := h1.le
  unfold maxLen at hcl
  clear h1 h2 K0 B0 HC0
  by_cases hr : readE s b 0 = 0
  · rw [hr]
    clear hr
    go_wp2_with fail
    refine (rGetHead_any A1 _ c1 (readL s b 0) _ O1.out.bts hcl.1 (by omega)).mono ?_
    rintro e w2 ⟨rfl, h2⟩
    have K2 := Lib.hid (K1.out.new h2)
    have B2 := Lib.hid (B1.out.new h2)
    clear h2 K1 B1 O1 hcl
    generalize hl : readL s b 0 = l at *
    clear hl
    obtain ⟨w3, hw3⟩ : ∃ w3, w3 = w2.alloc (.cells #[.int .u8 (ghK l : Nat), .int .u32 (ghR l : Nat), .int .u64 (ghS l : Nat)] 34) := ⟨_, rfl⟩
    have H3 : Hid (Blk w3 w2.heap.size 34 [.int .u8 (ghK l : Nat), .int .u32 (ghR l : Nat), .int .u64 (ghS l : Nat)]) := by rw [hw3]; exact Blk.made w2 _ _
    have K3 : Hid (New w w3) := by rw [hw3]; exact K2.out.alloc _
    have B3 : Hid (Blk w3 w.heap.size 34 [.int .u8 0, .int .u32 0, .int .u64 0]) := by rw [hw3]; exact B2.out.alloc _
    have HW3 := Lib.hid hw3
    clear hw3
    go_upto_region 5 with fail
    rw [← HW3.out]
    clear HW3 K2 B2
    have HE : Hid ((ghE l == 0) = decide (ghE l = 0)) := by show _ = _; rw [← Bool.beq_eq_decide_eq]
    have h0 : w3.cell? ⟨w2.heap.size, 0, none⟩ = some (.int .u8 (ghK l : Nat)) := H3.out.cell 0
    have h1 : w3.cell? ⟨w2.heap.size, 1, none⟩ = some (.int .u32 (ghR l : Nat)) := H3.out.cell 1
    have h2 : w3.cell? ⟨w2.heap.size, 2, none⟩ = some (.int .u64 (ghS l : Nat)) := H3.out.cell 2
    have c0 : w3.cell? ⟨w.heap.size, 0, none⟩ = some (.int .u8 0) := B3.out.cell 0
    have c1 : w3.cell? ⟨w.heap.size, 1, none⟩ = some (.int .u32 0) := B3.out.cell 1
    have c2 : w3.cell? ⟨w.heap.size, 2, none⟩ = some (.int .u64 0) := B3.out.cell 2
    have f0 := B3.out.free 0
    have f1 := B3.out.free 1
    have f2 := B3.out.free 2
    obtain ⟨w5, hw5⟩ : ∃ w5, w5 = ((w3.setCell ⟨w.heap.size, 0, none⟩ (.int .u8 (ghK l : Nat))).setCell ⟨w.heap.size, 1, none⟩ (.int .u32 (ghR l : Nat))).setCell ⟨w.heap.size, 2, none⟩ (.int .u64 (ghS l : Nat)) := ⟨_, rfl⟩
    obtain ⟨bs, ks⟩ := head_store B3.out hw5
    have HW5 := Lib.hid hw5
    have BS := Lib.hid bs
    have K5 : Hid (New w w5) := K3.out.trans ks (fun i hi h => by omega)
    clear hw5 bs ks
    generalize hv0 : ghK l = v0 at *
    generalize hv1 : ghR l = v1 at *
    generalize hv2 : ghS l = v2 at *
    have HV := Lib.hid (And.intro hv0 (And.intro hv1 hv2))
    clear hv0 hv1 hv2
    go_wp2
    rw [← HW5.out]
    have d0 := BS.out.cell 0
    have d1 := BS.out.cell 1
    have d2 := BS.out.cell 2
    simp only [List.getElem?_cons_zero, List.getElem?_cons_succ] at d0 d1 d2
    clear HW5 c0 c1 c2 f0 f1 f2
    (try simp only [Exit.inBlock, Exit.then])
    refine bodyPost_ret (by simp [results, Tryz.results47, go_sem, d0, d1, d2]; try rfl) rfl ?_
    exact ⟨by rw [← HE.out, HV.out.1, HV.out.2.1, HV.out.2.2], K5.out⟩
  · have hl : readL s b 0 = [] := by unfold readL; unfold readE at hr; rw [if_neg hr]
    have hq : (readE s b 0 == 0) = false := beq_eq_false_iff_ne.2 hr
    have HLL := Lib.hid hl
    generalize readE s b 0 = x at *
    have c0 : w1.cell? ⟨w.heap.size, 0, none⟩ = some (.int .u8 0) := B1.out.cell 0
    have c1 : w1.cell? ⟨w.heap.size, 1, none⟩ = some (.int .u32 0) := B1.out.cell 1
    have c2 : w1.cell? ⟨w.heap.size, 2, none⟩ = some (.int .u64 0) := B1.out.cell 2
    have f0 := B1.out.free 0
    have f1 := B1.out.free 1
    have f2 := B1.out.free 2
    obtain ⟨w5, hw5⟩ : ∃ w5, w5 = ((w1.setCell ⟨w.heap.size, 0, none⟩ (.int .u8 0)).setCell ⟨w.heap.size, 1, none⟩ (.int .u32 0)).setCell ⟨w.heap.size, 2, none⟩ (.int .u64 0) := ⟨_, rfl⟩
    obtain ⟨bs, ks⟩ := head_store B1.out hw5
    have HW5 := Lib.hid hw5
    have BS := Lib.hid bs
    have K5 : Hid (New w w5) := K1.out.trans ks (fun i hi h => by omega)
    clear hw5 bs ks hl hcl O1
    go_wp2
    rw [← HW5.out]
    have d0 := BS.out.cell 0
    have d1 := BS.out.cell 1
    have d2 := BS.out.cell 2
    simp only [List.getElem?_cons_zero, List.getElem?_cons_succ] at d0 d1 d2
    clear HW5 c0 c1 c2 f0 f1 f2
    (try simp only [Exit.inBlock, Exit.then])
    refine bodyPost_ret (by simp [results, Tryz.results47, go_sem, d0, d1, d2]; try rfl) rfl ?_
    exact ⟨by rw [HLL.out, gh_nil.1, gh_nil.2.1, gh_nil.2.2.1, gh_nil.2.2.2]; rfl, K5.out⟩

set_option maxHeartbeats 800000 in
theorem alive_any (Q : Nat → Prop) (g : Nat) (s : CSt) (w : World) (h : NChip Q w g s) :
    Calls Tryz.prog 14 #[.pointer (some ⟨g, 0, none⟩)] w fun e w' => e = .returned (.bool (!s.dead)) ∧ New w w' := by
  have HC := Lib.hid h
  have HE := Lib.hid (ref00 s h.ok)
  clear h
  go_enter Tryz.func14, Tryz.ntmps14
  go_wp2_with fail
  refine (nRead_any _ _ _ 0 0 _ HC.out).mono ?_
  rintro e w1 ⟨A1, c1, rfl, h1, h2⟩
  cases hd : s.dead with
  | true =>
    have E0 : readE s 0 0 = 10 := by rw [HE.out, hd]; rfl
    rw [E0]
    go_wp2
    go_ret
    exact ⟨by first | rfl | (rw [hd]; rfl) | (simp; done), h2⟩
  | false =>
    have E0 : readE s 0 0 = 0 := by rw [HE.out, hd]; rfl
    rw [E0]
    go_wp2
    go_ret
    exact ⟨by first | rfl | (rw [hd]; rfl) | (simp; done), h2⟩

theorem RowV.take {w : World} {A : Option Addr} {n sz : Nat} {vs : List Value} (h : RowV w A n sz vs) {k : Nat} (hk : k ≤ n) : RowV w A k sz (vs.take (k * sz)) := by
  obtain ⟨hl, hc⟩ := h
  have hm : k * sz ≤ n * sz := Nat.mul_le_mul_right _ hk
  refine ⟨by rw [List.length_take]; omega, fun h0 => ?_⟩
  obtain ⟨g, o, e, hc⟩ := hc (by omega)
  refine ⟨g, o, e, fun j v hj => hc j v ?_⟩
  rw [List.getElem?_take] at hj
  split at hj
  · exact hj
  · cases hj

theorem RowV.cut {w : World} {A : Option Addr} {n c sz : Nat} {vs : List Value} (h : RowV w A n sz vs) {k : Nat} (hk : k ≤ n) (hc : n ≤ c) : RowV w (if c = k then A else A.map (·.add (k * sz))) (n - k) sz (vs.drop (k * sz)) := by
  obtain ⟨hl, hcell⟩ := h
  refine ⟨by rw [List.length_drop, hl, Nat.sub_mul], fun h0 => ?_⟩
  obtain ⟨g, o, rfl, hat⟩ := hcell (by omega)
  rw [if_neg (by omega)]
  refine ⟨g, o + k * sz, by simp [Addr.add_lit], fun j v hv => ?_⟩
  rw [List.getElem?_drop] at hv
  have := hat _ _ hv
  rwa [← Nat.add_assoc] at this

theorem tRow_app (a b : List TK) : tRow (a ++ b) [] = tRow a [] ++ tRow b [] := by
  induction a with
  | nil => rfl
  | cons t a ih => simp only [List.cons_append, tRow, ih, List.append_assoc]

theorem tRow_take (l : List TK) (k : Nat) (hk : k ≤ l.length) : (tRow l []).take (k * 5) = tRow (l.take k) [] := by
  conv => lhs; rw [← List.take_append_drop k l, tRow_app]
  rw [List.take_left' (by rw [tRow_len, List.length_take]; omega)]

theorem tRow_drop (l : List TK) (k : Nat) (hk : k ≤ l.length) : (tRow l []).drop (k * 5) = tRow (l.drop k) [] := by
  conv => lhs; rw [← List.take_append_drop k l, tRow_app]
  rw [List.drop_left' (by rw [tRow_len, List.length_take]; omega)]

theorem tw_at (l : List TK) (S a : Nat) (ha : a ≤ l.length) (h1 : ∀ j, j < a → seqAt l j ≤ S) (h2 : a = l.length ∨ S < seqAt l a) :
    l.takeWhile (fun x => decide (x.s ≤ S)) = l.take a ∧ l.dropWhile (fun x => decide (x.s ≤ S)) = l.drop a := by
  induction l generalizing a with
  | nil => simp
  | cons t l ih =>
    rcases a with _ | a
    · rcases h2 with h2 | h2
      · simp at h2
      · have : ¬ t.s ≤ S := by
          have e : seqAt (t :: l) 0 = t.s := rfl
          omega
        simp [this]
    · have ht : t.s ≤ S := h1 0 (by omega)
      have := ih a (by simpa using ha) (fun j hj => h1 (j + 1) (by omega)) (by
        rcases h2 with h2 | h2
        · left; simpa using h2
        · right; exact h2)
      simp [ht, this.1, this.2]

end

section
open Go.ChangeShapes Go.WideShapes Go.ChangeAt Go.RowKit

/-- Where the reference inserts. -/
def atR (l : List TK) (S : Nat) : Nat := (l.takeWhile (fun x => decide (x.s ≤ S))).length

theorem atR_split (l : List TK) (S : Nat) : l.takeWhile (fun x => decide (x.s ≤ S)) = l.take (atR l S) ∧ l.dropWhile (fun x => decide (x.s ≤ S)) = l.drop (atR l S) := by
  have h := List.takeWhile_append_dropWhile (p := fun x : TK => decide (x.s ≤ S)) (l := l)
  unfold atR
  generalize l.takeWhile (fun x => decide (x.s ≤ S)) = a at *
  generalize l.dropWhile (fun x => decide (x.s ≤ S)) = b at *
  rw [← h]
  exact ⟨(List.take_left' rfl).symm, (List.drop_left' rfl).symm⟩

theorem wpList_append_tk {ops : Array Oper} {rest : List Oper} {o : Oper} {a : Act} {Q : Exit → Act → World → Prop} (w : World) (hgd : o.guard = none) (s x : Operand)
    (ho : o.op = .call { callee := .builtin .append, args := #[s, x], argTypes := #[29, 29] })
    (B : Nat) (A : Option Addr) (n c : Nat) (l : List TK) (hsv : a.eval s = .slice A n c) (hown : OwnV w 36 5 B A n c (tRow l []))
    (A' : Option Addr) (m c' : Nat) (k : List TK) (hx : a.eval x = .slice A' m c') (hr : RowV w A' m 5 (tRow k [])) (hn : n + m ≤ 65) (hbase : B ≤ w.heap.size)
    (h : ∀ A2 c2 w', Hid (OwnV w' 36 5 B A2 (n + m) c2 (tRow (l ++ k) [])) → Hid (w.grownBy w' (A.map (·.block))) → wpList Tryz.prog ops Q rest (a.put o.dst (.slice A2 (n + m) c2)) w') :
    wpList Tryz.prog ops Q (o :: rest) a w := by
  obtain ⟨i0, hi, hz0, hz1, hz2⟩ := info_parts info_taken
  refine wpList_append_rowV w hgd s x 29 ho 36 i0 (.agg #[.int .i64 0, .int .u8 0, .int .u32 0, .int .u64 0, .bool false]) Tryz.underlying29 hi hz0 (by rw [hz1]; rfl) (by omega) B A n c (tRow l []) hsv (by rw [hz1]; exact hown) A' m c' (tRow k []) hx (by rw [hz1]; exact hr) ?_ (by rw [hz2]; omega) (by omega) hbase ?_
  · have key : ∀ (k : List TK), ∀ u ∈ tRow k [], u.oneCell' = true := by
      intro k
      induction k with
      | nil => intro u hu; cases hu
      | cons t k ih =>
        intro u hu
        rcases List.mem_append.1 hu with h | h
        · simp only [TK.cells, List.mem_cons, List.not_mem_nil, or_false] at h
          rcases h with rfl | rfl | rfl | rfl | rfl <;> rfl
        · exact ih u h
    exact key k
  · intro A2 c2 w' h1 h2 _
    refine h A2 c2 w' ?_ h2
    have := h1.out
    rw [hz1] at this
    rw [Hid, tRow_app]
    exact this

set_option maxRecDepth 100000 in
set_option maxHeartbeats 6400000 in
theorem rTaken_any (Q : Nat → Prop) (g : Nat) (s : CSt) (w : World) (h : NChip Q w g s) (h19 : s.nb ≤ 19) :
    Calls Tryz.prog 28 #[.pointer (some ⟨g, 0, none⟩)] w (TknP w (refL s s.nb)) := by
  have HC := Lib.hid h
  have H19 := Lib.hid h19
  have hfd : ∀ w : World, (Instr.field 48 (.agg #[.int .i64 (s.nb : Nat), .int .i64 (s.np : Nat), .int .i64 (s.nz : Nat), .int .i64 (s.ns : Nat)]) 0).run Tryz.prog w = .ok (.int .i64 (s.nb : Nat)) w := fun _ => by kernel_rfl
  have hnb := h.ok.nb2
  clear h
  go_enter Tryz.func28, Tryz.ntmps28
  go_wp2_with fail
  go_loopw [3, 4] (fun ta tk wr => ∃ (k : Nat) (A : Option Addr) (m c : Nat), k ≤ s.nb ∧ m ≤ k ∧ tk = .int .i64 k ∧ ta = .slice A m c ∧ Hid (m = (refL s k).length) ∧ Hid (OwnV wr 36 5 w.heap.size A m c (tRow (refL s k) [])) ∧ Hid (New w wr)) (fun _ i _ => s.nb - (intOf i).toNat)
  case atStart => exact ⟨0, none, 0, 0, Nat.zero_le _, Nat.le_refl _, rfl, rfl, rfl, OwnV.nil _ _ _ _, Kept.refl _ _⟩
  case round =>
    obtain ⟨k, A, m, c, hk, hm, rfl, rfl, VM, VO, VN⟩ := hrel
    go_wp2_with fail
    refine (nGeo_any _ _ _ _ (HC.out.new VN.out)).mono ?_
    rintro e w1 ⟨rfl, k1⟩
    have VO1 := Lib.hid (VO.out.new k1)
    have VN1 := Lib.hid (VN.out.new k1)
    clear k1 VO VN
    by_cases hlt : k < s.nb
    · have HK := Lib.hid hlt
      go_wp2_with fail
      refine (rHead_any _ _ _ k _ (HC.out.new VN1.out)).mono ?_
      rintro e w2 ⟨rfl, k2⟩
      have VO2 := Lib.hid (VO1.out.new k2)
      have VN2 := Lib.hid (VN1.out.new k2)
      clear k2 VO1 VN1
      by_cases hg : ghE (readL s k 0) = 0
      · have hw : (lookV s k).w = 1 := by unfold lookV; rw [if_pos hg]
        have EV : Hid (tkOf s k = ⟨k, ghK (readL s k 0), ghR (readL s k 0), ghS (readL s k 0), badAt s k⟩) := by
          show _ = _
          unfold tkOf lookV
          rw [if_pos hg]
        have ER : Hid (refL s (k + 1) = insR (refL s k) (tkOf s k)) := by show _ = _; simp only [refL]; rw [if_pos hw]
        have hb := Lib.hid (badE_in hlt)
        rw [hg]
        clear hg hw
        generalize ghK (readL s k 0) = v0 at *
        generalize ghR (readL s k 0) = v1 at *
        generalize ghS (readL s k 0) = v2 at *
        obtain ⟨w3, hw3⟩ : ∃ w3, w3 = w2.alloc (.cells #[.int .u8 (v0 : Nat), .int .u32 (v1 : Nat), .int .u64 (v2 : Nat)] 34) := ⟨_, rfl⟩
        have B3 : Hid (Blk w3 w2.heap.size 34 [.int .u8 (v0 : Nat), .int .u32 (v1 : Nat), .int .u64 (v2 : Nat)]) := by rw [hw3]; exact Blk.made w2 _ _
        have VO3 : Hid (OwnV w3 36 5 w.heap.size A m c (tRow (refL s k) [])) := by rw [hw3]; exact VO2.out.new ((Kept.refl _ _).alloc _)
        have VN3 : Hid (New w w3) := by rw [hw3]; exact VN2.out.alloc _
        have HW3 := Lib.hid hw3
        clear hw3 VO2 VN2
        go_upto_region 6 with fail
        rw [← HW3.out]
        clear HW3
        go_upto_block 2 with fail
        go_cut [7] (fun v wx => v = .int .i64 (atR (refL s k) v2 : Nat) ∧ Hid (∃ q : Nat, wx = w3.drewN q))
        case first =>
          have cS : w3.cell? ⟨w2.heap.size, 2, none⟩ = some (.int .u64 (v2 : Nat)) := B3.out.cell 2
          obtain ⟨y, hy⟩ : ∃ y : Int, y = (v2 : Int) := ⟨_, rfl⟩
          rw [← hy] at cS
          have HY := Lib.hid hy
          have hlen := Lib.hid VM.out
          have hrow := Lib.hid VO3.out.row
          clear hy VO3 VN3 B3
          go_wp2_with fail
          go_loopw [7] (fun i wr => ∃ a q : Nat, a ≤ m ∧ i = .int .i64 a ∧ wr = w3.drewN q ∧ Hid (∀ j, j < a → seqAt (refL s k) j ≤ v2)) (fun i _ => m - (intOf i).toNat)
          case atStart => exact ⟨0, 0, Nat.zero_le _, rfl, rfl, fun j hj => absurd hj (by omega)⟩
          case round =>
            obtain ⟨a, q, ha, rfl, rfl, hle⟩ := hrel
            by_cases hlt2 : a < m
            · have hal : a < (refL s k).length := by rw [← hlen.out]; exact hlt2
              obtain ⟨gA, oA, rfl, hcell⟩ := hrow.out.2 (by omega)
              have hget := List.getElem?_eq_getElem hal
              have ct := hcell (a * 5 + 3) _ (tRow_get [] (refL s k) 3 _ a _ hget (by omega) rfl)
              obtain ⟨x, hx⟩ : ∃ x : Int, x = ((refL s k)[a].s : Int) := ⟨_, rfl⟩
              rw [← hx, ← Nat.add_assoc] at ct
              have HX : Hid (x = (seqAt (refL s k) a : Int)) := by rw [Hid, hx, seqAt_get hget]
              have hlt3 : (a : Int) < (m : Int) := by omega
              have dlt : decide ((a : Int) < (m : Int)) = true := decide_eq_true hlt3
              clear hx hget hcell hrow
              by_cases hxy : x ≤ y
              · have dxy : decide (x ≤ y) = true := decide_eq_true hxy
                have HLE : Hid (∀ j, j < a + 1 → seqAt (refL s k) j ≤ v2) := fun j hj => by
                  by_cases e : j = a
                  · subst e
                    have h1 := HX.out
                    have h2 := HY.out
                    omega
                  · exact hle.out j (by omega)
                clear hxy
                go_wp2
                go_quiet (fail)
                go_wp2
                go_roundw
                case rel => exact ⟨a + 1, _, by omega, by go_num, rfl, HLE⟩
                case measure => simp [intOf]; omega
              · have dxy : decide (x ≤ y) = false := decide_eq_false hxy
                have HAT : Hid (a = atR (refL s k) v2) := by
                  show _ = _
                  have h1 := HX.out
                  have h2 := HY.out
                  unfold atR
                  rw [(tw_at (refL s k) v2 a (by omega) hle.out (.inr (by omega))).1, List.length_take]
                  omega
                clear hxy
                go_wp2
                go_quiet (fail)
                go_wp2
                go_meet
                exact ⟨by rw [← HAT.out], ⟨_, World.drewN_drewN _ _ _⟩⟩
            · have e : a = m := by omega
              have HAT : Hid (a = atR (refL s k) v2) := by
                show _ = _
                have h1 := hlen.out
                unfold atR
                rw [(tw_at (refL s k) v2 a (by omega) hle.out (.inl (by omega))).1, List.length_take]
                omega
              have dlt : decide ((a : Int) < (m : Int)) = false := decide_eq_false (by omega)
              clear hrow
              go_wp2
              go_quiet (fail)
              go_wp2
              go_meet
              exact ⟨by rw [← HAT.out], ⟨_, World.drewN_drewN _ _ _⟩⟩
        case rest =>
          obtain ⟨rfl, ⟨q, rfl⟩⟩ := hcut
          have VO4 : Hid (OwnV (w3.drewN q) 36 5 w.heap.size A m c (tRow (refL s k) [])) := VO3.out.drewN q
          have VN4 : Hid (New w (w3.drewN q)) := VN3.out.drewN q
          have B4 : Hid (Blk (w3.drewN q) w2.heap.size 34 [.int .u8 (v0 : Nat), .int .u32 (v1 : Nat), .int .u64 (v2 : Nat)]) := B3.out.drewN q
          clear VO3 VN3 B3
          generalize w3.drewN q = w4 at *
          have hax : atR (refL s k) v2 ≤ m := by
            have h1 := VM.out
            unfold atR
            have := (List.takeWhile_sublist (l := refL s k) (fun x => decide (x.s ≤ v2))).length_le
            omega
          have VN0 := Lib.hid VN4.out.size
          have HA := Lib.hid (atR_split (refL s k) v2)
          generalize atR (refL s k) v2 = a at *
          have HF : Hid (refL s (k + 1) = (refL s k).take a ++ (tkOf s k :: (refL s k).drop a)) := by
            show _ = _
            rw [ER.out]
            unfold insR
            have e2 : (tkOf s k).s = v2 := by rw [EV.out]
            rw [e2, HA.out.1, HA.out.2]
          have hml := Lib.hid VM.out
          have RT : Hid (RowV w4 A a 5 (tRow ((refL s k).take a) [])) := by
            have := VO4.out.row.take hax
            rwa [tRow_take _ _ (by have := hml.out; omega)] at this
          have hcm := VO4.out.2.1
          have RD : Hid (RowV w4 (if c = a then A else A.map (·.add (a * 5))) (m - a) 5 (tRow ((refL s k).drop a) [])) := by
            have := VO4.out.row.cut hax hcm
            rwa [tRow_drop _ _ (by have := hml.out; omega)] at this
          have hm19 : m ≤ 19 := by have := H19.out; omega
          clear VM HA ER
          go_wp2_with (first
            | (at_builtin; refine wpList_append_tk _ rfl _ _ rfl w4.heap.size none 0 0 [] rfl (OwnV.nil _ _ _ _) A a c ((refL s k).take a) rfl RT.out (by omega) (Nat.le_refl _) ?_)
            | fail)
          intro A5 c5 w5 O5 g5
          have K45 : Hid (New w4 w5) := Lib.hid ((Kept.refl _ _).grown g5.out (by simp))
          have VO5 := Lib.hid (VO4.out.new K45.out)
          have RD5 := Lib.hid (RD.out.new K45.out)
          have VN5 := Lib.hid (VN4.out.new K45.out)
          have B5 := Lib.hid (B4.out.new K45.out)
          have HC5 := Lib.hid (HC.out.new VN5.out)
          have L45 := Lib.hid K45.out.size
          have hold : Hid (∀ a', A = some a' → a'.block < w4.heap.size) := fun a' ha' => (VO4.out.at_ a' ha').1.lt
          clear g5 VO4 B4 RT
          have e0 : w5.cell? ⟨w2.heap.size, 0, none⟩ = some (.int .u8 (v0 : Nat)) := B5.out.cell 0
          have e1 : w5.cell? ⟨w2.heap.size, 1, none⟩ = some (.int .u32 (v1 : Nat)) := B5.out.cell 1
          have e2 : w5.cell? ⟨w2.heap.size, 2, none⟩ = some (.int .u64 (v2 : Nat)) := B5.out.cell 2
          have hbl := B5.out.lt
          have EB : Hid (tRow ((refL s k).take a) [] ++ [.int .i64 (k : Nat), .int .u8 (v0 : Nat), .int .u32 (v1 : Nat), .int .u64 (v2 : Nat), .bool (badAt s k)] = tRow ((refL s k).take a ++ [tkOf s k]) []) := by
            show _ = _
            rw [tRow_snoc, EV.out]
            rfl
          generalize badAt s k = bv at *
          have MB : Hid (Blk ((w5.alloc (.cells #[.int .i64 (k : Nat), .int .u8 (v0 : Nat), .int .u32 (v1 : Nat), .int .u64 (v2 : Nat), .bool bv] 36)).drew) w5.heap.size 36 [.int .i64 (k : Nat), .int .u8 (v0 : Nat), .int .u32 (v1 : Nat), .int .u64 (v2 : Nat), .bool bv]) := Blk.made w5 _ _
          have KA : Hid (New w5 ((w5.alloc (.cells #[.int .i64 (k : Nat), .int .u8 (v0 : Nat), .int .u32 (v1 : Nat), .int .u64 (v2 : Nat), .bool bv] 36)).drew)) := ((Kept.refl _ _).alloc _).drew
          have ONE : Hid (∀ u ∈ [Value.int .i64 (k : Nat), .int .u8 (v0 : Nat), .int .u32 (v1 : Nat), .int .u64 (v2 : Nat), .bool bv], u.oneCell' = true) := by intro u hu; simp at hu; rcases hu with rfl | rfl | rfl | rfl | rfl <;> rfl
          have NB : Hid (a + 1 ≤ 65) := by show _ ≤ _; omega
          go_upto_region 12 with fail
          go_region_law (first
            | (with_reducible refine step_append_tk (wb := w5) (o := ⟨some 54, _, _, _, _, _⟩) rfl (.tmp 46) (.tmp 53) rfl w4.heap.size A5 a c5 (tRow ((refL s k).take a) []) ?_ O5.out KA.out w5.heap.size 1 [.int .i64 (k : Nat), .int .u8 (v0 : Nat), .int .u32 (v1 : Nat), .int .u64 (v2 : Nat), .bool bv] ?_ MB.out rfl ONE.out NB.out L45.out ?_; (next => go_simp); (next => go_simp); intro A7 c7 w7 O7 K7)
            | (go_simp; go_at_call 48; refine (nBad_any _ _ _ k _ (by first | exact HC5.out | exact HC5.out.new ((Kept.refl _ _).drew))).mono ?_; rintro e w' ⟨rfl, rfl⟩; rw [hb.out]))
          all_goals
            have E1 : Hid (OwnV w7 36 5 w4.heap.size A7 (a + 1) c7 (tRow ((refL s k).take a ++ [tkOf s k]) [])) := by rw [← EB.out]; exact O7.out
            have N47 : Hid (New w4 w7) := new_of_kept K45.out K7.out fun b' hb' => by
              obtain ⟨a0, ha0, e⟩ := hb'
              have := (O5.out.at_ a0 ha0).2
              omega
            have RD7 := Lib.hid (RD.out.new N47.out)
            have L47 := Lib.hid N47.out.size
            have VN7 := Lib.hid (VN4.out.new N47.out)
            have hsum : a + 1 + (m - a) = m + 1 := by omega
            have HEQ : Hid (refL s (k + 1) = (refL s k).take a ++ (tkOf s k :: (refL s k).drop a)) := HF
            have HLN : Hid (m + 1 = (refL s (k + 1)).length) := by
              have h1 := hml.out
              rw [Hid, HEQ.out, List.length_append, List.length_cons, List.length_take, List.length_drop]
              omega
            have HNB : a + 1 + (m - a) ≤ 65 := by omega
            have hk1 : k + 1 ≤ s.nb := HK.out
            clear O7 K7 e0 e1 e2 hbl EB MB KA ONE NB VO5 RD5 VN5 B5 HC5 L45 hold EV hb O5 K45 RD VN4 HF
            go_wp2_with (first
              | (at_builtin; refine wpList_append_tk _ rfl _ _ rfl w4.heap.size A7 (a + 1) c7 ((refL s k).take a ++ [tkOf s k]) rfl E1.out (if c = a then A else A.map (·.add (a * 5))) (m - a) (c - a) ((refL s k).drop a) rfl RD7.out HNB L47.out ?_)
              | fail)
            all_goals
              intro A9 c9 w9 O9 g9
              have VO9 : Hid (OwnV w9 36 5 w.heap.size A9 (m + 1) c9 (tRow (refL s (k + 1)) [])) := by
                obtain ⟨q1, q2, q3, q4⟩ := O9.out
                rw [HEQ.out]
                refine ⟨q1, q2, q3, q4.imp id ?_⟩
                rintro ⟨g0, sp, r1, r2, r3⟩
                exact ⟨g0, sp, r1, Nat.le_trans VN0.out r2, r3⟩
              have VN9 : Hid (New w w9) := VN7.out.trans (S' := fun b => ∃ a0, A7 = some a0 ∧ a0.block = b) ((Kept.refl _ _).grown g9.out fun b' hb' hr => by
                obtain ⟨a0, ha0, e⟩ := Option.map_eq_some_iff.1 hr
                exact ⟨a0, ha0, e⟩) fun i hi hx => by
                  obtain ⟨a0, ha0, e⟩ := hx
                  have h1 := (E1.out.at_ a0 ha0).2
                  have h2 := VN0.out
                  omega
              clear g9 O9 E1 N47 RD7 L47 VN7 VN0 HEQ HNB
              go_wp2
              go_roundw
              case rel => exact ⟨k + 1, A9, m + 1, c9, hk1, by omega, by go_num, rfl, HLN, VO9, VN9⟩
              case measure => simp [intOf]; omega
      · have hd : decide (ghE (readL s k 0) = 0) = false := decide_eq_false hg
        have hw : ¬ (lookV s k).w = 1 := by unfold lookV; rw [if_neg hg]; show ¬ hlV s k = 1; unfold hlV; split <;> omega
        have ER : Hid (refL s (k + 1) = refL s k) := by show _ = _; simp only [refL]; rw [if_neg hw]
        have VN3 : Hid (New w (w2.alloc (.cells #[.int .u8 (ghK (readL s k 0) : Nat), .int .u32 (ghR (readL s k 0) : Nat), .int .u64 (ghS (readL s k 0) : Nat)] 34))) := VN2.out.alloc _
        have VO3 : Hid (OwnV (w2.alloc (.cells #[.int .u8 (ghK (readL s k 0) : Nat), .int .u32 (ghR (readL s k 0) : Nat), .int .u64 (ghS (readL s k 0) : Nat)] 34)) 36 5 w.heap.size A m c (tRow (refL s (k + 1)) [])) := by rw [ER.out]; exact VO2.out.new ((Kept.refl _ _).alloc _)
        have VM3 : Hid (m = (refL s (k + 1)).length) := by rw [ER.out]; exact VM
        rw [hd]
        clear hg hd hw VN2 VO2 VM ER
        go_wp2
        go_roundw
        case rel => exact ⟨k + 1, A, m, c, by omega, by omega, by go_num, rfl, VM3, VO3, VN3⟩
        case measure => simp [intOf]; omega
    · obtain rfl : k = s.nb := by omega
      have R : Hid (TknP w (refL s s.nb) (.returned (.slice A m c)) w1) := ⟨A, c, by rw [VM.out], by rw [← VM.out]; exact VO1.out, VN1.out⟩
      clear VO1 VN1
      go_wp2
      go_ret
      exact R.out

end

section
open Go.ChangeShapes Go.WideShapes Go.ChangeAt Go.RowKit

/-- How many blocks below k have no head, and are not bad. -/
def bkN (s : CSt) : Nat → Nat
  | 0 => 0
  | k + 1 => bkN s k + (if ghE (readL s k 0) ≠ 0 ∧ badAt s k = false then 1 else 0)
theorem bkN_le (s : CSt) : ∀ k, bkN s k ≤ k := by
  intro k
  induction k with
  | zero => exact Nat.le_refl _
  | succ k ih => simp only [bkN]; split <;> omega
theorem bkN_fr {s : CSt} {p : PSt} (ok : s.Ok) (hg : Good s p) : ∀ k, k ≤ s.nb → frN s p k = bkN s k := by
  intro k
  induction k with
  | zero => intro _; rfl
  | succ k ih =>
    intro hk
    have h1 := frV_of hg.ag (i := k) (by omega)
    have h2 := lookV_w ok hg.live (i := k) (by omega)
    have h3 := readL_pg (s := s) (i := k) (q := 0) hg.live (by omega) (by have := ok.np1; omega)
    have h4 : (readL s k 0) = pgL s k 0 := by simpa using h3
    simp only [frN, bkN]
    rw [ih (by omega), h1]
    congr 1
    have h5 : (pgL s (k : Nat) ((0 : Nat) : Int)) = pgL s k 0 := rfl
    by_cases hb : badAt s k = false
    · by_cases he : ghE (readL s k 0) = 0
      · have : (lookV s k).w = 1 := h2.2 (by rw [h4] at he; exact he)
        rw [hb, this, if_neg (by simp), if_neg (fun x => x.1 he)]
      · have : (lookV s k).w ≠ 1 := fun x => he (by rw [h4]; exact h2.1 x)
        rw [hb, if_pos (by simp [this]), if_pos ⟨he, rfl⟩]
    · have hb2 : badAt s k = true := by simpa using hb
      rw [hb2, if_neg (by simp), if_neg (fun x => absurd x.2 (by simp))]

set_option maxRecDepth 100000 in
set_option maxHeartbeats 1600000 in
theorem rBlanks_any (Q : Nat → Prop) (g : Nat) (s : CSt) (w : World) (h : NChip Q w g s) :
    Calls Tryz.prog 30 #[.pointer (some ⟨g, 0, none⟩)] w fun e w' => e = .returned (.int .i64 (bkN s s.nb : Nat)) ∧ New w w' := by
  have HC := Lib.hid h
  have hfd : ∀ w : World, (Instr.field 48 (.agg #[.int .i64 (s.nb : Nat), .int .i64 (s.np : Nat), .int .i64 (s.nz : Nat), .int .i64 (s.ns : Nat)]) 0).run Tryz.prog w = .ok (.int .i64 (s.nb : Nat)) w := fun _ => by kernel_rfl
  have hnb := h.ok.nb2
  clear h
  go_enter Tryz.func30, Tryz.ntmps30
  go_wp2_with fail
  go_loopw [3, 4] (fun tn ti wr => ∃ k : Nat, k ≤ s.nb ∧ ti = .int .i64 k ∧ tn = .int .i64 (bkN s k : Nat) ∧ Hid (New w wr)) (fun _ i _ => s.nb - (intOf i).toNat)
  case atStart => exact ⟨0, Nat.zero_le _, rfl, rfl, Kept.refl _ _⟩
  case round =>
    obtain ⟨k, hk, rfl, rfl, VN⟩ := hrel
    have hbl := bkN_le s k
    go_wp2_with fail
    refine (nGeo_any _ _ _ _ (HC.out.new VN.out)).mono ?_
    rintro e w1 ⟨rfl, k1⟩
    have VN1 := Lib.hid (VN.out.new k1)
    clear k1 VN
    by_cases hlt : k < s.nb
    · have HB := Lib.hid (badE_in hlt)
      go_wp2_with fail
      refine (rHead_any _ _ _ k _ (HC.out.new VN1.out)).mono ?_
      rintro e w2 ⟨rfl, k2⟩
      have VN2 := Lib.hid (VN1.out.new k2)
      clear k2 VN1
      have VN3 : Hid (New w (w2.alloc (.cells #[.int .u8 (ghK (readL s k 0) : Nat), .int .u32 (ghR (readL s k 0) : Nat), .int .u64 (ghS (readL s k 0) : Nat)] 34))) := VN2.out.alloc _
      by_cases hg : ghE (readL s k 0) = 0
      · have E : Hid (bkN s (k + 1) = bkN s k) := by show _ = _; simp only [bkN]; rw [if_neg (fun x => x.1 hg)]; rfl
        rw [hg]
        clear hg
        go_wp2_with fail
        go_roundw
        case rel => exact ⟨k + 1, by omega, by go_num, by rw [E.out], VN3⟩
        case measure => simp [intOf]; omega
      · have hd : decide (ghE (readL s k 0) = 0) = false := decide_eq_false hg
        rw [hd]
        cases hb : badAt s k with
        | true =>
          have E : Hid (bkN s (k + 1) = bkN s k) := by show _ = _; simp only [bkN]; rw [if_neg (fun x => absurd x.2 (by rw [hb]; simp))]; rfl
          rw [hb] at HB
          clear hg hd hb
          go_wp2_with fail
          refine (nBad_any _ _ _ k _ (HC.out.new VN3.out)).mono ?_
          rintro e w' ⟨rfl, rfl⟩
          rw [HB.out]
          go_wp2_with fail
          go_roundw
          case rel => exact ⟨k + 1, by omega, by go_num, by rw [E.out], VN3⟩
          case measure => simp [intOf]; omega
        | false =>
          have E : Hid (bkN s (k + 1) = bkN s k + 1) := by show _ = _; simp only [bkN]; rw [if_pos ⟨hg, hb⟩]
          rw [hb] at HB
          clear hg hd hb
          go_wp2_with fail
          refine (nBad_any _ _ _ k _ (HC.out.new VN3.out)).mono ?_
          rintro e w' ⟨rfl, rfl⟩
          rw [HB.out]
          go_wp2_with fail
          go_roundw
          case rel => exact ⟨k + 1, by omega, by go_num, by rw [E.out]; go_num, VN3⟩
          case measure => simp [intOf]; omega
    · obtain rfl : k = s.nb := by omega
      go_wp2
      go_ret
      exact ⟨rfl, VN1.out⟩

/-- The greatest Seq of the first k. -/
def lastU (l : List TK) : Nat → Nat
  | 0 => 0
  | k + 1 => if lastU l k ≤ seqAt l k then seqAt l k else lastU l k
theorem lastU_le (l : List TK) (L : Nat) (h : ∀ t ∈ l, t.s ≤ L) : ∀ k, k ≤ l.length → lastU l k ≤ L := by
  intro k
  induction k with
  | zero => intro _; exact Nat.zero_le _
  | succ k ih =>
    intro hk
    have hget := List.getElem?_eq_getElem (l := l) (i := k) (by omega)
    have h1 := h _ (List.mem_of_getElem? hget)
    have h2 := ih (by omega)
    simp only [lastU]
    rw [seqAt_get hget]
    split <;> omega

set_option maxRecDepth 100000 in
set_option maxHeartbeats 1600000 in
theorem rLast_any (Q : Nat → Prop) (g : Nat) (s : CSt) (w : World) (h : NChip Q w g s) (h19 : s.nb ≤ 19) :
    Calls Tryz.prog 32 #[.pointer (some ⟨g, 0, none⟩)] w fun e w' => e = .returned (.int .u64 (lastU (refL s s.nb) (refL s s.nb).length : Nat)) ∧ New w w' := by
  have HC := Lib.hid h
  have H19 := Lib.hid h19
  clear h h19
  go_enter Tryz.func32, Tryz.ntmps32
  go_wp2_with fail
  refine (rTaken_any _ _ _ _ HC.out H19.out).mono ?_
  rintro e w1 ⟨A, c, rfl, h1, h2⟩
  have VO := Lib.hid h1.row
  have N1 := Lib.hid h2
  have hcap : (refL s s.nb).length ≤ maxLen := Nat.le_trans h1.2.1 h1.2.2.1
  unfold maxLen at hcap
  clear h1 h2 HC H19
  generalize hl : refL s s.nb = l at *
  have HL := Lib.hid hl
  clear hl
  go_wp2_with fail
  go_loopw [3, 5] (fun tn ti wr => ∃ k q : Nat, k ≤ l.length ∧ ti = .int .i64 k ∧ tn = .int .u64 (lastU l k : Nat) ∧ wr = w1.drewN q) (fun _ i _ => l.length - (intOf i).toNat)
  case atStart => exact ⟨0, 0, Nat.zero_le _, rfl, rfl, rfl⟩
  case round =>
    obtain ⟨k, q, hk, rfl, rfl, rfl⟩ := hrel
    by_cases hlt : k < l.length
    · have hget := List.getElem?_eq_getElem hlt
      obtain ⟨gA, oA, rfl, hcell⟩ := VO.out.2 (by omega)
      have ct := hcell (k * 5 + 3) _ (tRow_get [] l 3 _ k _ hget (by omega) rfl)
      have HS : Hid (l[k].s = seqAt l k) := (seqAt_get hget).symm
      rw [← Nat.add_assoc, HS.out] at ct
      clear hcell hget HS
      by_cases hle : lastU l k ≤ seqAt l k
      · have E : Hid (lastU l (k + 1) = seqAt l k) := by show _ = _; simp only [lastU]; rw [if_pos hle]
        generalize lastU l k = x at *
        generalize seqAt l k = y at *
        have d1 : decide ((x : Int) ≤ (y : Int)) = true := decide_eq_true (by omega)
        have d2 : decide ((y : Int) < (x : Int)) = false := decide_eq_false (by omega)
        have d3 : max (x : Int) (y : Int) = (y : Int) := by omega
        go_wp2
        go_roundw
        case rel => exact ⟨k + 1, q, by omega, by go_num, by rw [E.out]; congr 1; split <;> omega, rfl⟩
        case measure => simp [intOf]; omega
      · have E : Hid (lastU l (k + 1) = lastU l k) := by show _ = _; simp only [lastU]; rw [if_neg hle]
        generalize lastU l k = x at *
        generalize seqAt l k = y at *
        have d1 : decide ((x : Int) ≤ (y : Int)) = false := decide_eq_false (by omega)
        have d2 : decide ((y : Int) < (x : Int)) = true := decide_eq_true (by omega)
        have d3 : max (x : Int) (y : Int) = (x : Int) := by omega
        go_wp2
        go_roundw
        case rel => exact ⟨k + 1, q, by omega, by go_num, by rw [E.out]; try (congr 1; split <;> omega), rfl⟩
        case measure => simp [intOf]; omega
    · obtain rfl : k = l.length := by omega
      go_wp2
      go_ret
      exact ⟨by rw [HL.out]; rfl, N1.out.drewN _⟩

end

section
open Go.ChangeShapes Go.WideShapes Go.ChangeAt Go.RowKit

theorem info_chip : (Tryz.prog.info? 61).isSome = true := by kernel_rfl

theorem mem_refL {s : CSt} {t : TK} (k : Nat) : t ∈ refL s k ↔ ∃ i, i < k ∧ (lookV s i).w = 1 ∧ t = tkOf s i := by
  rw [← mem_tkC]
  exact (refL_perm s k).mem_iff

theorem refL_last {s : CSt} {p : PSt} (ok : s.Ok) (hg : Good s p) : ∀ t ∈ refL s s.nb, t.s ≤ p.last := by
  intro t ht
  obtain ⟨i, hi, hw, rfl⟩ := (mem_refL _).1 ht
  obtain ⟨h0, h1⟩ := lookV_seq ok hg.live hi hw
  obtain ⟨k, e, q, hh, he, hq⟩ := hg.inv.seq ok hi h0
  show (lookV s i).s ≤ _
  rw [h1, he, (ph_reads (ok_pg ok) hh).2.2.2]
  exact hq

set_option maxRecDepth 100000 in
set_option maxHeartbeats 3200000 in
theorem same_ok (Q : Nat → Prop) (gp gb g : Nat) (s : CSt) (p : PSt) (w : World) (h : PRep Q w gp gb g s p) (hg : Good s p) (h19 : s.nb ≤ 19) :
    Calls Tryz.prog 8 #[.pointer (some ⟨gp, 0, none⟩), .pointer (some ⟨g, 0, none⟩)] w fun e w' => e = .returned (.bool true) ∧ New w w' := by
  have HP := Lib.hid h
  have H19 := Lib.hid h19
  have ET := Lib.hid (tkn_ref h.chip.ok hg)
  have EB := Lib.hid (bkN_fr h.chip.ok hg s.nb (Nat.le_refl _))
  have EL : Hid (lastU (refL s s.nb) (refL s s.nb).length ≤ p.last) := lastU_le _ _ (refL_last h.chip.ok hg) _ (Nat.le_refl _)
  clear h hg h19
  have hpn : ∀ w : World, (binOp .neq 23 (.pointer (some ⟨g, 0, none⟩)) (.pointer (some ⟨g, 0, none⟩))).run Tryz.prog w = .ok (.bool false) w := fun w => by
    obtain ⟨j, hj⟩ : ∃ j, Tryz.prog.info? 61 = some j := Option.isSome_iff_exists.1 info_chip
    exact Lib.run_neq_ptr_same w ⟨g, 0, none⟩ Tryz.underlying23 hj
  go_enter Tryz.func8, Tryz.ntmps8
  go_wp2_with fail
  refine (pTaken_any _ _ _ _ _ _ _ HP.out H19.out).mono ?_
  rintro e w1 ⟨A, c, rfl, h1, h2⟩
  rw [ET.out] at h1 ⊢
  have V1 := Lib.hid h1.row
  have N1 := Lib.hid h2
  have hcap : (refL s s.nb).length ≤ maxLen := Nat.le_trans h1.2.1 h1.2.2.1
  unfold maxLen at hcap
  clear h1 h2
  go_wp2_with fail
  refine (rTaken_any _ _ _ _ (HP.out.chip.new N1.out) H19.out).mono ?_
  rintro e w2 ⟨A2, c2, rfl, h1, h2⟩
  have V2 := Lib.hid h1.row
  have V1b := Lib.hid (V1.out.new h2)
  have N2 := Lib.hid (N1.out.new h2)
  clear h1 h2 V1 N1
  have P2 := Lib.hid (HP.out.new N2.out)
  go_wp2_with fail
  refine (pBlanks_any _ _ _ _ _ _ _ P2.out).mono ?_
  rintro e w' ⟨rfl, rfl⟩
  rw [EB.out]
  go_wp2_with fail
  refine (rBlanks_any _ _ _ _ P2.out.chip).mono ?_
  rintro e w3 ⟨rfl, h2⟩
  have V13 := Lib.hid (V1b.out.new h2)
  have V23 := Lib.hid (V2.out.new h2)
  have P3 := Lib.hid (P2.out.new h2)
  have N3 := Lib.hid (N2.out.new h2)
  clear h2 V1b V2 P2 N2
  go_wp2_with fail
  refine (pLast_any _ _ _ _ _ _ _ P3.out).mono ?_
  rintro e w' ⟨rfl, rfl⟩
  go_wp2_with fail
  refine (rLast_any _ _ _ _ P3.out.chip H19.out).mono ?_
  rintro e w4 ⟨rfl, h2⟩
  have V14 := Lib.hid (V13.out.new h2)
  have V24 := Lib.hid (V23.out.new h2)
  have P4 := Lib.hid (P3.out.new h2)
  have N4 := Lib.hid (N3.out.new h2)
  clear h2 V13 V23 P3 N3
  have hlt2 : decide (p.last < lastU (refL s s.nb) (refL s s.nb).length) = false := decide_eq_false (by have := EL.out; omega)
  have hlt : decide ((p.last : Int) < ((lastU (refL s s.nb) (refL s s.nb).length : Nat) : Int)) = false := decide_eq_false (by have := EL.out; omega)
  generalize lastU (refL s s.nb) (refL s s.nb).length = u at *
  go_wp2_with fail
  refine (pChip_any _ _ _ _ _ _ _ P4.out).mono ?_
  rintro e w' ⟨rfl, rfl⟩
  clear P4 HP ET EB EL
  generalize refL s s.nb = l at *
  go_wp2_with fail
  go_loopw [7] (fun ti wr => ∃ k q : Nat, k ≤ l.length ∧ ti = .int .i64 k ∧ wr = w4.drewN q) (fun i _ => l.length - (intOf i).toNat)
  case atStart => exact ⟨0, 0, Nat.zero_le _, rfl, rfl⟩
  case round =>
    obtain ⟨k, q, hk, rfl, rfl⟩ := hrel
    by_cases hlt : k < l.length
    · have hget := List.getElem?_eq_getElem hlt
      obtain ⟨gA, oA, rfl, hcell⟩ := V14.out.2 (by omega)
      obtain ⟨gB, oB, rfl, hcell2⟩ := V24.out.2 (by omega)
      have hc : ∀ (j : Nat) (v : Value), j < 5 → l[k].cells[j]? = some v → w4.cell? ⟨gA, oA + k * 5 + j, none⟩ = some v := fun j v h1 h2 => by
        rw [Nat.add_assoc]; exact hcell _ _ (tRow_get [] l j v k _ hget h1 h2)
      have hc2 : ∀ (j : Nat) (v : Value), j < 5 → l[k].cells[j]? = some v → w4.cell? ⟨gB, oB + k * 5 + j, none⟩ = some v := fun j v h1 h2 => by
        rw [Nat.add_assoc]; exact hcell2 _ _ (tRow_get [] l j v k _ hget h1 h2)
      have k0 : w4.cell? ⟨gA, oA + k * 5, none⟩ = some (.int .i64 (l[k].b : Nat)) := hc 0 _ (by omega) rfl
      have k1 : w4.cell? ⟨gA, oA + k * 5 + 1, none⟩ = some (.int .u8 (l[k].k : Nat)) := hc 1 _ (by omega) rfl
      have k2 : w4.cell? ⟨gA, oA + k * 5 + 2, none⟩ = some (.int .u32 (l[k].e : Nat)) := hc 2 _ (by omega) rfl
      have k3 : w4.cell? ⟨gA, oA + k * 5 + 3, none⟩ = some (.int .u64 (l[k].s : Nat)) := hc 3 _ (by omega) rfl
      have k4 : w4.cell? ⟨gA, oA + k * 5 + 4, none⟩ = some (.bool l[k].bad) := hc 4 _ (by omega) rfl
      have m0 : w4.cell? ⟨gB, oB + k * 5, none⟩ = some (.int .i64 (l[k].b : Nat)) := hc2 0 _ (by omega) rfl
      have m1 : w4.cell? ⟨gB, oB + k * 5 + 1, none⟩ = some (.int .u8 (l[k].k : Nat)) := hc2 1 _ (by omega) rfl
      have m2 : w4.cell? ⟨gB, oB + k * 5 + 2, none⟩ = some (.int .u32 (l[k].e : Nat)) := hc2 2 _ (by omega) rfl
      have m3 : w4.cell? ⟨gB, oB + k * 5 + 3, none⟩ = some (.int .u64 (l[k].s : Nat)) := hc2 3 _ (by omega) rfl
      have m4 : w4.cell? ⟨gB, oB + k * 5 + 4, none⟩ = some (.bool l[k].bad) := hc2 4 _ (by omega) rfl
      have hlt3 : (k : Int) < (l.length : Int) := by omega
      clear hc hc2 hcell hcell2 hget V14 V24
      generalize ((l[k].b : Nat) : Int) = x0 at *
      generalize ((l[k].k : Nat) : Int) = x1 at *
      generalize ((l[k].e : Nat) : Int) = x2 at *
      generalize ((l[k].s : Nat) : Int) = x3 at *
      generalize l[k].bad = x4 at *
      go_wp2
      go_quiet (fail)
      go_wp2
      go_roundw
      case rel => exact ⟨k + 1, _, by omega, by go_num, rfl⟩
      case measure => simp [intOf]; omega
    · obtain rfl : k = l.length := by omega
      go_wp2
      go_ret
      exact ⟨rfl, N4.out.drewN _⟩

end

end Go.Proofs.YtgfdiboaiifdnaaGreat
