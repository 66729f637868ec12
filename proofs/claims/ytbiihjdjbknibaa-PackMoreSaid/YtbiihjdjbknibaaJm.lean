/-
  Mathematics (no program): a body says its changes; a body that says changes is theirs; nothing shorter says any.
-/
import Derived.Test.YtbiihjdjbknibaaJi
namespace Go.Proofs.Ytbiihjdjbknibaa
set_option maxRecDepth 100000

theorem te1 {q : List Nat} (h : takeE q 1 = 0) : ∃ a r, q = a :: r := by
  cases q with
  | nil => unfold takeE at h; rw [if_pos sz1, if_neg (by simp)] at h; omega
  | cons a r => exact ⟨a, r, rfl⟩

theorem te2 {q : List Nat} (h : takeE q 2 = 0) : ∃ a b r, q = a :: b :: r := by
  match q with
  | [] => unfold takeE at h; rw [if_pos sz2, if_neg (by simp)] at h; omega
  | [_] => unfold takeE at h; rw [if_pos sz2, if_neg (by simp)] at h; omega
  | a :: b :: r => exact ⟨a, b, r, rfl⟩

theorem re0 {q : List Nat} (h : rwE q = 0) : ∃ m s, q = m :: s ∧ m ≤ s.length ∧ rwL q = s.take m ∧ rwR q = s.drop m := by
  cases q with
  | nil => cases h
  | cons m s =>
    by_cases hm : m ≤ s.length
    · refine ⟨m, s, rfl, hm, ?_, ?_⟩
      · show (if m ≤ s.length then s.take m else []) = _
        rw [if_pos hm]
      · show (if m ≤ s.length then s.drop m else []) = _
        rw [if_pos hm]
    · exfalso
      have h : (if m ≤ s.length then (0 : Int) else 4) = 0 := h
      rw [if_neg hm] at h
      omega

theorem re_back (v r : List Nat) : rwE (v.length :: v ++ r) = 0 ∧ rwL (v.length :: v ++ r) = v ∧ rwR (v.length :: v ++ r) = r := by
  have h : v.length ≤ (v ++ r).length := by rw [List.length_append]; omega
  refine ⟨?_, ?_, ?_⟩
  · show (if v.length ≤ (v ++ r).length then (0 : Int) else 4) = 0
    rw [if_pos h]
  · show (if v.length ≤ (v ++ r).length then (v ++ r).take v.length else []) = v
    rw [if_pos h, List.take_left]
  · show (if v.length ≤ (v ++ r).length then (v ++ r).drop v.length else []) = r
    rw [if_pos h, List.drop_left]

/-- A key that is read has just these bytes. -/
theorem key_only {q : List Nat} (hb : ∀ x ∈ q, x < 256) (h : gkE q = 0) : mayK (gkK q) = true ∧ keyB (gkK q) ++ tkR q = q := by
  have h1 : tkE q = 0 ∧ mayK (tkK q) = true := by
    unfold gkE at h
    by_cases ht : tkE q = 0
    · rw [if_neg (by rw [ht]; simp)] at h
      cases hm : mayK (tkK q)
      · rw [hm, if_neg (by decide)] at h; omega
      · exact ⟨ht, rfl⟩
    · rw [if_pos ht] at h; exact absurd h ht
  have hK : gkK q = tkK q := by unfold gkK; rw [if_pos h]
  rw [hK]
  refine ⟨h1.2, ?_⟩
  have hE := h1.1
  have eE : tkE q = if takeE q 2 ≠ 0 then takeE q 2 else if takeE (takeL q 2) 1 ≠ 0 then takeE (takeL q 2) 1 else if takeV (takeL q 2) 1 = 2 then rwE (takeL (takeL q 2) 1) else if takeV (takeL q 2) 1 = 3 then takeE (takeL (takeL q 2) 1) 1 else 0 := rfl
  have eR : tkR q = if takeE q 2 ≠ 0 then takeL q 2 else if takeE (takeL q 2) 1 ≠ 0 then takeL (takeL q 2) 1 else if takeV (takeL q 2) 1 = 2 then rwR (takeL (takeL q 2) 1) else if takeV (takeL q 2) 1 = 3 then takeL (takeL (takeL q 2) 1) 1 else takeL (takeL q 2) 1 := rfl
  have eK : tkK q = ⟨(takeV q 2 : Nat), takeV (takeL q 2) 1, if takeV (takeL q 2) 1 = 2 then strN (rwL (takeL (takeL q 2) 1)) else ⟨#[]⟩, if takeV (takeL q 2) 1 = 3 then (takeV (takeL (takeL q 2) 1) 1 : Nat) else 0⟩ := rfl
  have t2 : takeE q 2 = 0 := by
    by_cases ht : takeE q 2 = 0
    · exact ht
    · rw [eE, if_pos ht] at hE; exact absurd hE ht
  obtain ⟨a, b, r, rfl⟩ := te2 t2
  obtain ⟨_, v2, l2⟩ := take2 a b r
  have t3 : takeE r 1 = 0 := by
    by_cases ht : takeE r 1 = 0
    · exact ht
    · rw [eE, if_neg (by rw [t2]; simp), l2, if_pos ht] at hE; exact absurd hE ht
  obtain ⟨t, s, rfl⟩ := te1 t3
  obtain ⟨_, v3, l3⟩ := take1 t s
  rw [if_neg (by rw [t2]; simp), l2, if_neg (by rw [t3]; simp), v3, l3] at eE eR
  rw [v2, l2, v3, l3] at eK
  have ha := hb a (by simp)
  have hb2 := hb b (by simp)
  have hs : ∀ x ∈ s, x < 256 := fun x hx => hb x (by simp [hx])
  have hi : ((a + 256 * b : Nat) : Int).toNat = a + 256 * b := by omega
  rw [hE] at eE
  unfold keyB
  rw [eK]
  dsimp only
  rw [hi, show (a + 256 * b) % 256 = a by omega, show (a + 256 * b) / 256 % 256 = b by omega]
  by_cases k2 : t = 2
  · rw [if_pos k2] at eE eR
    obtain ⟨m, u, rfl, hm, e1, e2⟩ := re0 eE.symm
    have hu : ∀ x ∈ u.take m, x < 256 := fun x hx => hs x (List.mem_cons_of_mem _ (List.mem_of_mem_take hx))
    have e3 : (strN (u.take m)).size = m := by rw [strN_size, List.length_take]; omega
    unfold restK
    dsimp only
    rw [if_pos k2, if_pos k2, e1, e3, nB_strN hu, eR, e2]
    simp
  · rw [if_neg k2] at eE eR
    by_cases k3 : t = 3
    · rw [if_pos k3] at eE eR
      obtain ⟨x, u, rfl⟩ := te1 eE.symm
      obtain ⟨_, v4, l4⟩ := take1 x u
      unfold restK
      dsimp only
      rw [if_neg k2, if_pos k3, if_pos k3, v4, eR, l4]
      simp
    · rw [if_neg k3] at eR
      unfold restK
      dsimp only
      rw [if_neg k2, if_neg k3, eR]
      simp

/-- A change comes back of its bytes. -/
theorem ch_back {f : CT} (hf : mayC f = true) (r : List Nat) : chE (chB f ++ r) = 0 ∧ chC (chB f ++ r) = f ∧ chR (chB f ++ r) = r := by
  obtain ⟨hk, hv, hg, hn⟩ := mayC_parts hf
  obtain ⟨k, v, g⟩ := f
  dsimp only at *
  cases g
  · have hl := hn rfl
    have e0 : chB ⟨k, v, false⟩ = 1 :: (keyB k ++ (v.length :: v)) := by unfold chB rowL; dsimp only; rw [if_neg (by decide), if_pos hv]
    have e : chB ⟨k, v, false⟩ ++ r = 1 :: (keyB k ++ (v.length :: v ++ r)) := by rw [e0]; simp
    obtain ⟨k1, k2, k3⟩ := key_back hk (v.length :: v ++ r)
    obtain ⟨r1, r2, r3⟩ := re_back v r
    rw [e]
    obtain ⟨t1, t2, t3⟩ := take1 1 (keyB k ++ (v.length :: v ++ r))
    refine ⟨?_, ?_, ?_⟩
    · rw [chE_val t1 (by rw [t2]; omega) (by rw [t2]; omega) (by rw [t3]; exact k1), t3, k3]
      exact vlE_ok r1 (by rw [r2]; omega)
    · unfold chC
      rw [t2, t3, k2, k3, if_neg (by omega), r2]
      rfl
    · unfold chR
      rw [t2, t3, k3, if_neg (by omega), r3]
  · have hl := hg rfl
    subst hl
    have e : chB ⟨k, [], true⟩ ++ r = 0 :: (keyB k ++ r) := by unfold chB; rw [if_pos rfl]; simp
    obtain ⟨k1, k2, k3⟩ := key_back hk r
    rw [e]
    obtain ⟨t1, t2, t3⟩ := take1 0 (keyB k ++ r)
    refine ⟨?_, ?_, ?_⟩
    · exact chE_gone t1 t2 (by rw [t3]; exact k1)
    · unfold chC
      rw [t2, t3, k2, if_pos rfl]
      rfl
    · unfold chR
      rw [t2, t3, k3, if_pos rfl]

/-- A change that is read has just these bytes, and may be. -/
theorem ch_only {q : List Nat} (hb : ∀ x ∈ q, x < 256) (h : chE q = 0) : mayC (chC q) = true ∧ chB (chC q) ++ chR q = q := by
  have g0 : gnE q = 0 := by
    by_cases hg : gnE q = 0
    · exact hg
    · unfold chE at h; rw [if_pos hg] at h; exact absurd h hg
  have t0 : takeE q 1 = 0 := by
    by_cases ht : takeE q 1 = 0
    · exact ht
    · unfold gnE at g0; rw [if_pos ht] at g0; exact absurd g0 ht
  have v1 : ¬ 1 < takeV q 1 := fun hv => by unfold gnE at g0; rw [if_neg (by rw [t0]; simp), if_pos hv] at g0; omega
  have k0 : gkE (takeL q 1) = 0 := by
    by_cases hk : gkE (takeL q 1) = 0
    · exact hk
    · unfold chE at h; rw [if_neg (by rw [g0]; simp), if_pos hk] at h; exact absurd h hk
  obtain ⟨a, r, rfl⟩ := te1 t0
  obtain ⟨_, v2, l2⟩ := take1 a r
  rw [v2] at v1
  rw [l2] at k0
  have hr : ∀ x ∈ r, x < 256 := fun x hx => hb x (List.mem_cons_of_mem _ hx)
  obtain ⟨m1, m2⟩ := key_only hr k0
  by_cases ha : a = 0
  · have e : chC (a :: r) = ⟨gkK r, [], true⟩ := by unfold chC; rw [v2, l2, if_pos ha, decide_eq_true ha]
    have e2 : chR (a :: r) = tkR r := by unfold chR; rw [v2, l2, if_pos ha]
    rw [e, e2]
    refine ⟨by rw [mayC_g m1 rfl]; rfl, ?_⟩
    unfold chB
    rw [if_pos rfl, List.cons_append, m2, ha]
  · have e : chC (a :: r) = ⟨gkK r, rwL (tkR r), false⟩ := by unfold chC; rw [v2, l2, if_neg ha, decide_eq_false ha]
    have e2 : chR (a :: r) = rwR (tkR r) := by unfold chR; rw [v2, l2, if_neg ha]
    have hvl : vlE (tkR r) = 0 := by rw [chE_val t0 (by rw [v2]; exact v1) (by rw [v2]; exact ha) (by rw [l2]; exact k0), l2] at h; exact h
    have r0 : rwE (tkR r) = 0 := by
      by_cases hx : rwE (tkR r) = 0
      · exact hx
      · rw [vlE_row hx] at hvl; exact absurd hvl hx
    have n0 : (rwL (tkR r)).length ≠ 0 := fun hx => by rw [vlE_no r0 hx] at hvl; omega
    have hl5 := rwL_len (tkR_in hr)
    obtain ⟨m, s, e3, hm, e4, e5⟩ := re0 r0
    have hm2 : (s.take m).length = m := by rw [List.length_take]; omega
    rw [e, e2]
    refine ⟨by rw [mayC_v m1 rfl]; exact decide_eq_true ⟨by dsimp only; omega, hl5⟩, ?_⟩
    unfold chB rowL
    dsimp only
    rw [if_neg (by decide), if_pos hl5, e4, e5, hm2]
    have : 1 :: (keyB (gkK r) ++ m :: s.take m) ++ s.drop m = 1 :: (keyB (gkK r) ++ (m :: (s.take m ++ s.drop m))) := by simp
    rw [this, List.take_append_drop, ← e3, m2, show a = 1 by omega]

theorem chR_in {l : List Nat} (h : ∀ x ∈ l, x < 256) : ∀ x ∈ chR l, x < 256 := by
  unfold chR
  split
  · exact tkR_in (takeL_in h 1)
  · exact rwR_in (tkR_in (takeL_in h 1))

theorem stR_in {l : List Nat} (h : ∀ x ∈ l, x < 256) : ∀ k, ∀ x ∈ stR k l, x < 256
  | 0 => h
  | k + 1 => chR_in (stR_in h k)

theorem stC_cons (n : Nat) (l : List Nat) : stC (n + 1) l = chC l :: stC n (chR l) := by
  unfold stC
  rw [List.range_succ_eq_map, List.map_cons, List.map_map]
  refine congrArg (List.cons (chC l)) (List.map_congr_left fun j _ => ?_)
  show chC (stR (j + 1) l) = chC (stR j (chR l))
  rw [stR_chR]

theorem st_back : ∀ (l : List CT), (∀ f ∈ l, mayC f = true) → ∀ r : List Nat, (∀ j, j < l.length → chE (stR j (l.flatMap chB ++ r)) = 0) ∧ stC l.length (l.flatMap chB ++ r) = l ∧ stR l.length (l.flatMap chB ++ r) = r
  | [], _, r => ⟨(fun j hj => by simp at hj), rfl, rfl⟩
  | f :: l, h, r => by
    obtain ⟨c1, c2, c3⟩ := ch_back (h f List.mem_cons_self) (l.flatMap chB ++ r)
    obtain ⟨i1, i2, i3⟩ := st_back l (fun g hg => h g (List.mem_cons_of_mem _ hg)) r
    have e : (f :: l).flatMap chB ++ r = chB f ++ (l.flatMap chB ++ r) := by rw [List.flatMap_cons, List.append_assoc]
    rw [e]
    refine ⟨fun j hj => ?_, ?_, ?_⟩
    · cases j with
      | zero => exact c1
      | succ j => rw [← stR_chR, c3]; exact i1 j (by simp at hj; omega)
    · rw [List.length_cons, stC_cons, c2, c3, i2]
    · rw [List.length_cons, ← stR_chR, c3, i3]

/-- A body says its changes. -/
theorem get_body {l : List CT} (h : tlOk l = true) : geE (rbK l l.length) = 0 ∧ geC (rbK l l.length) = l := by
  obtain ⟨h1, h2, h3⟩ := tlOk_all h
  have e : rbK l l.length = l.length :: (l.flatMap chB ++ []) := by unfold rbK; rw [List.take_length, List.append_nil]
  obtain ⟨i1, i2, i3⟩ := st_back l h3 []
  obtain ⟨t1, t2, t3⟩ := take1 l.length (l.flatMap chB ++ [])
  rw [e]
  have hE : geE (l.length :: (l.flatMap chB ++ [])) = 0 := by
    rw [ge_end t1 (by rw [t2]; omega) (by rw [t2, t3]; exact i1), t2, t3, i3]
    rfl
  refine ⟨hE, ?_⟩
  unfold geC
  rw [if_pos hE, t2, t3, i2]

theorem fs_all : ∀ (n : Nat) (l : List Nat), fsE n l = 0 → ∀ j, j < n → chE (stR j l) = 0
  | 0, _, _, j, hj => by omega
  | n + 1, l, h, j, hj => by
    have h0 : chE l = 0 := by
      by_cases hc : chE l = 0
      · exact hc
      · rw [fsE, if_pos hc] at h; exact absurd h hc
    rw [fsE, if_neg (by rw [h0]; simp)] at h
    cases j with
    | zero => exact h0
    | succ j => rw [← stR_chR]; exact fs_all n (chR l) h j (by omega)

theorem st_only {l : List Nat} (hb : ∀ x ∈ l, x < 256) : ∀ n, (∀ j, j < n → chE (stR j l) = 0) → (stC n l).flatMap chB ++ stR n l = l ∧ ∀ f ∈ stC n l, mayC f = true
  | 0, _ => ⟨rfl, by simp [stC_zero]⟩
  | n + 1, h => by
    obtain ⟨i1, i2⟩ := st_only hb n fun j hj => h j (by omega)
    obtain ⟨c1, c2⟩ := ch_only (stR_in hb n) (h n (by omega))
    rw [stC_next]
    refine ⟨?_, fun f hf => ?_⟩
    · show (stC n l ++ [chC (stR n l)]).flatMap chB ++ chR (stR n l) = l
      rw [List.flatMap_append, List.append_assoc, List.flatMap_cons, List.flatMap_nil, List.append_nil, c2, i1]
    · rcases List.mem_append.1 hf with hf | hf
      · exact i2 f hf
      · simp at hf; subst hf; exact c1

/-- A body that says changes is theirs. -/
theorem get_only {l : List Nat} (hb : ∀ x ∈ l, x < 256) (h : geE l = 0) : tlOk (geC l) = true ∧ rbK (geC l) (geC l).length = l := by
  have c0 : csE l = 0 := by
    by_cases hc : csE l = 0
    · exact hc
    · unfold geE at h; rw [if_pos hc] at h; exact absurd h hc
  have t0 : takeE l 1 = 0 := by
    by_cases hc : takeE l 1 = 0
    · exact hc
    · unfold csE at c0; rw [if_pos hc] at c0; exact absurd c0 hc
  have n0 : takeV l 1 ≠ 0 := fun hc => by unfold csE at c0; rw [if_neg (by rw [t0]; simp), if_pos hc] at c0; omega
  have f0 : fsE (takeV l 1) (takeL l 1) = 0 := by unfold csE at c0; rw [if_neg (by rw [t0]; simp), if_neg n0] at c0; exact c0
  have r0 : stR (takeV l 1) (takeL l 1) = [] := by
    by_cases hc : 0 < (stR (takeV l 1) (takeL l 1)).length
    · unfold geE at h; rw [if_neg (by rw [c0]; simp), if_pos hc] at h; omega
    · exact List.eq_nil_of_length_eq_zero (by omega)
  have e : geC l = stC (takeV l 1) (takeL l 1) := by unfold geC; rw [if_pos h]
  obtain ⟨n, r, rfl⟩ := te1 t0
  obtain ⟨_, v2, l2⟩ := take1 n r
  rw [v2] at n0 f0 r0 e
  rw [l2] at f0 r0 e
  have hr : ∀ x ∈ r, x < 256 := fun x hx => hb x (List.mem_cons_of_mem _ hx)
  have hn : n < 256 := hb n (by simp)
  obtain ⟨s1, s2⟩ := st_only hr n (fs_all n r f0)
  rw [r0, List.append_nil] at s1
  rw [e]
  refine ⟨tlOk_of (by rw [stC_len]; omega) (by rw [stC_len]; omega) s2, ?_⟩
  unfold rbK
  rw [List.take_length, s1, stC_len]

theorem flat_cut {q : List Nat} : ∀ (l m : List CT), (∀ f ∈ l, mayC f = true) → (∀ f ∈ m, mayC f = true) → l.length = m.length → l.flatMap chB = m.flatMap chB ++ q → q = []
  | [], [], _, _, _, h => by simpa using h.symm
  | [], _ :: _, _, _, h, _ => by simp at h
  | _ :: _, [], _, _, h, _ => by simp at h
  | f :: l, g :: m, h1, h2, hn, h => by
    rw [List.flatMap_cons, List.flatMap_cons, List.append_assoc] at h
    have e1 := (ch_back (h1 f List.mem_cons_self) (l.flatMap chB)).2.2
    have e2 := (ch_back (h2 g List.mem_cons_self) (m.flatMap chB ++ q)).2.2
    rw [h, e2] at e1
    exact flat_cut l m (fun f hf => h1 f (List.mem_cons_of_mem _ hf)) (fun f hf => h2 f (List.mem_cons_of_mem _ hf)) (by simpa using hn) e1.symm

/-- Nothing shorter says any. -/
theorem cut_geE {l : List CT} {p q : List Nat} (hl : tlOk l = true) (hp : ∀ x ∈ p, x < 256) (h : rbK l l.length = p ++ q) (hq : q ≠ []) : geE p ≠ 0 := fun h0 => by
  obtain ⟨m1, m2⟩ := get_only hp h0
  obtain ⟨_, _, a1⟩ := tlOk_all hl
  obtain ⟨_, _, a2⟩ := tlOk_all m1
  generalize geC p = m at *
  rw [← m2] at h
  unfold rbK at h
  rw [List.take_length, List.take_length, List.cons_append] at h
  injection h with e1 e2
  exact hq (flat_cut l m a1 a2 e1 e2)

theorem leV_le8 (q : Nat) (h : q < 18446744073709551616) : leV (leB q 8) = q := by
  have key : ∀ k, leV (leB q k) = q % 256 ^ k := by
    intro k
    induction k with
    | zero => simp [leB, leV, Nat.mod_one]
    | succ k ih =>
      rw [leB_succ, leV_append, ih, leB_length]
      simp only [leV, Nat.mul_zero, Nat.add_zero]
      rw [Nat.pow_succ, Nat.mod_mul]
  rw [key 8]
  exact Nat.mod_eq_of_lt h
end Go.Proofs.Ytbiihjdjbknibaa
