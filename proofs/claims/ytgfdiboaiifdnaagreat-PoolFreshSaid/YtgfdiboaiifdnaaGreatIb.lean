/-
  What an act leaves of a pool and its chip (no program): Take, Free, a page written behind the head, hits, Power.
  One act on a pool is answered as it must be (step): acts that are none, and Take.
  One act on a pool is answered as it must be (step): a Take that may be.
  One act on a pool is answered as it must be (step): a Free; and any act at all.
  What is handed in to the statements on pools: hits, acts; and what many acts leave (no program but the arguments' types).
  Many acts on a pool whose chip is struck (played): each is answered as it must be.
  A chip on which no deed fails (no program): Take takes the first free block, or there is none; what it tells then.
-/
import Derived.Test.YtgfdiboaiifdnaaGreatIa
namespace Go.Proofs.YtgfdiboaiifdnaaGreat

section

/-- Nothing strikes a chip, and it is alive. -/
def Calm (s : CSt) : Prop := s.hits = [] ∧ s.dead = false
theorem deedS_calm {s : CSt} (h : Calm s) (b off : Nat) (l : List Nat) : Calm (deedS s b off l) := by
  unfold deedS
  rw [h.1]
  exact ⟨rfl, h.2⟩
theorem progS_calm {s : CSt} (h : Calm s) (b p : Int) (l : List Nat) : Calm (progS s b p l) := by
  unfold progS
  split
  · exact deedS_calm h _ _ _
  · exact h
theorem erasS_calm {s : CSt} (h : Calm s) (b : Int) : Calm (erasS s b) := by
  unfold erasS
  split
  · exact deedS_calm h _ _ _
  · exact h
theorem clS_calm {s : CSt} (h : Calm s) (p : PSt) (i : Nat) : Calm (clS s p i) := by
  unfold clS
  split
  · exact erasS_calm h _
  · exact h
theorem tryS_calm {s : CSt} (h : Calm s) (p : PSt) (i k e : Nat) : Calm (tryS s p i k e) := by
  unfold tryS
  split
  · exact h
  · split
    · exact clS_calm h _ _
    · exact progS_calm (clS_calm h _ _) _ _ _
theorem takeGo_calm (k e : Nat) : ∀ (n : Nat) (s : CSt) (p : PSt) (i : Nat), Calm s → Calm (takeGo k e n s p i).s := by
  intro n
  induction n with
  | zero => intro s p i h; exact h
  | succ n ih =>
    intro s p i h
    simp only [takeGo]
    split
    · split
      · exact tryS_calm h _ _ _ _
      · split
        · exact ih _ _ _ (tryS_calm h _ _ _ _)
        · exact tryS_calm h _ _ _ _
    · exact ih _ _ _ h
theorem takeR_calm {s : CSt} (h : Calm s) (p : PSt) (k e : Nat) : Calm (takeR k e s p).s := by
  unfold takeR
  split
  · exact h
  · split
    · exact h
    · exact takeGo_calm _ _ _ _ _ _ h
theorem freeR_calm {s : CSt} (h : Calm s) (p : PSt) (b : Int) : Calm (freeR s p b).s := by
  unfold freeR
  split
  · split <;> exact erasS_calm h _
  · exact h

/-- What an act leaves of a pool and its chip. -/
structure StepR (s : CSt) (p : PSt) (s' : CSt) (p' : PSt) : Prop where
  nb : s'.nb = s.nb
  np : s'.np = s.np
  nz : s'.nz = s.nz
  inv : InvC s' (p.last + s.nb)
  l2 : p'.last ≤ p.last + s.nb
  dd : s'.deeds ≤ s.deeds + 2 * s.nb
  live : s'.dead = false → Good s' p'
  calm : Calm s → Calm s'

theorem StepR.refl {s : CSt} {p : PSt} (h : Good s p) : StepR s p s p :=
  ⟨rfl, rfl, rfl, h.inv.mono (by omega), by omega, by omega, fun _ => h, id⟩

theorem mod_all {n i : Nat} (hi : i < n) {P : Nat → Prop} (h : ∀ t, t < n → P ((i + t) % n)) : ∀ j, j < n → P j := by
  intro j hj
  by_cases hij : i ≤ j
  · have := h (j - i) (by omega)
    rwa [show i + (j - i) = j by omega, Nat.mod_eq_of_lt hj] at this
  · have := h (j + n - i) (by omega)
    rwa [show i + (j + n - i) = j + n by omega, Nat.add_mod_right, Nat.mod_eq_of_lt hj] at this

theorem frN_zero {s : CSt} {p : PSt} (h : ∀ j, j < s.nb → frV s p j = false) : ∀ k, k ≤ s.nb → frN s p k = 0 := by
  intro k
  induction k with
  | zero => intro _; rfl
  | succ k ih =>
    intro hk
    simp only [frN]
    rw [ih (by omega), if_neg (by rw [h k (by omega)]; simp)]

theorem takeR_live {s : CSt} {p : PSt} {k e : Nat} (hk : (1 ≤ k ∧ k ≤ 3) ∧ 1 ≤ e) (hd : s.dead = false) : takeR k e s p = takeGo k e s.nb s p p.next := by
  unfold takeR
  rw [if_neg (fun h => h hk), if_neg (by rw [hd]; simp)]

theorem TkOut.step {s : CSt} {p : PSt} {k e : Nat} {r : TkR} (h : TkOut s p k e s.nb r) (hc : Calm s → Calm r.s) : StepR s p r.s r.p :=
  ⟨h.nb, h.np, h.nz, h.inv, h.l2, h.dd, (fun hd => by
    rcases h.out with ⟨_, hg, _⟩ | ⟨_, hg⟩ | ⟨_, hx⟩
    · exact hg
    · exact hg
    · rw [hx] at hd; cases hd), hc⟩

/-- All that Take does. -/
theorem take_all {s : CSt} {p : PSt} {k e : Nat} (ok : s.Ok) (hg : Good s p) (hlen : p.bl.length = s.nb) (hnx : p.next < s.nb) (hdd : s.deeds + 2 * s.nb < 4611686018427387903) (hll : p.last + s.nb < 18446744073709551615) (he : e < 4294967296)
    (hv : (1 ≤ k ∧ k ≤ 3) ∧ 1 ≤ e) : TkOut s p k e s.nb (takeR k e s p) ∧ ((takeR k e s p).e = 11 → bkN (takeR k e s p).s (takeR k e s p).s.nb = 0) ∧ StepR s p (takeR k e s p).s (takeR k e s p).p := by
  have hc : Calm s → Calm (takeR k e s p).s := fun h => takeR_calm h p k e
  rw [takeR_live hv hg.live] at hc
  rw [takeR_live hv hg.live]
  obtain ⟨h1, h2⟩ := take_out k e ⟨hv.1, hv.2, he⟩ s.nb s p p.next ok hg hlen hnx hnx hdd hll
  refine ⟨h1, fun h11 => ?_, h1.step hc⟩
  have hg2 : Good (takeGo k e s.nb s p p.next).s (takeGo k e s.nb s p p.next).p := by
    rcases h1.out with ⟨h, _⟩ | ⟨_, h⟩ | ⟨h, _⟩
    · rw [h] at h11; cases h11
    · exact h
    · rw [h] at h11; cases h11
  have h3 := mod_all (P := fun j => frV (takeGo k e s.nb s p p.next).s (takeGo k e s.nb s p p.next).p j = false) hnx (h2 h11)
  rw [← bkN_fr h1.ok hg2 _ (Nat.le_refl _)]
  exact frN_zero (fun j hj => h3 j (by rw [← h1.nb]; exact hj)) _ (Nat.le_refl _)

/-- A block that is taken, and not bad. -/
def thereV (s : CSt) (p : PSt) (b : Int) : Prop := (0 ≤ b ∧ b < s.nb) ∧ isV s p b.toNat = 1
instance (s : CSt) (p : PSt) (b : Int) : Decidable (thereV s p b) := by unfold thereV; infer_instance

theorem free_no {s : CSt} {p : PSt} {b : Int} (h : ¬ thereV s p b) : freeR s p b = ⟨0, 12, s, p⟩ := by
  unfold freeR
  exact if_neg h

theorem free_all {s : CSt} {p : PSt} {b : Nat} (ok : s.Ok) (hg : Good s p) (hlen : p.bl.length = s.nb) (hdd : s.deeds < 4611686018427387904) (h : thereV s p b) :
    StepR s p (freeR s p b).s (freeR s p b).p ∧ Keeps s (freeR s p b).s b ∧ (freeR s p b).s.Ok ∧
    (((freeR s p b).e = 0 ∧ Good (freeR s p b).s (freeR s p b).p ∧ (badAt (freeR s p b).s b = true ∨ (lookV (freeR s p b).s b).w ≠ 1)) ∨ ((freeR s p b).e = 10 ∧ (freeR s p b).s.dead = true)) := by
  have hb : b < s.nb := by have := h.1.2; omega
  have h1 : isV s p b = 1 := by simpa using h.2
  obtain ⟨a1, a2, a3, a4, a5, a6, a7, a8⟩ := free_out s p b ok hg hlen hb h1 hdd
  refine ⟨⟨a1.nb, a1.np, a1.nz, a3.mono (by omega), by omega, by omega, fun hd => ?_, fun h => freeR_calm h p b⟩, a1, a2, a8⟩
  rcases a8 with ⟨_, h, _⟩ | ⟨_, h⟩
  · exact h
  · rw [h] at hd; cases hd

/-- Is a block among those that are told, and not bad? -/
def thB (l : List TK) (b : Int) : Bool := l.any fun t => decide ((t.b : Int) = b) && !t.bad
theorem thB_iff {s : CSt} {p : PSt} (hg : Good s p) (b : Int) : thB (refL s s.nb) b = true ↔ thereV s p b := by
  unfold thB thereV
  rw [List.any_eq_true]
  constructor
  · rintro ⟨t, ht, hx⟩
    obtain ⟨i, hi, hw, rfl⟩ := (mem_refL _).1 ht
    simp only [tkOf, Bool.and_eq_true, Bool.not_eq_true'] at hx
    obtain ⟨h1, hb⟩ := hx
    obtain rfl := of_decide_eq_true h1
    refine ⟨⟨by omega, by omega⟩, ?_⟩
    rw [show ((i : Int)).toNat = i by omega, isV_of hg.ag hi, hb]
    simpa using hw
  · rintro ⟨⟨h0, h1⟩, h2⟩
    obtain ⟨i, rfl⟩ : ∃ i : Nat, b = i := ⟨b.toNat, by omega⟩
    have hi : i < s.nb := by omega
    rw [show ((i : Int)).toNat = i by omega, isV_of hg.ag hi] at h2
    have hb : badAt s i = false := by
      cases hx : badAt s i with
      | false => rfl
      | true => rw [hx] at h2; simp at h2
    rw [hb] at h2
    refine ⟨tkOf s i, (mem_refL _).2 ⟨i, hi, by simpa using h2, rfl⟩, ?_⟩
    simp [tkOf, hb]

theorem thB_take (l : List TK) (b : Int) (k : Nat) (t : TK) (h : l[k]? = some t) : thB (l.take (k + 1)) b = (thB (l.take k) b || (decide ((t.b : Int) = b) && !t.bad)) := by
  unfold thB
  rw [List.take_add_one, h, List.any_append]
  simp

/-- A page behind the head of a taken block is written. -/
theorem prog_all {s : CSt} {p : PSt} (b pg : Nat) (l : List Nat) (ok : s.Ok) (hg : Good s p) (hl : IsBytes l) (hb : b < s.nb) (hw : (lookV s b).w = 1) (hp : pg < s.np) (hp1 : 0 < pg) (hdd : s.deeds < 4611686018427387904) :
    (progS s b pg l).nb = s.nb ∧ (progS s b pg l).np = s.np ∧ (progS s b pg l).nz = s.nz ∧ (progS s b pg l).deeds ≤ s.deeds + 1 ∧ InvC (progS s b pg l) p.last ∧ ((progS s b pg l).dead = false → Good (progS s b pg l) p) ∧ (Calm s → Calm (progS s b pg l)) := by
  by_cases hR : progR s b pg l.length = 0
  · obtain ⟨g1, g2, g3, g4, ok', h1, h2, _, _, hE⟩ := prog_step s b pg l ok hl hb hp hdd hR
    have hp0 : ∀ i : Nat, i < s.nb → pgL (progS s b pg l) i 0 = pgL s i 0 := fun i hi => h1 i 0 hi (by omega) (.inr (by omega))
    have hinv := hg.inv.same (s' := progS s b pg l) g1 g3 hp0
    refine ⟨g1, g2, g3, progS_deeds _ _ _ _, hinv, fun hd => ⟨hd, fun i hi => ?_, hinv⟩, fun h => progS_calm h _ _ _⟩
    rw [g1] at hi
    rw [hg.ag i hi]
    by_cases hib : i = b
    · subst hib
      have h0 := (lookV_w ok hg.live hi).1 hw
      rw [lookV_of ok hg.live hi, if_pos h0, lookV_of ok' hd (by rw [g1]; exact hi), hp0 i hi, if_pos h0]
    · rw [lookV_same ok ok' hg.live hd g1 g2 hi fun q hq => h1 i q hi hq (.inl hib)]
  · have e : progS s b pg l = s := by unfold progS; rw [if_neg hR]
    rw [e]
    exact ⟨rfl, rfl, rfl, Nat.le_succ _, hg.inv, fun _ => hg, id⟩

theorem prog_dead {s : CSt} (b pg : Int) (l : List Nat) (hd : s.dead = true) : progS s b pg l = s := by
  unfold progS progR refE
  rw [if_pos hd]
  simp

/-- A list's last one is of a block with a head. -/
theorem last_tk {s : CSt} {t : TK} (h : (refL s s.nb).getLast? = some t) : t.b < s.nb ∧ (lookV s t.b).w = 1 := by
  obtain ⟨i, hi, hw, rfl⟩ := (mem_refL _).1 (List.mem_of_getLast? h)
  exact ⟨hi, hw⟩

theorem Good.hits {s : CSt} {p : PSt} (h : Good s p) (hs : List HitI) : Good (hitsS s hs) p := by
  unfold hitsS
  split
  · exact ⟨h.live, fun i hi => h.ag i hi, ⟨fun i hi => h.inv.p0 i hi, fun i j hi hj => h.inv.ne i j hi hj⟩⟩
  · exact h
theorem hitsS_same (s : CSt) (hs : List HitI) : (hitsS s hs).nb = s.nb ∧ (hitsS s hs).np = s.np ∧ (hitsS s hs).nz = s.nz ∧ (hitsS s hs).deeds = s.deeds ∧ (hitsS s hs).dead = s.dead := by
  unfold hitsS
  split <;> exact ⟨rfl, rfl, rfl, rfl, rfl⟩
theorem InvC.pow {s : CSt} {L : Nat} (h : InvC s L) : InvC (powS s) L := ⟨fun i hi => h.p0 i hi, fun i j hi hj => h.ne i j hi hj⟩

/-- A chip that was made. -/
theorem new_inv (np : Nat) (hp : 4 ≤ np ∧ np ≤ 6) : InvC (newS 8 np 128 2) 0 := by
  have hpg : isPg 128 := by unfold isPg; omega
  have hbl : ∀ i : Nat, i < 8 → pgL (newS 8 np 128 2) i 0 = List.replicate 128 255 := fun i hi => by
    rw [show (pgL (newS 8 np 128 2) i 0) = sl (newS 8 np 128 2).by_ ((i * np + 0) * 128) 128 from pgL_sl (newS 8 np 128 2) i 0]
    show sl (List.replicate (8 * np * 128) 255) _ _ = _
    unfold sl
    rw [List.drop_replicate, List.take_replicate]
    congr 1
    have h1 : (i * np + 0) * 128 + 128 ≤ 8 * np * 128 := by
      have := Nat.mul_le_mul_right np (show i + 1 ≤ 8 by omega)
      have e : (i + 1) * np = i * np + np := by rw [Nat.add_mul, Nat.one_mul]
      omega
    omega
  constructor
  · intro i hi
    refine .inl ?_
    rw [hbl i hi]
    exact blank_torn hpg
  · intro i j hi hj hij h0
    rw [hbl i hi] at h0
    exact absurd h0 (torn_no hpg (fun x hx => by rw [(List.mem_replicate.1 hx).2]; omega) (blank_torn hpg))

end

section
open Go.ChangeShapes Go.WideShapes Go.ChangeAt Go.RowKit

abbrev aCells (d : Int) (k e : Nat) (b pg : Int) (f : Nat) : Array Value := #[.int .i64 d, .int .u8 (k : Nat), .int .u32 (e : Nat), .int .i64 b, .int .i64 pg, .int .u8 (f : Nat)]

/-- An act is answered as it must be, and leaves the pool and its chip as acts do. -/
def StpP (Q : Nat → Prop) (w : World) (gp gb g : Nat) (s : CSt) (p : PSt) (e : Ending) (w' : World) : Prop :=
  e = .returned (.bool true) ∧ ∃ s' p', PRep Q w' gp gb g s' p' ∧ Kept (PoolQ Q gp gb) w w' ∧ StepR s p s' p'

theorem PRep.lowq {Q : Nat → Prop} {w : World} {gp gb g : Nat} {s : CSt} {p : PSt} (h : PRep Q w gp gb g s p) : ∀ b, PoolQ Q gp gb b → b < w.heap.size := by
  rintro b (hb | rfl | rfl)
  · exact h.chip.low b hb
  · exact h.pool.lt
  · exact h.blks.lt

set_option maxRecDepth 100000 in
set_option maxHeartbeats 1600000 in
theorem step_other (Q : Nat → Prop) (gp gb g : Nat) (s : CSt) (p : PSt) (d : Int) (k e : Nat) (b pg : Int) (f : Nat) (w : World) (h : PRep Q w gp gb g s p) (hg : Good s p) (h19 : s.nb ≤ 19) (h1 : d ≠ 1) (h2 : d ≠ 2) :
    Calls Tryz.prog 16 #[.pointer (some ⟨gp, 0, none⟩), .pointer (some ⟨g, 0, none⟩), .agg (aCells d k e b pg f)] w (StpP Q w gp gb g s p) := by
  have HP := Lib.hid h
  have HG := Lib.hid hg
  have H19 := Lib.hid h19
  have d1 : (d == 1) = false := beq_eq_false_iff_ne.2 h1
  have d2 : (d == 2) = false := beq_eq_false_iff_ne.2 h2
  clear h hg h19 h1 h2
  go_enter Tryz.func16, Tryz.ntmps16
  go_wp2_with fail
  have N0 : Hid (New w (w.alloc (.cells (aCells d k e b pg f) 51))) := (Kept.refl _ _).alloc _
  have B0 : Hid (Blk (w.alloc (.cells (aCells d k e b pg f) 51)) w.heap.size 51 (aCells d k e b pg f).toList) := Blk.made w _ _
  have P0 := Lib.hid (HP.out.new N0.out)
  generalize w.alloc (.cells (aCells d k e b pg f) 51) = w0 at *
  refine (rTaken_any _ _ _ _ P0.out.chip H19.out).mono ?_
  rintro e1 w1 ⟨A, c, rfl, h1, h2⟩
  have N1 := Lib.hid (N0.out.new h2)
  have B1 := Lib.hid (B0.out.new h2)
  have P1 := Lib.hid (P0.out.new h2)
  clear h1 h2 N0 B0 P0
  go_wp2_with fail
  refine (pLast_any _ _ _ _ _ _ _ P1.out).mono ?_
  rintro e2 w' ⟨rfl, rfl⟩
  have c0 : w1.cell? ⟨w.heap.size, 0, none⟩ = some (.int .i64 d) := B1.out.cell 0
  go_wp2
  go_ret
  exact ⟨rfl, s, p, P1.out, N1.out.mono fun _ _ f => f.elim, StepR.refl HG.out⟩

set_option maxRecDepth 100000 in
set_option maxHeartbeats 3200000 in
theorem step_take_bad (Q : Nat → Prop) (gp gb g : Nat) (s : CSt) (p : PSt) (k e : Nat) (b pg : Int) (f : Nat) (w : World) (h : PRep Q w gp gb g s p) (hg : Good s p) (h19 : s.nb ≤ 19) (hk : k < 256) (he : e < 4294967296) (hdd : s.deeds < 2305843009213693952)
    (hv : ¬ ((1 ≤ k ∧ k ≤ 3) ∧ 1 ≤ e)) :
    Calls Tryz.prog 16 #[.pointer (some ⟨gp, 0, none⟩), .pointer (some ⟨g, 0, none⟩), .agg (aCells 1 k e b pg f)] w (StpP Q w gp gb g s p) := by
  have HP := Lib.hid h
  have HG := Lib.hid hg
  have H19 := Lib.hid h19
  have HD := Lib.hid hdd
  have HKE := Lib.hid (And.intro hk he)
  have ET : Hid (takeR k e s p = ⟨0, 2, s, p⟩) := by show _ = _; unfold takeR; rw [if_pos hv]
  have cases3 : (k < 1) ∨ (3 < k) ∨ ((1 ≤ k ∧ k ≤ 3) ∧ e = 0) := by omega
  clear h hg h19 hk he hdd hv
  go_enter Tryz.func16, Tryz.ntmps16
  go_wp2_with fail
  have N0 : Hid (New w (w.alloc (.cells (aCells 1 k e b pg f) 51))) := (Kept.refl _ _).alloc _
  have B0 : Hid (Blk (w.alloc (.cells (aCells 1 k e b pg f) 51)) w.heap.size 51 (aCells 1 k e b pg f).toList) := Blk.made w _ _
  have P0 := Lib.hid (HP.out.new N0.out)
  generalize w.alloc (.cells (aCells 1 k e b pg f) 51) = w0 at *
  refine (rTaken_any _ _ _ _ P0.out.chip H19.out).mono ?_
  rintro e1 w1 ⟨A, c, rfl, h1, h2⟩
  have N1 := Lib.hid (N0.out.new h2)
  have B1 := Lib.hid (B0.out.new h2)
  have P1 := Lib.hid (P0.out.new h2)
  have HLO : Hid (¬ PoolQ Q gp gb w.heap.size) := fun hq => by have := HP.out.lowq _ hq; omega
  clear h1 h2 N0 B0 P0
  go_wp2_with fail
  refine (pLast_any _ _ _ _ _ _ _ P1.out).mono ?_
  rintro e2 w' ⟨rfl, rfl⟩
  have c0 : w1.cell? ⟨w.heap.size, 0, none⟩ = some (.int .i64 1) := B1.out.cell 0
  have c1 : w1.cell? ⟨w.heap.size, 1, none⟩ = some (.int .u8 (k : Nat)) := B1.out.cell 1
  have c2 : w1.cell? ⟨w.heap.size, 2, none⟩ = some (.int .u32 (e : Nat)) := B1.out.cell 2
  go_wp2_with fail
  refine (pTake_any _ _ _ _ _ _ k e _ P1.out HD.out HKE.out.1 HKE.out.2).mono ?_
  rintro e3 w3 ⟨rfl, h1, h2⟩
  have B3 := Lib.hid (B1.out.kept h2 HLO.out)
  have N3 := Lib.hid (N1.out.mono (S' := PoolQ Q gp gb) fun _ _ f => f.elim)
  have K3 : Hid (Kept (PoolQ Q gp gb) w w3) := N3.out.trans h2 fun _ _ x => x
  rw [ET.out] at h1 ⊢
  have P3 := Lib.hid h1
  clear h1 h2 c0 c1 c2 B1 P1 N1 N3
  have c1 : w3.cell? ⟨w.heap.size, 1, none⟩ = some (.int .u8 (k : Nat)) := B3.out.cell 1
  have c2 : w3.cell? ⟨w.heap.size, 2, none⟩ = some (.int .u32 (e : Nat)) := B3.out.cell 2
  rcases cases3 with hx | hx | hx
  · have f1 : decide ((k : Int) < 1) = true := decide_eq_true (by omega)
    have f2 : decide (k < 1) = true := decide_eq_true hx
    have f3 : (k : Int) < 1 := by omega
    go_wp2
    go_ret
    exact ⟨rfl, s, p, P3.out, K3.out, StepR.refl HG.out⟩
  · have f1 : decide ((k : Int) < 1) = false := decide_eq_false (by omega)
    have f2 : decide ((3 : Int) < (k : Int)) = true := decide_eq_true (by omega)
    go_wp2
    go_ret
    exact ⟨rfl, s, p, P3.out, K3.out, StepR.refl HG.out⟩
  · obtain ⟨⟨hx1, hx2⟩, rfl⟩ := hx
    have f1 : decide ((k : Int) < 1) = false := decide_eq_false (by omega)
    have f2 : decide ((3 : Int) < (k : Int)) = false := decide_eq_false (by omega)
    go_wp2
    go_ret
    exact ⟨rfl, s, p, P3.out, K3.out, StepR.refl HG.out⟩

end

section
open Go.ChangeShapes Go.WideShapes Go.ChangeAt Go.RowKit

theorem look_read {s : CSt} {i k e q : Nat} (h : lookV s i = ⟨1, k, e, q⟩) : ghE (readL s i 0) = 0 ∧ ghK (readL s i 0) = k ∧ ghR (readL s i 0) = e ∧ ghS (readL s i 0) = q := by
  unfold lookV at h
  split at h
  · rename_i h0
    injection h with _ h1 h2 h3
    exact ⟨h0, h1, h2, h3⟩
  · injection h with h1
    unfold hlV at h1
    split at h1 <;> cases h1

set_option maxRecDepth 100000 in
set_option maxHeartbeats 3200000 in
theorem step_take (Q : Nat → Prop) (gp gb g : Nat) (s : CSt) (p : PSt) (k e : Nat) (b pg : Int) (f : Nat) (w : World) (h : PRep Q w gp gb g s p) (hg : Good s p) (h19 : s.nb ≤ 19) (hk : k < 256) (he : e < 4294967296) (hdd : s.deeds < 2305843009213693000) (hll : p.last < 18446744073709551000)
    (hv : (1 ≤ k ∧ k ≤ 3) ∧ 1 ≤ e) :
    Calls Tryz.prog 16 #[.pointer (some ⟨gp, 0, none⟩), .pointer (some ⟨g, 0, none⟩), .agg (aCells 1 k e b pg f)] w (StpP Q w gp gb g s p) := by
  have HP := Lib.hid h
  have HG := Lib.hid hg
  have H19 := Lib.hid h19
  have HD : Hid (s.deeds < 2305843009213693952) := by show _ < _; omega
  have HKE := Lib.hid (And.intro hk he)
  have HT := Lib.hid (take_all (k := k) (e := e) h.chip.ok hg h.len h.next (by omega) (by omega) he hv)
  have f1 : decide ((k : Int) < 1) = false := decide_eq_false (by omega)
  have f2 : decide ((3 : Int) < (k : Int)) = false := decide_eq_false (by omega)
  have f3 : ((e : Int) == 0) = false := beq_eq_false_iff_ne.2 (by omega)
  have f4 : (e == 0) = false := beq_eq_false_iff_ne.2 (by omega)
  clear h hg h19 hk he hdd hll hv
  go_enter Tryz.func16, Tryz.ntmps16
  go_wp2_with fail
  have N0 : Hid (New w (w.alloc (.cells (aCells 1 k e b pg f) 51))) := (Kept.refl _ _).alloc _
  have B0 : Hid (Blk (w.alloc (.cells (aCells 1 k e b pg f) 51)) w.heap.size 51 (aCells 1 k e b pg f).toList) := Blk.made w _ _
  have P0 := Lib.hid (HP.out.new N0.out)
  generalize w.alloc (.cells (aCells 1 k e b pg f) 51) = w0 at *
  refine (rTaken_any _ _ _ _ P0.out.chip H19.out).mono ?_
  rintro e1 w1 ⟨A, c, rfl, h1, h2⟩
  have V1 := Lib.hid h1
  have N1 := Lib.hid (N0.out.new h2)
  have B1 := Lib.hid (B0.out.new h2)
  have P1 := Lib.hid (P0.out.new h2)
  have hcap : (refL s s.nb).length ≤ maxLen := Nat.le_trans h1.2.1 h1.2.2.1
  unfold maxLen at hcap
  have L0 : Hid (∀ b, PoolQ Q gp gb b → b < w0.heap.size) := P0.out.lowq
  have HLO : Hid (¬ PoolQ Q gp gb w.heap.size) := fun hq => by have := HP.out.lowq _ hq; omega
  clear h1 h2 N0 B0 P0
  go_wp2_with fail
  refine (pLast_any _ _ _ _ _ _ _ P1.out).mono ?_
  rintro e2 w' ⟨rfl, rfl⟩
  have c0 : w1.cell? ⟨w.heap.size, 0, none⟩ = some (.int .i64 1) := B1.out.cell 0
  have c1 : w1.cell? ⟨w.heap.size, 1, none⟩ = some (.int .u8 (k : Nat)) := B1.out.cell 1
  have c2 : w1.cell? ⟨w.heap.size, 2, none⟩ = some (.int .u32 (e : Nat)) := B1.out.cell 2
  go_wp2_with fail
  refine (pTake_any _ _ _ _ _ _ k e _ P1.out HD.out HKE.out.1 HKE.out.2).mono ?_
  rintro e3 w3 ⟨rfl, h1, h2⟩
  have B3 := Lib.hid (B1.out.kept h2 HLO.out)
  have K3 : Hid (Kept (PoolQ Q gp gb) w w3) := (N1.out.mono (S' := PoolQ Q gp gb) fun _ _ f => f.elim).trans h2 fun _ _ x => x
  have P3 := Lib.hid h1
  have V3 : Hid (RowV w3 A (refL s s.nb).length 5 (tRow (refL s s.nb) [])) := V1.out.row.kept h2 fun a ha hq => by
    have h3 := (V1.out.at_ a ha).2
    have h4 := L0.out _ hq
    omega
  obtain ⟨r, hr⟩ : ∃ r, r = takeR k e s p := ⟨_, rfl⟩
  rw [← hr] at P3 HT ⊢
  clear h1 h2 c0 c1 c2 B1 P1 N1 V1 L0 HLO hr
  have c1 : w3.cell? ⟨w.heap.size, 1, none⟩ = some (.int .u8 (k : Nat)) := B3.out.cell 1
  have c2 : w3.cell? ⟨w.heap.size, 2, none⟩ = some (.int .u32 (e : Nat)) := B3.out.cell 2
  have R : Hid (StpP Q w gp gb g s p (.returned (.bool true)) w3) := ⟨rfl, r.s, r.p, P3.out, K3.out, HT.out.2.2⟩
  rcases HT.out.1.out with ⟨he0, hgd, hlt, b', hb', hbn, hbad, hlk, hw⟩ | ⟨he0, _⟩ | ⟨he0, _⟩
  · have HGD := Lib.hid hgd
    have HHD := Lib.hid (look_read hlk)
    have HNB : Hid (∀ t ∈ refL s s.nb, t.b ≠ b') := fun t ht hq => by
      obtain ⟨i, hi, hwi, rfl⟩ := (mem_refL _).1 ht
      exact hw (by rw [← hq]; exact hwi)
    have HBD : Hid (badE r.s b' = false) := by rw [Hid, badE_in (by rw [HT.out.1.nb]; exact hbn)]; exact hbad
    rw [he0, hb']
    have HLT := Lib.hid hlt
    clear he0 hgd hlt hb' hbn hbad hlk hw
    go_wp2_with fail
    refine (rHead_any _ _ _ b' _ P3.out.chip).mono ?_
    rintro e4 w4 ⟨rfl, h2⟩
    rw [HHD.out.1, HHD.out.2.1, HHD.out.2.2.1, HHD.out.2.2.2]
    obtain ⟨w5, hw5⟩ : ∃ w5, w5 = w4.alloc (.cells #[.int .u8 (k : Nat), .int .u32 (e : Nat), .int .u64 (r.p.last : Nat)] 34) := ⟨_, rfl⟩
    have H5 : Hid (Blk w5 w4.heap.size 34 [.int .u8 (k : Nat), .int .u32 (e : Nat), .int .u64 (r.p.last : Nat)]) := by rw [hw5]; exact Blk.made w4 _ _
    have N35 : Hid (New w3 w5) := by rw [hw5]; exact Kept.alloc h2 _
    have HW5 := Lib.hid hw5
    clear hw5 h2
    go_upto_block 2 with fail
    rw [← HW5.out]
    have P5 := Lib.hid (P3.out.new N35.out)
    have B5 := Lib.hid (B3.out.new N35.out)
    have V5 := Lib.hid (V3.out.new N35.out)
    have R5 : Hid (StpP Q w gp gb g s p (.returned (.bool true)) w5) := ⟨rfl, r.s, r.p, P5.out, K3.out.new N35.out, HT.out.2.2⟩
    clear HW5 P3 B3 V3 K3 R c1 c2 N35
    have hb5 : ∀ q : Nat, PRep Q (w5.drewN q) gp gb g r.s r.p := fun q => P5.out.new ((Kept.refl _ _).drewN q)
    have HB5 := Lib.hid hb5
    clear hb5
    go_loopw [13] (fun ti wr => ∃ j q : Nat, j ≤ (refL s s.nb).length ∧ ti = .int .i64 j ∧ wr = w5.drewN q) (fun i _ => (refL s s.nb).length - (intOf i).toNat)
    case atStart => exact ⟨0, 0, Nat.zero_le _, rfl, rfl⟩
    case round =>
      obtain ⟨j, q, hj, rfl, rfl⟩ := hrel
      by_cases hlt : j < (refL s s.nb).length
      · have hget := List.getElem?_eq_getElem hlt
        obtain ⟨gA, oA, rfl, hcell⟩ := V5.out.2 (by omega)
        have ct := hcell (j * 5) _ (tRow_get [] (refL s s.nb) 0 _ j _ hget (by omega) rfl)
        have hne := HNB.out _ (List.mem_of_getElem? hget)
        generalize (refL s s.nb)[j].b = x at *
        have hx1 : ((x : Int) == (b' : Int)) = false := beq_eq_false_iff_ne.2 (by omega)
        have hx2 : (x == b') = false := beq_eq_false_iff_ne.2 hne
        clear hcell hget hne
        go_wp2
        go_roundw
        case rel => exact ⟨j + 1, q, by omega, by go_num, rfl⟩
        case measure => simp [intOf]; omega
      · obtain rfl : j = (refL s s.nb).length := by omega
        have PD : Hid (PRep Q (w5.drewN q) gp gb g r.s r.p) := HB5.out q
        have RD : Hid (StpP Q w gp gb g s p (.returned (.bool true)) (w5.drewN q)) := ⟨rfl, r.s, r.p, PD.out, R5.out.2.elim fun _ h => h.elim fun _ h => (h.2.1).drewN q, HT.out.2.2⟩
        have c1 : (w5.drewN q).cell? ⟨w.heap.size, 1, none⟩ = some (.int .u8 (k : Nat)) := B5.out.cell 1
        have c2 : (w5.drewN q).cell? ⟨w.heap.size, 2, none⟩ = some (.int .u32 (e : Nat)) := B5.out.cell 2
        have e0 : (w5.drewN q).cell? ⟨w4.heap.size, 0, none⟩ = some (.int .u8 (k : Nat)) := H5.out.cell 0
        have e1 : (w5.drewN q).cell? ⟨w4.heap.size, 1, none⟩ = some (.int .u32 (e : Nat)) := H5.out.cell 1
        have e2 : (w5.drewN q).cell? ⟨w4.heap.size, 2, none⟩ = some (.int .u64 (r.p.last : Nat)) := H5.out.cell 2
        have l1 : decide (p.last < r.p.last) = true := decide_eq_true HLT.out
        have l2 : decide ((p.last : Int) < (r.p.last : Int)) = true := decide_eq_true (by have := HLT.out; omega)
        have hbadc : ∀ w' : World, NChip Q w' g r.s → Calls Tryz.prog 48 #[.pointer (some ⟨g, 0, none⟩), .int .i64 b'] w' fun e w2 => e = .returned (.bool false) ∧ w' = w2 := fun w' hc => by
          rw [← HBD.out]; exact nBad_any _ _ _ _ _ hc
        have HBC := Lib.hid hbadc
        clear hbadc R5 P5 B5 V5 H5 HB5 HHD HNB HBD HLT HGD
        generalize w5.drewN q = w6 at *
        go_wp2
        go_quiet ((first
          | (go_at_call 48; exact quietS (HBC.out _ (PD.out.chip.new ((Kept.refl _ _).drewN _))))
          | (go_at_call 31; exact quietS (pLast_any _ _ _ _ _ _ _ (PD.out.new ((Kept.refl _ _).drewN _))))))
        go_wp2
        go_ret
        exact ⟨rfl, r.s, r.p, PD.out.new ((Kept.refl _ _).drewN _), RD.out.2.elim fun _ h => h.elim fun _ h => (h.2.1).drewN _, HT.out.2.2⟩
  · have HBK := Lib.hid (HT.out.2.1 he0)
    rw [he0]
    clear he0
    go_wp2_with fail
    refine (rBlanks_any _ _ _ _ P3.out.chip).mono ?_
    rintro e4 w4 ⟨rfl, h2⟩
    rw [HBK.out]
    have R4 : Hid (StpP Q w gp gb g s p (.returned (.bool true)) w4) := ⟨rfl, r.s, r.p, P3.out.new h2, K3.out.new h2, HT.out.2.2⟩
    clear R h2
    go_wp2
    go_ret
    exact R4.out
  · rw [he0]
    clear he0
    go_wp2
    go_ret
    exact R.out

end

section
open Go.ChangeShapes Go.WideShapes Go.ChangeAt Go.RowKit

theorem thB_all (l : List TK) (b : Int) : thB (l.take l.length) b = thB l b := by rw [List.take_length]

theorem ghE_look {s : CSt} {i : Nat} (h : (lookV s i).w ≠ 1) : decide (ghE (readL s i 0) = 0) = false := by
  refine decide_eq_false fun h0 => h ?_
  unfold lookV
  rw [if_pos h0]

set_option maxRecDepth 100000 in
set_option maxHeartbeats 3200000 in
theorem step_free (Q : Nat → Prop) (gp gb g : Nat) (s : CSt) (p : PSt) (k e : Nat) (b pg : Int) (f : Nat) (w : World) (h : PRep Q w gp gb g s p) (hg : Good s p) (h19 : s.nb ≤ 19) (hdd : s.deeds < 2305843009213693000) :
    Calls Tryz.prog 16 #[.pointer (some ⟨gp, 0, none⟩), .pointer (some ⟨g, 0, none⟩), .agg (aCells 2 k e b pg f)] w (StpP Q w gp gb g s p) := by
  have HP := Lib.hid h
  have HG := Lib.hid hg
  have H19 := Lib.hid h19
  have HD : Hid (s.deeds < 4611686018427387904) := by show _ < _; omega
  clear h hg h19 hdd
  go_enter Tryz.func16, Tryz.ntmps16
  go_wp2_with fail
  have N0 : Hid (New w (w.alloc (.cells (aCells 2 k e b pg f) 51))) := (Kept.refl _ _).alloc _
  have B0 : Hid (Blk (w.alloc (.cells (aCells 2 k e b pg f) 51)) w.heap.size 51 (aCells 2 k e b pg f).toList) := Blk.made w _ _
  have P0 := Lib.hid (HP.out.new N0.out)
  generalize w.alloc (.cells (aCells 2 k e b pg f) 51) = w0 at *
  refine (rTaken_any _ _ _ _ P0.out.chip H19.out).mono ?_
  rintro e1 w1 ⟨A, c, rfl, h1, h2⟩
  have V1 := Lib.hid h1.row
  have N1 := Lib.hid (N0.out.new h2)
  have B1 := Lib.hid (B0.out.new h2)
  have P1 := Lib.hid (P0.out.new h2)
  have hcap : (refL s s.nb).length ≤ maxLen := Nat.le_trans h1.2.1 h1.2.2.1
  unfold maxLen at hcap
  have HLO : Hid (¬ PoolQ Q gp gb w.heap.size) := fun hq => by have := HP.out.lowq _ hq; omega
  clear h1 h2 N0 B0 P0
  go_wp2_with fail
  refine (pLast_any _ _ _ _ _ _ _ P1.out).mono ?_
  rintro e2 w' ⟨rfl, rfl⟩
  have c0 : w1.cell? ⟨w.heap.size, 0, none⟩ = some (.int .i64 2) := B1.out.cell 0
  have HLEN : Hid (thB ((refL s s.nb).take (refL s s.nb).length) b = thB (refL s s.nb) b) := thB_all _ _
  go_wp2
  have c3 : w1.cell? ⟨w.heap.size, 3, none⟩ = some (.int .i64 b) := B1.out.cell 3
  go_loopw [14, 15] (fun tt ti wr => ∃ j q : Nat, j ≤ (refL s s.nb).length ∧ ti = .int .i64 j ∧ tt = .bool (thB ((refL s s.nb).take j) b) ∧ wr = w1.drewN q) (fun _ i _ => (refL s s.nb).length - (intOf i).toNat)
  case atStart => exact ⟨0, 0, Nat.zero_le _, rfl, rfl, rfl⟩
  case round =>
    obtain ⟨j, q, hj, rfl, rfl, rfl⟩ := hrel
    by_cases hlt : j < (refL s s.nb).length
    · have hget := List.getElem?_eq_getElem hlt
      obtain ⟨gA, oA, rfl, hcell⟩ := V1.out.2 (by omega)
      have ct := hcell (j * 5) _ (tRow_get [] (refL s s.nb) 0 _ j _ hget (by omega) rfl)
      have ct4 := hcell (j * 5 + 4) _ (tRow_get [] (refL s s.nb) 4 _ j _ hget (by omega) rfl)
      rw [← Nat.add_assoc] at ct4
      have HT := Lib.hid (thB_take (refL s s.nb) b j _ hget)
      have hlt3 : (j : Int) < ((refL s s.nb).length : Int) := by omega
      clear hcell hget
      generalize (refL s s.nb)[j] = t at *
      cases hth : thB ((refL s s.nb).take j) b with
      | true =>
        rw [hth] at HT
        clear hth
        go_wp2
        go_quiet (fail)
        go_wp2
        go_roundw
        case rel => exact ⟨j + 1, _, by omega, by go_num, by rw [HT.out]; rfl, by first | rfl | exact World.drewN_drewN _ _ _⟩
        case measure => simp [intOf]; omega
      | false =>
        rw [hth] at HT
        clear hth
        by_cases heq : (t.b : Int) = b
        · obtain rfl := heq
          cases htb : t.bad with
          | true =>
            rw [htb] at HT ct4
            clear htb
            go_wp2
            go_quiet (fail)
            go_wp2
            go_roundw
            case rel => exact ⟨j + 1, _, by omega, by go_num, by rw [HT.out]; simp, by first | rfl | exact World.drewN_drewN _ _ _⟩
            case measure => simp [intOf]; omega
          | false =>
            rw [htb] at HT ct4
            clear htb
            go_wp2
            go_quiet (fail)
            go_wp2
            go_roundw
            case rel => exact ⟨j + 1, _, by omega, by go_num, by rw [HT.out]; simp, by first | rfl | exact World.drewN_drewN _ _ _⟩
            case measure => simp [intOf]; omega
        · have hx1 : ((t.b : Int) == b) = false := beq_eq_false_iff_ne.2 heq
          have HT2 : Hid (thB ((refL s s.nb).take (j + 1)) b = false) := by rw [Hid, HT.out, decide_eq_false heq]; rfl
          clear heq
          go_wp2
          go_quiet (fail)
          go_wp2
          go_roundw
          case rel => exact ⟨j + 1, _, by omega, by go_num, by rw [HT2.out], by first | rfl | exact World.drewN_drewN _ _ _⟩
          case measure => simp [intOf]; omega
    · obtain rfl : j = (refL s s.nb).length := by omega
      have PD : Hid (PRep Q (w1.drewN q) gp gb g s p) := P1.out.new ((Kept.refl _ _).drewN q)
      have ND : Hid (Kept (PoolQ Q gp gb) w (w1.drewN q)) := (N1.out.mono (S' := PoolQ Q gp gb) fun _ _ f => f.elim).drewN q
      have BD : Hid (Blk (w1.drewN q) w.heap.size 51 (aCells 2 k e b pg f).toList) := B1.out.drewN q
      have c3' : (w1.drewN q).cell? ⟨w.heap.size, 3, none⟩ = some (.int .i64 b) := c3
      rw [HLEN.out]
      clear c3 P1 N1 B1 c0 V1 HLEN
      generalize w1.drewN q = w2 at *
      by_cases hth : thereV s p b
      · obtain ⟨n, rfl⟩ : ∃ n : Nat, b = n := ⟨b.toNat, by have := hth.1.1; omega⟩
        obtain ⟨a1, a2, a3, a4⟩ := free_all PD.out.chip.ok HG.out PD.out.len HD.out hth
        have HS := Lib.hid a1
        have HNB : Hid (n < (freeR s p n).s.nb) := by rw [Hid, a1.nb]; have := hth.1.2; omega
        rw [(thB_iff HG.out n).2 hth]
        clear hth a1 a2 a3
        go_wp2_with fail
        refine (pFreeB_any _ _ _ _ _ _ n _ PD.out HD.out).mono ?_
        rintro e3 w3 ⟨rfl, h1, h2⟩
        have P3 := Lib.hid h1
        have K3 : Hid (Kept (PoolQ Q gp gb) w w3) := ND.out.trans h2 fun _ _ x => x
        have B3 := Lib.hid (BD.out.kept h2 HLO.out)
        clear h1 h2 PD ND BD c3'
        have c3 : w3.cell? ⟨w.heap.size, 3, none⟩ = some (.int .i64 (n : Nat)) := B3.out.cell 3
        generalize hr : freeR s p n = r at *
        clear hr
        rcases a4 with ⟨e0, hgd, hor⟩ | ⟨e0, _⟩
        · rw [e0]
          have HOR := Lib.hid hor
          clear e0 hgd hor
          go_wp2_with fail
          refine (rHead_any _ _ _ n _ P3.out.chip).mono ?_
          rintro e4 w4 ⟨rfl, h2⟩
          have N5 : Hid (New w3 (w4.alloc (.cells #[.int .u8 (ghK (readL r.s n 0) : Nat), .int .u32 (ghR (readL r.s n 0) : Nat), .int .u64 (ghS (readL r.s n 0) : Nat)] 34))) := Kept.alloc h2 _
          have R5 : Hid (StpP Q w gp gb g s p (.returned (.bool true)) (w4.alloc (.cells #[.int .u8 (ghK (readL r.s n 0) : Nat), .int .u32 (ghR (readL r.s n 0) : Nat), .int .u64 (ghS (readL r.s n 0) : Nat)] 34))) := ⟨rfl, r.s, r.p, P3.out.new N5.out, K3.out.new N5.out, HS.out⟩
          have c5 : (w4.alloc (.cells #[.int .u8 (ghK (readL r.s n 0) : Nat), .int .u32 (ghR (readL r.s n 0) : Nat), .int .u64 (ghS (readL r.s n 0) : Nat)] 34)).cell? ⟨w.heap.size, 3, none⟩ = some (.int .i64 (n : Nat)) := (B3.out.new N5.out).cell 3
          have P5 := Lib.hid (P3.out.new N5.out)
          clear h2 c3 B3 P3 K3
          cases hd : decide (ghE (readL r.s n 0) = 0) with
          | false =>
            clear hd
            go_wp2
            go_ret
            exact R5.out
          | true =>
            have HBD : Hid (badE r.s n = true) := by
              rw [Hid, badE_in HNB.out]
              rcases HOR.out with h | h
              · exact h
              · rw [ghE_look h] at hd; cases hd
            clear hd
            go_wp2_with fail
            refine (nBad_any _ _ _ n _ P5.out.chip).mono ?_
            rintro e6 w' ⟨rfl, rfl⟩
            rw [HBD.out]
            go_wp2
            go_ret
            exact R5.out
        · rw [e0]
          have R3 : Hid (StpP Q w gp gb g s p (.returned (.bool true)) w3) := ⟨rfl, r.s, r.p, P3.out, K3.out, HS.out⟩
          go_wp2
          go_ret
          exact R3.out
      · have ht : thB (refL s s.nb) b = false := by
          cases hx : thB (refL s s.nb) b with
          | false => rfl
          | true => exact absurd ((thB_iff HG.out b).1 hx) hth
        have HF := Lib.hid (free_no hth)
        rw [ht]
        clear ht hth
        go_wp2_with fail
        refine (pFreeB_any _ _ _ _ _ _ b _ PD.out HD.out).mono ?_
        rintro e3 w3 ⟨rfl, h1, h2⟩
        rw [HF.out] at h1 ⊢
        have R3 : Hid (StpP Q w gp gb g s p (.returned (.bool true)) w3) := ⟨rfl, s, p, h1, ND.out.trans h2 fun _ _ x => x, StepR.refl HG.out⟩
        clear h1 h2
        go_wp2
        go_ret
        exact R3.out

/-- Any act at all. -/
theorem step_any (Q : Nat → Prop) (gp gb g : Nat) (s : CSt) (p : PSt) (d : Int) (k e : Nat) (b pg : Int) (f : Nat) (w : World) (h : PRep Q w gp gb g s p) (hg : Good s p) (h19 : s.nb ≤ 19) (hk : k < 256) (he : e < 4294967296) (hdd : s.deeds < 2305843009213693000) (hll : p.last < 18446744073709551000) :
    Calls Tryz.prog 16 #[.pointer (some ⟨gp, 0, none⟩), .pointer (some ⟨g, 0, none⟩), .agg (aCells d k e b pg f)] w (StpP Q w gp gb g s p) := by
  by_cases h1 : d = 1
  · subst h1
    by_cases hv : (1 ≤ k ∧ k ≤ 3) ∧ 1 ≤ e
    · exact step_take Q gp gb g s p k e b pg f w h hg h19 hk he hdd hll hv
    · exact step_take_bad Q gp gb g s p k e b pg f w h hg h19 hk he (by omega) hv
  · by_cases h2 : d = 2
    · subst h2
      exact step_free Q gp gb g s p k e b pg f w h hg h19 hdd
    · exact step_other Q gp gb g s p d k e b pg f w h hg h19 h1 h2

end

section
open Go.ChangeShapes Go.WideShapes Go.ChangeAt Go.RowKit

section
variable {H : Type} {enc : TypeId × Value → H} {W : World}

theorem Fld.hits_ {v : Value} {d : DataW H} (h : Fld enc Tryz.prog W 44 v d) : ∃ B m e hs, v = .slice B m e ∧ HitsA W B m hs ∧ (B = none → e = 0 ∧ m = 0) ∧ m * 40 ≤ 140737488351232 ∧ m ≤ e ∧ e ≤ maxLen := by
  obtain ⟨A, n, c, rfl, hA, hn, hc, hby, hcell⟩ := h.list_ Tryz.underlying44 Tryz.underlying92 (by kernel_rfl) (by kernel_rfl) (by decide)
  have hb40 : Tryz.prog.bytesOf 92 = 40 := by kernel_rfl
  rw [hb40] at hby
  have hby2 : n * 40 ≤ 140737488351232 := by simpa [reachBytes] using hby
  rcases Nat.eq_zero_or_pos n with h0 | h0
  · subst h0
    exact ⟨A, 0, c, [], rfl, ⟨rfl, by simp, [], RowV.nil _ _ _, by simp, by simp⟩, hA, by omega, hn, hc⟩
  · obtain ⟨g, o, eA, hce⟩ := hcell h0
    clear hcell
    subst eA
    have each : ∀ i, i < n → ∃ x : HitI × Value, HitIOk x.1 ∧ W.cell? ⟨g, o + 3 * i, none⟩ = some (.int .i64 x.1.after) ∧ W.cell? ⟨g, o + (3 * i + 1), none⟩ = some (.bool x.1.fails) ∧ W.cell? ⟨g, o + (3 * i + 2), none⟩ = some x.2 ∧
        ∃ Am cm, x.2 = .slice Am x.1.mask.length cm ∧ Bts W Am x.1.mask.length x.1.mask ∧ (Am = none → cm = 0 ∧ x.1.mask.length = 0) ∧ x.1.mask.length ≤ cm ∧ cm ≤ maxLen := fun i hi => by
      obtain ⟨u0, d0, c0, f0⟩ := hce i 0 _ hi rfl
      obtain ⟨u1, d1, c1, f1⟩ := hce i 1 _ hi rfl
      obtain ⟨u2, d2, c2, f2⟩ := hce i 2 _ hi rfl
      obtain ⟨x, rfl, wx⟩ := f0.int_ Tryz.underlying3
      obtain ⟨y, rfl⟩ := f1.bool_ Tryz.underlying4
      obtain ⟨Am, nm, cm, l, hB⟩ := f2.bytes_ Tryz.underlying27 Tryz.underlying5 (by kernel_rfl) (by kernel_rfl)
      have hx := i64_bounds wx
      have hcm := hB.cap
      have hle := hB.le
      have hln := hB.bts.1
      have hnil := hB.nil
      refine ⟨⟨⟨x, y, l⟩, .slice Am nm cm⟩, ⟨hx.2, hx.1, hB.bts.2.1, by show l.length ≤ _; omega⟩, ?_, ?_, ?_, Am, cm, ?_, ?_, ?_, ?_, ?_⟩
      · rw [Nat.mul_comm]; exact c0
      · rw [Nat.mul_comm]; exact c1
      · rw [Nat.mul_comm, ← hB.val]; exact c2
      · show Value.slice Am nm cm = .slice Am l.length cm; rw [hln]
      · show Bts W Am l.length l; rw [hln]; exact hB.bts
      · show Am = none → cm = 0 ∧ l.length = 0; rw [hln]; exact hnil
      · show l.length ≤ cm; omega
      · unfold maxLen; omega
    obtain ⟨xs, hxl, hxs⟩ := list_of n each
    obtain ⟨q1, q2, q3⟩ := flat3 (fun x : HitI × Value => .int .i64 x.1.after) (fun x => .bool x.1.fails) (fun x => x.2) xs
    refine ⟨_, n, c, xs.map (·.1), rfl, ⟨by simp [hxl], ?_, xs.flatMap fun x => [.int .i64 x.1.after, .bool x.1.fails, x.2], ⟨?_, fun _ => ⟨g, o, rfl, ?_⟩⟩, ?_, ?_⟩, hA, hby2, hn, hc⟩
    · intro x hx
      obtain ⟨y, hy, rfl⟩ := List.mem_map.1 hx
      obtain ⟨i, hi⟩ := List.mem_iff_getElem?.1 hy
      exact (hxs i y hi).1
    · rw [q1, hxl]
    · intro j v hv
      obtain ⟨i, x, hx, hh⟩ := q3 j v hv
      obtain ⟨_, k0, k1, k2, _⟩ := hxs i x hx
      rcases hh with ⟨rfl, rfl⟩ | ⟨rfl, rfl⟩ | ⟨rfl, rfl⟩
      · exact k0
      · exact k1
      · exact k2
    · intro u hu
      obtain ⟨y, hy, hu⟩ := List.mem_flatMap.1 hu
      obtain ⟨i, hi⟩ := List.mem_iff_getElem?.1 hy
      obtain ⟨Am, cm, e, _⟩ := (hxs i y hi).2.2.2.2
      simp at hu
      rcases hu with rfl | rfl | rfl
      · rfl
      · rfl
      · rw [e]; rfl
    · intro i y hy
      rw [List.getElem?_map] at hy
      obtain ⟨x, hx, rfl⟩ := Option.map_eq_some_iff.1 hy
      obtain ⟨a1, a2, a3⟩ := q2 i x hx
      obtain ⟨Am, cm, e, b1, b2, b3⟩ := (hxs i x hx).2.2.2.2
      exact ⟨a1, a2, Am, cm, by rw [a3, e], b1, b2, b3⟩
end

theorem HitCell.new {w w' : World} {vs : List Value} {i : Nat} {h : HitI} (hc : HitCell w vs i h) (hk : New w w') : HitCell w' vs i h := by
  obtain ⟨c1, c2, A, c, c3, c4, c5⟩ := hc
  exact ⟨c1, c2, A, c, c3, c4.new hk, c5⟩
theorem HitsA.new_ {w w' : World} {A : Option Addr} {n : Nat} {hs : List HitI} (h : HitsA w A n hs) (hk : New w w') : HitsA w' A n hs := by
  obtain ⟨h1, h2, vs, h3, h4, h5⟩ := h
  exact ⟨h1, h2, vs, h3.new hk, h4, fun i x hx => (h5 i x hx).new hk⟩

theorem u32_nat {x : Int} (h : (Lit.int .u32 x).wf = true) : ∃ n : Nat, x = n ∧ n < 4294967296 := by
  have hx : 0 ≤ x ∧ x ≤ 4294967295 := by simpa [Lit.wf, IntKind.min, IntKind.max, IntKind.signed, IntKind.bits] using h
  exact ⟨x.toNat, by omega, by omega⟩

/-- An act on a pool. -/
structure Act4 where
  do_ : Int
  kind : Nat
  era : Nat
  block : Int
  page : Int
  fill : Nat
structure Act4.Ok (a : Act4) : Prop where
  kind : a.kind < 256
  era : a.era < 4294967296
  fill : a.fill < 256
  page : -9223372036854775808 ≤ a.page ∧ a.page ≤ 9223372036854775807
/-- A list of acts as it is handed in. -/
def Acts4 (w : World) (A : Option Addr) (n : Nat) (al : List Act4) : Prop :=
  al.length = n ∧ (0 < n → ∃ g o : Nat, A = some ⟨g, o, none⟩ ∧ ∀ (i : Nat) (a : Act4), al[i]? = some a →
    w.cell? ⟨g, o + i * 6, none⟩ = some (.int .i64 a.do_) ∧ w.cell? ⟨g, o + i * 6 + 1, none⟩ = some (.int .u8 (a.kind : Int)) ∧ w.cell? ⟨g, o + i * 6 + 2, none⟩ = some (.int .u32 (a.era : Int)) ∧
    w.cell? ⟨g, o + i * 6 + 3, none⟩ = some (.int .i64 a.block) ∧ w.cell? ⟨g, o + i * 6 + 4, none⟩ = some (.int .i64 a.page) ∧ w.cell? ⟨g, o + i * 6 + 5, none⟩ = some (.int .u8 (a.fill : Int)) ∧ a.Ok)
theorem Acts4.new {w w' : World} {A : Option Addr} {n : Nat} {al : List Act4} (h : Acts4 w A n al) (hk : New w w') : Acts4 w' A n al := by
  refine ⟨h.1, fun h0 => ?_⟩
  obtain ⟨g, o, e, hc⟩ := h.2 h0
  refine ⟨g, o, e, fun i a ha => ?_⟩
  obtain ⟨c0, c1, c2, c3, c4, c5, ok⟩ := hc i a ha
  exact ⟨hk.cell c0 id, hk.cell c1 id, hk.cell c2 id, hk.cell c3 id, hk.cell c4 id, hk.cell c5 id, ok⟩

section
variable {H : Type} {enc : TypeId × Value → H} {W : World}

theorem Arg.hits_ {base : Nat} {v : Value} {d : DataW H} {p : List MemPlace} (h : Arg enc Tryz.prog W base 44 v d p) : ∃ B m e hs, v = .slice B m e ∧ HitsA W B m hs ∧ (B = none → e = 0 ∧ m = 0) ∧ m * 40 ≤ 140737488351232 ∧ m ≤ e ∧ e ≤ maxLen :=
  (h.fld Tryz.underlying44).hits_

theorem Arg.acts4_ {base : Nat} {v : Value} {d : DataW H} {p : List MemPlace} (h : Arg enc Tryz.prog W base 22 v d p) : ∃ A n c al, v = .slice A n c ∧ Acts4 W A n al ∧ n ≤ c ∧ c ≤ maxLen := by
  obtain ⟨A, n, c, rfl, hA, hn, hc, hby, hcell⟩ := (h.fld Tryz.underlying22).list_ Tryz.underlying22 Tryz.underlying51 (by kernel_rfl) (by kernel_rfl) (by decide)
  rcases Nat.eq_zero_or_pos n with h0 | h0
  · subst h0
    exact ⟨A, 0, c, [], rfl, ⟨rfl, fun h => absurd h (by omega)⟩, hn, hc⟩
  · obtain ⟨g, o, eA, hce⟩ := hcell h0
    clear hcell
    subst eA
    have each : ∀ i, i < n → ∃ a : Act4, W.cell? ⟨g, o + i * 6, none⟩ = some (.int .i64 a.do_) ∧ W.cell? ⟨g, o + i * 6 + 1, none⟩ = some (.int .u8 (a.kind : Int)) ∧ W.cell? ⟨g, o + i * 6 + 2, none⟩ = some (.int .u32 (a.era : Int)) ∧
        W.cell? ⟨g, o + i * 6 + 3, none⟩ = some (.int .i64 a.block) ∧ W.cell? ⟨g, o + i * 6 + 4, none⟩ = some (.int .i64 a.page) ∧ W.cell? ⟨g, o + i * 6 + 5, none⟩ = some (.int .u8 (a.fill : Int)) ∧ a.Ok := fun i hi => by
      obtain ⟨u0, d0, c0, f0⟩ := hce i 0 _ hi rfl
      obtain ⟨u1, d1, c1, f1⟩ := hce i 1 _ hi rfl
      obtain ⟨u2, d2, c2, f2⟩ := hce i 2 _ hi rfl
      obtain ⟨u3, d3, c3, f3⟩ := hce i 3 _ hi rfl
      obtain ⟨u4, d4, c4, f4⟩ := hce i 4 _ hi rfl
      obtain ⟨u5, d5, c5, f5⟩ := hce i 5 _ hi rfl
      obtain ⟨x0, rfl, _⟩ := f0.int_ Tryz.underlying3
      obtain ⟨x1, rfl, w1⟩ := f1.int_ Tryz.underlying5
      obtain ⟨x2, rfl, w2⟩ := f2.int_ Tryz.underlying31
      obtain ⟨x3, rfl, _⟩ := f3.int_ Tryz.underlying3
      obtain ⟨x4, rfl, w4⟩ := f4.int_ Tryz.underlying3
      obtain ⟨x5, rfl, w5⟩ := f5.int_ Tryz.underlying5
      obtain ⟨y1, rfl, h1⟩ := u8_nat w1
      obtain ⟨y2, rfl, h2⟩ := u32_nat w2
      obtain ⟨y5, rfl, h5⟩ := u8_nat w5
      have hb := i64_bounds w4
      exact ⟨⟨x0, y1, y2, x3, x4, y5⟩, c0, c1, c2, c3, c4, c5, ⟨h1, h2, h5, hb⟩⟩
    obtain ⟨al, hl, hal⟩ := list_of n each
    exact ⟨_, n, c, al, rfl, ⟨hl, fun _ => ⟨g, o, rfl, hal⟩⟩, hn, hc⟩
end

/-- Behind some acts: Seqs up to n, m deeds of the chip at most; where nothing strikes (H) the chip is calm. -/
structure PlS (H : Prop) (s : CSt) (p : PSt) (n m : Nat) : Prop where
  nb : s.nb = 8
  np : 4 ≤ s.np ∧ s.np ≤ 6
  nz : s.nz = 128
  inv : InvC s n
  l2 : p.last ≤ n
  dd : s.deeds ≤ m
  live : s.dead = false → Good s p
  calm : H → Calm s

theorem PlS.step {H : Prop} {s s' : CSt} {p p' : PSt} {n m : Nat} (h : PlS H s p n m) (k : StepR s p s' p') : PlS H s' p' (n + 8) (m + 16) where
  nb := k.nb.trans h.nb
  np := by rw [k.np]; exact h.np
  nz := k.nz.trans h.nz
  inv := k.inv.mono (by have := h.l2; have := h.nb; omega)
  l2 := by have := k.l2; have := h.l2; have := h.nb; omega
  dd := by have := k.dd; have := h.dd; have := h.nb; omega
  live := k.live
  calm := fun x => k.calm (h.calm x)

theorem PlS.prog {H : Prop} {s : CSt} {p : PSt} {n m : Nat} (h : PlS H s p n m) (ok : s.Ok) (hg : Good s p) (b pg : Nat) (l : List Nat) (hl : IsBytes l) (hb : b < s.nb) (hw : (lookV s b).w = 1) (hp : pg < s.np) (hp1 : 0 < pg) (hdd : s.deeds < 4611686018427387904) :
    PlS H (progS s b pg l) p n (m + 1) := by
  obtain ⟨g1, g2, g3, g4, g5, g6, g7⟩ := prog_all b pg l ok hg hl hb hw hp hp1 hdd
  exact ⟨g1.trans h.nb, by rw [g2]; exact h.np, g3.trans h.nz, g5.mono h.l2, h.l2, by have := h.dd; omega, g6, fun x => g7 (h.calm x)⟩

theorem PlS.more {H : Prop} {s : CSt} {p : PSt} {n m n' m' : Nat} (h : PlS H s p n m) (hn : n ≤ n') (hm : m ≤ m') : PlS H s p n' m' :=
  ⟨h.nb, h.np, h.nz, h.inv.mono hn, Nat.le_trans h.l2 hn, Nat.le_trans h.dd hm, h.live, h.calm⟩

theorem PlS.scan {H : Prop} {s : CSt} {p : PSt} {n m : Nat} (h : PlS H s p n m) (ok : (powS s).Ok) : PlS H (powS s) (scanS (powS s)) n 0 ∧ Good (powS s) (scanS (powS s)) := by
  obtain ⟨hg, hl, _, _⟩ := scan_good ok rfl h.inv.pow
  exact ⟨⟨h.nb, h.np, h.nz, h.inv.pow, hl, Nat.le_refl _, fun _ => hg, fun _ => ⟨rfl, rfl⟩⟩, hg⟩

theorem PlS.hits {H : Prop} {s : CSt} {p : PSt} {n m : Nat} (h : PlS H s p n m) (hs : List HitI) (hc : H → hs = []) : PlS H (hitsS s hs) p n m := by
  obtain ⟨g1, g2, g3, g4, g5⟩ := hitsS_same s hs
  refine ⟨g1.trans h.nb, by rw [g2]; exact h.np, g3.trans h.nz, ?_, h.l2, by rw [g4]; exact h.dd, fun hd => (h.live (by rw [← g5]; exact hd)).hits hs, fun x => ?_⟩
  · unfold hitsS
    split
    · exact ⟨fun i hi => h.inv.p0 i hi, fun i j hi hj => h.inv.ne i j hi hj⟩
    · exact h.inv
  · refine ⟨?_, g5.trans (h.calm x).2⟩
    rw [hc x]
    rfl

theorem PlS.made {H : Prop} (np : Nat) (hp : 4 ≤ np ∧ np ≤ 6) (ok : (newS 8 np 128 2).Ok) : PlS H (newS 8 np 128 2) (scanS (newS 8 np 128 2)) 0 0 := by
  obtain ⟨hg, hl, _, _⟩ := scan_good ok rfl (new_inv np hp)
  exact ⟨rfl, hp, rfl, new_inv np hp, hl, Nat.le_refl _, fun _ => hg, fun _ => ⟨rfl, rfl⟩⟩

end

section
open Go.ChangeShapes Go.WideShapes Go.ChangeAt Go.RowKit

/-- The chip and its pool in memory that was not there ahead. -/
def PlM (H : Prop) (w0 w : World) (g gp : Nat) (n m : Nat) : Prop :=
  ∃ (Q : Nat → Prop) (gb : Nat) (s : CSt) (p : PSt), PRep Q w gp gb g s p ∧ (∀ b, PoolQ Q gp gb b → w0.heap.size ≤ b) ∧ New w0 w ∧ PlS H s p n m

theorem PlM.drewN {H : Prop} {w0 w : World} {g gp n m : Nat} (h : PlM H w0 w g gp n m) (k : Nat) : PlM H w0 (w.drewN k) g gp n m := by
  obtain ⟨Q, gb, s, p, h1, h2, h3, h4⟩ := h
  exact ⟨Q, gb, s, p, h1.new ((Kept.refl _ _).drewN k), h2, h3.drewN k, h4⟩
theorem PlM.new {H : Prop} {w0 w w' : World} {g gp n m : Nat} (h : PlM H w0 w g gp n m) (k : New w w') : PlM H w0 w' g gp n m := by
  obtain ⟨Q, gb, s, p, h1, h2, h3, h4⟩ := h
  exact ⟨Q, gb, s, p, h1.new k, h2, h3.new k, h4⟩
theorem PlM.more {H : Prop} {w0 w : World} {g gp n m n' m' : Nat} (h : PlM H w0 w g gp n m) (hn : n ≤ n') (hm : m ≤ m') : PlM H w0 w g gp n' m' := by
  obtain ⟨Q, gb, s, p, h1, h2, h3, h4⟩ := h
  exact ⟨Q, gb, s, p, h1, h2, h3, h4.more hn hm⟩

theorem PRep.rehit {Q : Nat → Prop} {w w' : World} {gp gb g : Nat} {s s' : CSt} {p : PSt} (h : PRep Q w gp gb g s p) (hk : Kept Q w w') (hc : NChip (fun b => Q b ∨ (w.heap.size ≤ b ∧ b < w'.heap.size)) w' g s') (hn : s'.nb = s.nb) :
    PRep (fun b => Q b ∨ (w.heap.size ≤ b ∧ b < w'.heap.size)) w' gp gb g s' p :=
  { chip := hc, pool := by rw [hn]; exact h.pool.kept hk h.np, blks := h.blks.kept hk h.nb, len := by rw [hn]; exact h.len, next := by rw [hn]; exact h.next, last := h.last, okb := h.okb,
    np := fun x => x.elim h.np fun y => by have := h.pool.lt; omega, nb := fun x => x.elim h.nb fun y => by have := h.blks.lt; omega }

/-- .. beside a block that is none of theirs. -/
def PlB (H : Prop) (w0 w : World) (g gp n m ga : Nat) (cs : List Value) : Prop :=
  ∃ (Q : Nat → Prop) (gb : Nat) (s : CSt) (p : PSt), PRep Q w gp gb g s p ∧ (∀ b, PoolQ Q gp gb b → w0.heap.size ≤ b) ∧ New w0 w ∧ PlS H s p n m ∧ ¬ PoolQ Q gp gb ga ∧ Blk w ga 51 cs
theorem PlM.box {H : Prop} {w0 w : World} {g gp n m : Nat} (h : PlM H w0 w g gp n m) (cs : Array Value) : PlB H w0 (w.alloc (.cells cs 51)) g gp n m w.heap.size cs.toList := by
  obtain ⟨Q, gb, s, p, h1, h2, h3, h4⟩ := h
  exact ⟨Q, gb, s, p, h1.new ((Kept.refl _ _).alloc _), h2, h3.alloc _, h4, fun hq => by have := h1.lowq _ hq; omega, Blk.made w _ _⟩
theorem PlB.more {H : Prop} {w0 w : World} {g gp n m n' m' ga : Nat} {cs : List Value} (h : PlB H w0 w g gp n m ga cs) (hn : n ≤ n') (hm : m ≤ m') : PlB H w0 w g gp n' m' ga cs := by
  obtain ⟨Q, gb, s, p, h1, h2, h3, h4, h5, h6⟩ := h
  exact ⟨Q, gb, s, p, h1, h2, h3, h4.more hn hm, h5, h6⟩

/-- A page that is filled up to k. -/
def fillL (f k : Nat) : List Nat := List.replicate k f ++ List.replicate (128 - k) 0
theorem fillL_len (f k : Nat) (hk : k ≤ 128) : (fillL f k).length = 128 := by simp [fillL]; omega
theorem fillL_zero (f : Nat) : fillL f 0 = List.replicate 128 0 := rfl
theorem fillL_get (f k : Nat) (hk : k < 128) : (fillL f k)[k]? = some 0 := by
  unfold fillL
  rw [List.getElem?_append_right (by simp), List.getElem?_replicate, List.length_replicate, if_pos (by omega)]
theorem fillL_step (f k : Nat) (hk : k < 128) : ((fillL f k).map byt).set k (byt f) = (fillL f (k + 1)).map byt := by
  rw [← List.map_set]
  congr 1
  apply List.ext_getElem?
  intro j
  rw [List.getElem?_set]
  unfold fillL
  by_cases hj : k = j
  · subst hj
    rw [if_pos rfl, if_pos (by simp; omega), List.getElem?_append_left (by simp), List.getElem?_replicate, if_pos (by omega)]
  · rw [if_neg hj]
    by_cases hlt : j < k
    · rw [List.getElem?_append_left (by simp; omega), List.getElem?_append_left (by simp; omega), List.getElem?_replicate, List.getElem?_replicate, if_pos hlt, if_pos (by omega)]
    · rw [List.getElem?_append_right (by simp; omega), List.getElem?_append_right (by simp; omega), List.getElem?_replicate, List.getElem?_replicate]
      simp only [List.length_replicate]
      by_cases h8 : j < 128
      · rw [if_pos (by omega), if_pos (by omega)]
      · rw [if_neg (by omega), if_neg (by omega)]
theorem fillL_bytes (f k : Nat) (hf : f < 256) : IsBytes (fillL f k) := by
  intro x hx
  rcases List.mem_append.1 hx with h | h
  · rw [(List.mem_replicate.1 h).2]; exact hf
  · rw [(List.mem_replicate.1 h).2]; omega
theorem Blk.bytes {w : World} {g : Nat} {l : List Nat} {n : Nat} (h : Blk w g 5 (l.map byt)) (hb : IsBytes l) (hn : l.length = n) : Bts w (some ⟨g, 0, none⟩) n l := by
  refine ⟨hn, hb, fun _ => ⟨g, 0, rfl, fun j x hx => ?_⟩⟩
  rw [Nat.zero_add, h.cell, List.getElem?_map, hx]
  rfl

def PlP (H : Prop) (w : World) (e : Ending) (w' : World) : Prop :=
  ∃ g gp, e = .returned (.tuple #[.pointer (some ⟨g, 0, none⟩), .pointer (some ⟨gp, 0, none⟩), .bool true]) ∧ PlM H w w' g gp 320 680

set_option maxRecDepth 100000 in
set_option maxHeartbeats 6400000 in
theorem played_any (pages : Nat) (Ah : Option Addr) (nh ch : Nat) (hs : List HitI) (A : Option Addr) (n c : Nat) (al : List Act4) (w : World) (hpg : pages < 256) (hH : HitsA w Ah nh hs) (hHn : Ah = none → ch = 0 ∧ nh = 0) (hHb : nh * 40 ≤ 140737488351232)
    (hA : Acts4 w A n al) (hn : n ≤ c ∧ c ≤ maxLen) :
    Calls Tryz.prog 4 #[.int .u8 (pages : Nat), .slice Ah nh ch, .slice A n c] w (PlP (hs = []) w) := by
  obtain ⟨r, hr⟩ : ∃ r, r = pages % 3 := ⟨_, rfl⟩
  obtain ⟨np, hnp⟩ : ∃ np, np = 4 + r := ⟨_, rfl⟩
  have hnp2 : 4 ≤ np ∧ np ≤ 6 := by omega
  have hcap := Nat.le_trans hn.1 hn.2
  unfold maxLen at hcap
  have e0 : Hid (geoOk 8 np 128 2) := by show geoOk 8 np 128 2; unfold geoOk; omega
  have m1 : Int.tmod (pages : Int) 3 = (r : Int) := by rw [hr, Int.tmod_eq_emod_of_nonneg (by omega), Int.natCast_emod]; rfl
  have m2 : (pages : Int) % 3 = (r : Int) := by rw [hr, Int.natCast_emod]; rfl
  have hr3 : r < 3 := by omega
  have m3 : (4 : Int) + (r : Int) = (np : Int) := by omega
  clear hr
  have HH := Lib.hid hH
  have HHN := Lib.hid (And.intro hHn hHb)
  have HA := Lib.hid hA
  have HNP := Lib.hid hnp2
  clear hnp hH hHn hHb hA hn
  obtain ⟨i0, hi, hz0, hz1, hz2⟩ := info_parts info_u8
  have hmk := fun u => run_make_bytes (P := Tryz.prog) 27 5 i0 Tryz.underlying27 hi hz0 hz1 hz2 .i64 .i64 128 128 128 128 rfl rfl (Nat.le_refl _) (by omega) u
  clear hz2 hz1 hz0 hi
  go_enter Tryz.func4, Tryz.ntmps4
  go_wp2_with fail
  refine (nNew_ok 8 np 128 2 _ e0.out).mono ?_
  rintro e w2 ⟨g, Q, rfl, h1, hq, k2⟩
  have C2 : Hid (NChip Q w2 g (newS 8 np 128 2)) := h1
  have K2 : Hid (New w w2) := k2
  have HQ : Hid (∀ b, Q b → w.heap.size ≤ b) := hq
  clear h1 hq k2
  go_wp2_with fail
  refine (pScan_ok Q g (newS 8 np 128 2) _ C2.out rfl (by show 8 ≤ 19; decide)).mono ?_
  rintro e w3 ⟨gp, gb, rfl, h1, h2, h3, h4⟩
  have K3 : Hid (New w w3) := K2.out.new h4
  have HQP : Hid (∀ b, PoolQ Q gp gb b → w.heap.size ≤ b) := by
    have hz := K2.out.size
    rintro b (hb | rfl | rfl)
    · exact HQ.out b hb
    · exact Nat.le_trans hz h2
    · exact Nat.le_trans hz h3
  have PM3 : Hid (PRep Q w3 gp gb g (newS 8 np 128 2) (scanS (newS 8 np 128 2))) := h1
  have PS3 : Hid (PlS (hs = []) (newS 8 np 128 2) (scanS (newS 8 np 128 2)) 0 0) := PlS.made np HNP.out (newS_ok 8 np 128 2 e0.out)
  clear h1 h2 h3 h4 K2 C2 HQ
  go_upto_if 42 with fail
  go_cut [] (fun wx => Hid (PlM (hs = []) w wx g gp 0 0))
  case first =>
    by_cases hlt : nh < 20
    · have d1 : decide ((nh : Int) < 20) = true := decide_eq_true (by omega)
      go_wp2_with fail
      refine (nHits_any Q g _ Ah nh ch hs _ PM3.out.chip (HH.out.new_ K3.out) HHN.out.1 HHN.out.2).mono ?_
      rintro e w4 ⟨rfl, h1, h2⟩
      have K4 : Hid (New w w4) := new_of_kept K3.out h2 fun b hb => HQP.out b (.inl hb)
      have PM : Hid (PlM (hs = []) w w4 g gp 0 0) := by
        refine ⟨_, gb, _, _, PM3.out.rehit h2 h1 (hitsS_same _ _).1, ?_, K4.out, PS3.out.hits hs id⟩
        rintro b ((hb | hb) | rfl | rfl)
        · exact HQP.out b (.inl hb)
        · exact Nat.le_trans K3.out.size hb.1
        · exact HQP.out _ (.inr (.inl rfl))
        · exact HQP.out _ (.inr (.inr rfl))
      clear h1 h2 d1 PM3 PS3 HQP K3
      go_wp2
      go_meet
      exact PM
    · have d1 : decide ((nh : Int) < 20) = false := decide_eq_false (by omega)
      go_wp2
      go_meet
      exact ⟨Q, gb, _, _, PM3.out, HQP.out, K3.out, PS3.out⟩
  case rest =>
    have PM0 := hcut
    clear hcut HH HHN PM3 PS3 HQP K3
    go_wp2
    go_loopw [9, 11, 13] (fun tc tp ti wr => ∃ i g gp : Nat, i ≤ n ∧ i ≤ 40 ∧ tc = .pointer (some ⟨g, 0, none⟩) ∧ tp = .pointer (some ⟨gp, 0, none⟩) ∧ ti = .int .i64 i ∧ Hid (PlM (hs = []) w wr g gp (8 * i) (17 * i))) (fun _ _ i _ => 40 - (intOf i).toNat)
    case atStart => exact ⟨0, g, gp, Nat.zero_le _, Nat.zero_le _, rfl, rfl, rfl, PM0⟩
    case round =>
      clear PM0
      obtain ⟨i, g, gp, hi1, hi2, rfl, rfl, rfl, PM⟩ := hrel
      by_cases h40 : i < 40
      · by_cases hin : i < n
        · have d40 : decide ((i : Int) < 40) = true := decide_eq_true (by omega)
          obtain ⟨a, hget⟩ : ∃ a, al[i]? = some a := ⟨_, List.getElem?_eq_getElem (by rw [HA.out.1]; exact hin)⟩
          obtain ⟨gA, oA, rfl, hcell⟩ := (HA.out.new (PM.out.elim fun _ h => h.elim fun _ h => h.elim fun _ h => h.elim fun _ h => h.2.2.1)).2 (by omega)
          obtain ⟨c0, c1, c2, c3, c4, c5, hok⟩ := hcell i _ hget
          have HO := Lib.hid hok
          have HI := Lib.hid (And.intro hin h40)
          clear hcell hget hok
          go_upto_region 11 with fail
          obtain ⟨w1, hw1⟩ : ∃ w1, w1 = wr.alloc (.cells (aCells a.do_ a.kind a.era a.block a.page a.fill) 51) := ⟨_, rfl⟩
          obtain ⟨cs, hcs⟩ : ∃ cs, cs = (aCells a.do_ a.kind a.era a.block a.page a.fill).toList := ⟨_, rfl⟩
          have HCS := Lib.hid hcs
          have PM1 : Hid (PlB (hs = []) w w1 g gp (8 * i) (17 * i) wr.heap.size cs) := by rw [hw1, hcs]; exact PM.out.box _
          have HW1 := Lib.hid hw1
          clear hw1 PM c0 c1 c2 c3 c4 c5 hcs
          rw [← HW1.out]
          clear HW1
          generalize wr.heap.size = ga at *
          have c0 : w1.cell? ⟨ga, 0, none⟩ = some (.int .i64 a.do_) := by
            obtain ⟨_, _, _, _, _, _, _, _, _, hb⟩ := PM1.out
            rw [HCS.out] at hb
            exact hb.cell 0
          go_upto_if 62 with fail
          go_cut [] (fun wx => Hid (PlB (hs = []) w wx g gp (8 * i) (17 * i + 1) ga cs))
          case first =>
            by_cases hd3 : a.do_ = 3
            · have f3 : (a.do_ == 3) = true := by rw [hd3]; rfl
              obtain ⟨Q, gb, s, p, h1, h2, h3, h4, h5, h6⟩ := PM1.out
              have P1 := Lib.hid h1
              have HQ1 := Lib.hid h2
              have N1 := Lib.hid h3
              have S1 := Lib.hid h4
              have HGA := Lib.hid h5
              have B1 := Lib.hid h6
              have H19 : Hid (s.nb ≤ 19) := by have := h4.nb; show _ ≤ _; omega
              clear h1 h2 h3 h4 h5 h6
              go_wp2_with fail
              refine (pTaken_any _ _ _ _ _ _ _ P1.out H19.out).mono ?_
              rintro e w2 ⟨At, ct, rfl, h1, h2⟩
              have VO := Lib.hid h1
              have P2 := Lib.hid (P1.out.new h2)
              have N2 := Lib.hid (N1.out.new h2)
              have B2 := Lib.hid (B1.out.new h2)
              have L12 := Lib.hid h2.size
              have hcapt : (tknL s p).length ≤ maxLen := Nat.le_trans h1.2.1 h1.2.2.1
              unfold maxLen at hcapt
              clear h1 h2 P1 N1 B1 PM1 c0
              rcases List.eq_nil_or_concat (tknL s p) with hl | ⟨l', t, hl⟩
              · rw [hl]
                clear VO
                go_wp2
                go_meet
                exact ⟨Q, gb, s, p, P2.out, HQ1.out, N2.out, S1.out.more (Nat.le_refl _) (Nat.le_succ _), HGA.out, B2.out⟩
              · have hlen : (tknL s p).length = l'.length + 1 := by rw [hl, List.length_concat]
                have hgt : (tknL s p)[l'.length]? = some t := by rw [hl, List.concat_eq_append, List.getElem?_append_right (Nat.le_refl _), Nat.sub_self]; rfl
                obtain ⟨htb, _⟩ := mem_tkn (s := s) (p := p) (t := t) (by rw [hl, List.concat_eq_append]; simp)
                have HLW : Hid (s.dead = false → (lookV s t.b).w = 1) := fun hd => by
                  refine (last_tk (s := s) (t := t) ?_).2
                  rw [← tkn_ref P2.out.chip.ok (S1.out.live hd), hl, List.concat_eq_append, List.getLast?_append]
                  rfl
                have HTB := Lib.hid htb
                obtain ⟨gt, ot, rfl, hct⟩ := VO.out.row.2 (by rw [hlen]; omega)
                have k0 := hct (l'.length * 5) _ (tRow_get [] _ 0 _ _ _ hgt (by omega) rfl)
                clear hl hct hgt htb VO
                generalize (tknL s p).length = mm at *
                generalize l'.length = m at *
                have q0 : IntKind.i64.wrap ((mm : Int) - 1) = (m : Int) := by
                  rw [IntKind.wrap_i64]; omega
                have q1 : (m : Int) < (mm : Int) := by omega
                have q2 : (0 : Int) ≤ (m : Int) := by omega
                have q3 : (0 : Int) < (mm : Int) := by omega
                have q4 : m < mm := by omega
                clear hlen
                obtain ⟨y, hy⟩ : ∃ y : Nat, (y : Int) = a.page % 18446744073709551616 := ⟨(a.page % 18446744073709551616).toNat, by omega⟩
                have hy2 : y < 18446744073709551616 := by omega
                obtain ⟨r3, hr3⟩ : ∃ r3, r3 = y % 3 := ⟨_, rfl⟩
                have hwr : IntKind.u64.wrap a.page = (y : Int) := by
                  simp [IntKind.wrap, IntKind.signed, IntKind.bits]
                  omega
                have hr31 : Int.tmod (y : Int) 3 = (r3 : Int) := by rw [hr3, Int.tmod_eq_emod_of_nonneg (by omega), Int.natCast_emod]; rfl
                have hr32 : (y : Int) % 3 = (r3 : Int) := by rw [hr3, Int.natCast_emod]; rfl
                obtain ⟨pg, hpg⟩ : ∃ pg, pg = 1 + r3 := ⟨_, rfl⟩
                have hpg2 : (1 : Int) + (r3 : Int) = (pg : Int) := by omega
                have HPG : Hid (0 < pg ∧ pg < s.np) := by have := S1.out.np; exact ⟨by omega, by omega⟩
                have hr33 : r3 < 3 := by omega
                have HPG2 := Lib.hid hpg2
                clear hpg2
                clear hy hr3 hpg
                go_wp2_with fail
                go_loopw [17] (fun ti wr => ∃ k : Nat, k ≤ 128 ∧ ti = .int .i64 k ∧ Hid (Blk wr w2.heap.size 5 ((fillL a.fill k).map byt)) ∧ Hid (New w2 wr)) (fun i _ => 128 - (intOf i).toNat)
                case atStart => exact ⟨0, Nat.zero_le _, rfl, by rw [fillL_zero]; exact Blk.madeB w2 5 _, (Kept.refl _ _).alloc _⟩
                case round =>
                  obtain ⟨k, hk, rfl, VB, VN⟩ := hrel
                  by_cases hlt : k < 128
                  · have hcl : wr.cell? ⟨w2.heap.size, k, none⟩ = some (.int .u8 0) := by
                      rw [VB.out.cell, List.getElem?_map, fillL_get _ _ hlt]
                      rfl
                    have hfr := VB.out.free k
                    have hlt2 := VB.out.lt
                    have c5 : wr.cell? ⟨ga, 5, none⟩ = some (.int .u8 (a.fill : Nat)) := by
                      have hb := B2.out.new VN.out
                      rw [HCS.out] at hb
                      exact hb.cell 5
                    have VB2 : Hid (Blk (wr.setCell ⟨w2.heap.size, k, none⟩ (.int .u8 (a.fill : Nat))) w2.heap.size 5 ((fillL a.fill (k + 1)).map byt)) := by
                      rw [← fillL_step _ _ hlt]
                      exact VB.out.put k _
                    have VN2 : Hid (New w2 (wr.setCell ⟨w2.heap.size, k, none⟩ (.int .u8 (a.fill : Nat)))) := VN.out.setCell (fun h => absurd h (by simp)) _
                    clear VB VN
                    go_wp2
                    go_roundw
                    case rel => exact ⟨k + 1, by omega, by go_num, VB2, VN2⟩
                    case measure => simp [intOf]; omega
                  · obtain rfl : k = 128 := by omega
                    have P3 := Lib.hid (P2.out.new VN.out)
                    have c0 : wr.cell? ⟨ga, 4, none⟩ = some (.int .i64 a.page) := by
                      have hb := B2.out.new VN.out
                      rw [HCS.out] at hb
                      exact hb.cell 4
                    have k0r := VN.out.cell k0 id
                    go_wp2
                    go_still_tail 15, (by kernel_rfl)
                    change wpList _ _ _ _ _ wr.drew
                    have P4 := Lib.hid (P3.out.new ((Kept.refl _ _).drew))
                    have N4 : Hid (New w wr.drew) := (N2.out.new VN.out).drew
                    have B4 : Hid (Blk wr.drew ga 51 cs) := (B2.out.new VN.out).drew
                    have BB4 : Hid (Bts wr.drew (some ⟨w2.heap.size, 0, none⟩) 128 (fillL a.fill 128)) := (VB.out.bytes (fillL_bytes _ _ HO.out.fill) (fillL_len _ _ (Nat.le_refl _))).drew
                    have HNQ : Hid (¬ Q w2.heap.size) := fun hq => by have := P2.out.chip.low _ hq; omega
                    clear c0 k0r k0 P3 VB VN
                    generalize wr.drew = w4 at *
                    go_wp2_with fail
                    rw [show (1 : Int) + (r3 : Int) = (pg : Int) from HPG2.out]
                    refine (nProg_w Q g s t.b pg 128 _ 128 (fillL a.fill 128) _ P4.out.chip (by have := S1.out.dd; omega) BB4.out (fun _ a ha => by injection ha with ha; subst ha; exact HNQ.out)).mono ?_
                    rintro e5 w5 ⟨rfl, h1, h2⟩
                    have R : Hid (PlB (hs = []) w w5 g gp (8 * i) (17 * i + 1) ga cs) := by
                      refine ⟨Q, gb, _, p, P4.out.step h2 h1 (progS_geo _ _ _ _).1, HQ1.out, new_of_kept N4.out h2 fun b hb => HQ1.out b (.inl hb), ?_, HGA.out, B4.out.kept h2 fun hq => HGA.out (.inl hq)⟩
                      cases hdd : s.dead with
                      | true => rw [prog_dead _ _ _ hdd]; exact S1.out.more (Nat.le_refl _) (Nat.le_succ _)
                      | false => exact S1.out.prog P4.out.chip.ok (S1.out.live hdd) t.b pg _ (fillL_bytes _ _ HO.out.fill) HTB.out (HLW.out hdd) HPG.out.2 HPG.out.1 (by have := S1.out.dd; omega)
                    clear h1 h2 P4 N4 B4 BB4 P2 N2 B2
                    go_wp2
                    go_meet
                    exact R
            · have f3 : (a.do_ == 3) = false := beq_eq_false_iff_ne.2 hd3
              go_wp2
              go_meet
              exact PM1.out.more (Nat.le_refl _) (Nat.le_succ _)
          case rest =>
            have PM := hcut
            clear PM1 c0 hcut
            have c0 : wc.cell? ⟨ga, 0, none⟩ = some (.int .i64 a.do_) := by
              obtain ⟨_, _, _, _, _, _, _, _, _, hb⟩ := PM.out
              rw [HCS.out] at hb
              exact hb.cell 0
            go_upto_region 20 with fail
            go_cut [103] (fun v wx => ∃ b : Bool, v = .bool b ∧ Hid (∃ (Q : Nat → Prop) (gb : Nat) (s : CSt) (p : PSt), PRep Q wx gp gb g s p ∧ (∀ b, PoolQ Q gp gb b → w.heap.size ≤ b) ∧ New w wx ∧ PlS (hs = []) s p (8 * i) (17 * i + 1) ∧ ¬ PoolQ Q gp gb ga ∧ Blk wx ga 51 cs ∧ (b = false → s.dead = false)))
            case first =>
              obtain ⟨Q, gb, s, p, h1, h2, h3, h4, h5, h6⟩ := PM.out
              have P1 := Lib.hid h1
              by_cases hd4 : a.do_ = 4
              · have f4 : (a.do_ == 4) = true := by rw [hd4]; rfl
                have R : Hid (∃ (Q : Nat → Prop) (gb : Nat) (s : CSt) (p : PSt), PRep Q wc gp gb g s p ∧ (∀ b, PoolQ Q gp gb b → w.heap.size ≤ b) ∧ New w wc ∧ PlS (hs = []) s p (8 * i) (17 * i + 1) ∧ ¬ PoolQ Q gp gb ga ∧ Blk wc ga 51 cs ∧ (true = false → s.dead = false)) := ⟨Q, gb, s, p, h1, h2, h3, h4, h5, h6, fun h => by cases h⟩
                clear h1 h2 h3 h4 h5 h6 P1 PM
                go_wp2
                go_meet
                exact ⟨true, rfl, R⟩
              · have f4 : (a.do_ == 4) = false := beq_eq_false_iff_ne.2 hd4
                have R : Hid (∀ w2, New wc w2 → ∃ (Q : Nat → Prop) (gb : Nat) (s2 : CSt) (p : PSt), PRep Q w2 gp gb g s2 p ∧ (∀ b, PoolQ Q gp gb b → w.heap.size ≤ b) ∧ New w w2 ∧ PlS (hs = []) s2 p (8 * i) (17 * i + 1) ∧ ¬ PoolQ Q gp gb ga ∧ Blk w2 ga 51 cs ∧ (s.dead = false → s2.dead = false)) := fun w2 k => ⟨Q, gb, s, p, h1.new k, h2, h3.new k, h4, h5, h6.new k, id⟩
                clear h1 h2 h3 h4 h5 h6 PM
                go_wp2_with fail
                refine (alive_any _ _ _ _ P1.out.chip).mono ?_
                rintro e2 w2 ⟨rfl, k2⟩
                have R2 := Lib.hid (R.out w2 k2)
                clear k2 R P1
                go_wp2
                go_meet
                refine ⟨s.dead, by simp, ?_⟩
                exact R2
            case rest =>
              obtain ⟨b, rfl, PM2⟩ := hcut
              clear PM c0
              go_upto_if 103 with fail
              go_cut [9, 11] (fun vc vp wx => ∃ g gp : Nat, vc = .pointer (some ⟨g, 0, none⟩) ∧ vp = .pointer (some ⟨gp, 0, none⟩) ∧ Hid (∃ (Q : Nat → Prop) (gb : Nat) (s : CSt) (p : PSt), PRep Q wx gp gb g s p ∧ (∀ b, PoolQ Q gp gb b → w.heap.size ≤ b) ∧ New w wx ∧ PlS (hs = []) s p (8 * i) (17 * i + 1) ∧ ¬ PoolQ Q gp gb ga ∧ Blk wx ga 51 cs ∧ Good s p))
              case first =>
                obtain ⟨Q, gb, s, p, h1, h2, h3, h4, h5, h6, h7⟩ := PM2.out
                clear PM2
                cases b with
                | false =>
                  have R : Hid (∃ (Q : Nat → Prop) (gb : Nat) (s : CSt) (p : PSt), PRep Q wc gp gb g s p ∧ (∀ b, PoolQ Q gp gb b → w.heap.size ≤ b) ∧ New w wc ∧ PlS (hs = []) s p (8 * i) (17 * i + 1) ∧ ¬ PoolQ Q gp gb ga ∧ Blk wc ga 51 cs ∧ Good s p) := ⟨Q, gb, s, p, h1, h2, h3, h4, h5, h6, h4.live (h7 rfl)⟩
                  clear h1 h2 h3 h4 h5 h6 h7
                  go_wp2
                  go_meet
                  exact ⟨g, gp, rfl, rfl, R⟩
                | true =>
                  have C1 := Lib.hid h1.chip
                  have N1 := Lib.hid h3
                  have S1 := Lib.hid h4
                  have B1 := Lib.hid h6
                  clear h1 h2 h3 h4 h5 h6 h7
                  go_wp2_with fail
                  refine (nPower_any _ _ _ _ C1.out).mono ?_
                  rintro e2 w2 ⟨g2, Q2, rfl, h1, hq, k2⟩
                  have C2 := Lib.hid h1
                  have N2 := Lib.hid (N1.out.new k2)
                  have B2 := Lib.hid (B1.out.new k2)
                  have HQ2 : Hid (∀ b, Q2 b → wc.heap.size ≤ b) := hq
                  have HGC : Hid (ga < wc.heap.size ∧ w.heap.size ≤ wc.heap.size ∧ wc.heap.size ≤ w2.heap.size) := ⟨B1.out.lt, N1.out.size, k2.size⟩
                  have HNB : Hid ((powS s).nb ≤ 19) := by have := S1.out.nb; show s.nb ≤ _; omega
                  clear h1 hq k2 C1 N1 B1
                  go_wp2_with fail
                  refine (pScan_ok Q2 g2 (powS s) _ C2.out rfl HNB.out).mono ?_
                  rintro e3 w3 ⟨gp3, gb3, rfl, h1, h2, h3, h4⟩
                  have R : Hid (∃ (Q : Nat → Prop) (gb : Nat) (s : CSt) (p : PSt), PRep Q w3 gp3 gb g2 s p ∧ (∀ b, PoolQ Q gp3 gb b → w.heap.size ≤ b) ∧ New w w3 ∧ PlS (hs = []) s p (8 * i) (17 * i + 1) ∧ ¬ PoolQ Q gp3 gb ga ∧ Blk w3 ga 51 cs ∧ Good s p) := by
                    obtain ⟨s1, s2⟩ := S1.out.scan C2.out.ok
                    obtain ⟨q1, q2, q3⟩ := HGC.out
                    refine ⟨Q2, gb3, _, _, h1, ?_, N2.out.new h4, s1.more (Nat.le_refl _) (Nat.zero_le _), ?_, B2.out.new h4, s2⟩
                    · rintro b (hb | rfl | rfl)
                      · have := HQ2.out b hb; omega
                      · omega
                      · omega
                    · rintro (hb | rfl | rfl)
                      · have := HQ2.out _ hb; omega
                      · omega
                      · omega
                  clear h1 h2 h3 h4 N2 B2 HQ2 HGC C2
                  go_wp2
                  go_meet
                  exact ⟨g2, gp3, rfl, rfl, R⟩
              case rest =>
                clear PM2
                obtain ⟨g, gp, rfl, rfl, PM3⟩ := hcut
                obtain ⟨Q, gb, s, p, h1, h2, h3, h4, h5, h6, h7⟩ := PM3.out
                have P1 := Lib.hid h1
                have HQ1 := Lib.hid h2
                have N1 := Lib.hid h3
                have S1 := Lib.hid h4
                have G1 := Lib.hid h7
                rw [HCS.out] at h6
                have c0 : wc.cell? ⟨ga, 0, none⟩ = some (.int .i64 a.do_) := h6.cell 0
                have c1 : wc.cell? ⟨ga, 1, none⟩ = some (.int .u8 (a.kind : Nat)) := h6.cell 1
                have c2 : wc.cell? ⟨ga, 2, none⟩ = some (.int .u32 (a.era : Nat)) := h6.cell 2
                have c3 : wc.cell? ⟨ga, 3, none⟩ = some (.int .i64 a.block) := h6.cell 3
                have c4 : wc.cell? ⟨ga, 4, none⟩ = some (.int .i64 a.page) := h6.cell 4
                have c5 : wc.cell? ⟨ga, 5, none⟩ = some (.int .u8 (a.fill : Nat)) := h6.cell 5
                have H19 : Hid (s.nb ≤ 19) := by have := h4.nb; show _ ≤ _; omega
                clear h1 h2 h3 h4 h5 h6 h7 PM3
                go_wp2_with fail
                refine (step_any Q gp gb g s p a.do_ a.kind a.era a.block a.page a.fill _ P1.out G1.out H19.out HO.out.kind HO.out.era (by have := S1.out.dd; omega) (by have := S1.out.l2; omega)).mono ?_
                rintro e2 w2 ⟨rfl, s2, p2, h1, h2, h3⟩
                have P2 := Lib.hid h1
                have N2 : Hid (New w w2) := new_of_kept N1.out h2 HQ1.out
                have S2 : Hid (PlS (hs = []) s2 p2 (8 * (i + 1)) (17 * (i + 1))) := (S1.out.step h3).more (by omega) (by omega)
                have H192 : Hid (s2.nb ≤ 19) := by have := S2.out.nb; show _ ≤ _; omega
                clear h1 h2 h3 c0 c1 c2 c3 c4 c5 P1 N1 S1 G1 H19
                go_wp2_with fail
                refine (alive_any _ _ _ _ P2.out.chip).mono ?_
                rintro e3 w3 ⟨rfl, k3⟩
                have R3 : Hid (PlM (hs = []) w w3 g gp (8 * (i + 1)) (17 * (i + 1))) := ⟨Q, gb, s2, p2, P2.out.new k3, HQ1.out, N2.out.new k3, S2.out⟩
                cases hdd : s2.dead with
                | true =>
                  clear k3 P2 N2 S2 HQ1
                  go_wp2
                  go_roundw
                  case rel => exact ⟨i + 1, g, gp, HI.out.1, HI.out.2, rfl, rfl, by go_num, R3⟩
                  case measure => simp [intOf]; omega
                | false =>
                  have P3 := Lib.hid (P2.out.new k3)
                  have G3 := Lib.hid (S2.out.live hdd)
                  clear k3 P2 N2 S2 HQ1
                  go_wp2_with fail
                  refine (same_ok _ _ _ _ _ _ _ P3.out G3.out H192.out).mono ?_
                  rintro e4 w4 ⟨rfl, k4⟩
                  have R4 : Hid (PlM (hs = []) w w4 g gp (8 * (i + 1)) (17 * (i + 1))) := R3.out.new k4
                  clear R3 P3 k4
                  go_wp2
                  go_roundw
                  case rel => exact ⟨i + 1, g, gp, HI.out.1, HI.out.2, rfl, rfl, by go_num, R4⟩
                  case measure => simp [intOf]; omega
        · obtain rfl : i = n := by omega
          go_wp2
          go_ret3
          exact ⟨g, gp, rfl, PM.out.more (by omega) (by omega)⟩
      · obtain rfl : i = 40 := by omega
        by_cases hin : 40 < n
        · go_wp2
          go_ret3
          exact ⟨g, gp, rfl, PM.out.more (by omega) (by omega)⟩
        · obtain rfl : n = 40 := by omega
          go_wp2
          go_ret3
          exact ⟨g, gp, rfl, PM.out.more (by omega) (by omega)⟩

end

section

/-- No deed fails; the power may be cut. -/
def NoFail (s : CSt) : Prop := ∀ h ∈ s.hits, h.fails = false
theorem Calm.nofail {s : CSt} (h : Calm s) : NoFail s := fun x hx => by rw [h.1] at hx; cases hx
theorem deedS_nofail {s : CSt} (h : NoFail s) (b off : Nat) (l : List Nat) : NoFail (deedS s b off l) ∧ ∀ j, badAt (deedS s b off l) j = badAt s j := by
  unfold deedS
  split
  · exact ⟨h, fun _ => rfl⟩
  · rename_i x t hx
    have hf : x.fails = false := h x (by rw [hx]; exact List.mem_cons_self ..)
    split
    · exact ⟨h, fun _ => rfl⟩
    · refine ⟨fun y hy => h y (by rw [hx]; exact List.mem_cons_of_mem _ hy), fun j => ?_⟩
      unfold badAt
      simp only [hf, Bool.false_eq_true, if_false]
theorem progS_nofail {s : CSt} (h : NoFail s) (b p : Int) (l : List Nat) : NoFail (progS s b p l) ∧ ∀ j, badAt (progS s b p l) j = badAt s j := by
  unfold progS
  split
  · exact deedS_nofail h _ _ _
  · exact ⟨h, fun _ => rfl⟩
theorem erasS_nofail {s : CSt} (h : NoFail s) (b : Int) : NoFail (erasS s b) ∧ ∀ j, badAt (erasS s b) j = badAt s j := by
  unfold erasS
  split
  · exact deedS_nofail h _ _ _
  · exact ⟨h, fun _ => rfl⟩
theorem clS_nofail {s : CSt} (h : NoFail s) (p : PSt) (i : Nat) : NoFail (clS s p i) ∧ ∀ j, badAt (clS s p i) j = badAt s j := by
  unfold clS
  split
  · exact erasS_nofail h _
  · exact ⟨h, fun _ => rfl⟩
theorem tryS_nofail {s : CSt} (h : NoFail s) (p : PSt) (i k e : Nat) : ∀ j, badAt (tryS s p i k e) j = badAt s j := by
  unfold tryS
  split
  · exact fun _ => rfl
  · split
    · exact (clS_nofail h p i).2
    · obtain ⟨h1, h2⟩ := clS_nofail h p i
      exact fun j => ((progS_nofail h1 _ _ _).2 j).trans (h2 j)

theorem take_first (k e : Nat) (hke : (1 ≤ k ∧ k ≤ 3) ∧ 1 ≤ e ∧ e < 4294967296) : ∀ (n : Nat) (s : CSt) (p : PSt) (i : Nat), s.Ok → Good s p → NoFail s → p.bl.length = s.nb → i < s.nb → s.deeds < 4611686018427387903 → p.last < 18446744073709551614 →
    ((takeGo k e n s p i).e = 11 ∧ (takeGo k e n s p i).s = s ∧ (takeGo k e n s p i).p = p) ∨
    ∃ j : Nat, j < s.nb ∧ frV s p j = true ∧ Keeps s (takeGo k e n s p i).s j ∧ (((takeGo k e n s p i).e = 0 ∧ (takeGo k e n s p i).b = j) ∨ (takeGo k e n s p i).e = 10) := by
  intro n
  induction n with
  | zero => intro s p i _ _ _ _ _ _ _; exact .inl ⟨rfl, rfl, rfl⟩
  | succ n ih =>
    intro s p i ok hg hnf hlen hi hdd hll
    by_cases hf : frV s p i = true
    · obtain ⟨hT, _, hC⟩ := try_step s p i k e ok hg.live hi hdd hlen hg.ag hg.inv ⟨⟨hke.1, hke.2.1, by omega⟩, hke.2.2, by omega⟩ hf
      rcases hC with ⟨h0, _⟩ | ⟨_, _, hb, _⟩ | ⟨h10, _⟩
      · refine .inr ⟨i, hi, hf, ?_⟩
        have e1 : takeGo k e (n + 1) s p i = ⟨i, 0, tryS s p i k e, { tryP s p i k e with next := (i + 1) % s.nb }⟩ := by simp only [takeGo]; rw [if_pos hf, if_pos h0]
        rw [e1]
        exact ⟨hT.kp, .inl ⟨rfl, rfl⟩⟩
      · rw [tryS_nofail hnf] at hb
        rw [frV_of hg.ag hi, hb] at hf
        cases hf
      · refine .inr ⟨i, hi, hf, ?_⟩
        have e1 : takeGo k e (n + 1) s p i = ⟨0, tryE s p i k e, tryS s p i k e, tryP s p i k e⟩ := by simp only [takeGo]; rw [if_pos hf, if_neg (by rw [h10]; decide), if_neg (by rw [h10]; decide)]
        rw [e1]
        exact ⟨hT.kp, .inr h10⟩
    · have e1 : takeGo k e (n + 1) s p i = takeGo k e n s p ((i + 1) % s.nb) := by simp only [takeGo]; rw [if_neg hf]
      rw [e1]
      exact ih s p _ ok hg hnf hlen (Nat.mod_lt _ (by omega)) hdd hll

/-- What a Take does where no deed fails. -/
theorem take_calm {s : CSt} {p : PSt} {k e : Nat} (ok : s.Ok) (hg : Good s p) (hnf : NoFail s) (hlen : p.bl.length = s.nb) (hnx : p.next < s.nb) (hdd : s.deeds + 2 * s.nb < 4611686018427387903) (hll : p.last + s.nb < 18446744073709551614) (he : e < 4294967296)
    (hv : (1 ≤ k ∧ k ≤ 3) ∧ 1 ≤ e) :
    ((takeR k e s p).e = 11 ∧ (takeR k e s p).s = s ∧ (takeR k e s p).p = p ∧ frN s p s.nb = 0) ∨
    ∃ j : Nat, j < s.nb ∧ frV s p j = true ∧ Keeps s (takeR k e s p).s j ∧ (((takeR k e s p).e = 0 ∧ (takeR k e s p).b = j) ∨ (takeR k e s p).e = 10) := by
  have h1 := (take_all ok hg hlen hnx hdd (by omega) he hv).2.1
  rw [takeR_live hv hg.live] at h1 ⊢
  rcases take_first k e ⟨hv.1, hv.2, he⟩ s.nb s p p.next ok hg hnf hlen hnx (by omega) (by omega) with ⟨a, b, c⟩ | h
  · refine .inl ⟨a, b, c, ?_⟩
    have := h1 a
    rw [b] at this
    rw [bkN_fr ok hg _ (Nat.le_refl _)]
    exact this
  · exact .inr h

theorem Keeps.pow {s s' : CSt} {j : Nat} (h : Keeps s s' j) : Keeps s (powS s') j := ⟨h.nb, h.np, h.nz, h.ns, fun i q hi hq hne => h.pg i q hi hq hne, fun i hne => h.bad i hne⟩

section
variable {s s' : CSt} {j : Nat} (h : Keeps s s' j) (ok : s.Ok) (ok' : s'.Ok) (hd : s.dead = false) (hd' : s'.dead = false)
include h ok ok' hd hd'
theorem Keeps.tk {i : Nat} (hi : i < s.nb) (hne : i ≠ j) : tkOf s' i = tkOf s i := by
  unfold tkOf
  rw [h.look ok ok' hd hd' hi hne, h.bad i hne]
theorem tkC_len1 : ∀ k, k ≤ s.nb → (tkC s' k).length ≤ (tkC s k).length + (if j < k then 1 else 0) := by
  intro k
  induction k with
  | zero => intro _; exact Nat.zero_le _
  | succ k ih =>
    intro hk
    have h1 := ih (by omega)
    simp only [tkC, List.length_append]
    by_cases hjk : k = j
    · subst hjk
      rw [if_neg (Nat.lt_irrefl k)] at h1
      rw [if_pos (Nat.lt_succ_self k)]
      have : (if (lookV s' k).w = 1 then [tkOf s' k] else []).length ≤ 1 := by split <;> simp
      omega
    · rw [h.look ok ok' hd hd' (by omega) hjk, h.tk ok ok' hd hd' (by omega) hjk]
      have e2 : (if j < k then 1 else 0) = (if j < k + 1 then 1 else 0) := by
        by_cases hx : j < k
        · rw [if_pos hx, if_pos (by omega)]
        · rw [if_neg hx, if_neg (by omega)]
      omega
theorem tkC_len0 (hw : (lookV s j).w = 1) : ∀ k, k ≤ s.nb → (tkC s' k).length ≤ (tkC s k).length := by
  intro k
  induction k with
  | zero => intro _; exact Nat.le_refl _
  | succ k ih =>
    intro hk
    have h1 := ih (by omega)
    simp only [tkC, List.length_append]
    by_cases hjk : k = j
    · subst hjk
      rw [if_pos hw]
      have : (if (lookV s' k).w = 1 then [tkOf s' k] else []).length ≤ 1 := by split <;> simp
      simp only [List.length_singleton]
      omega
    · rw [h.look ok ok' hd hd' (by omega) hjk, h.tk ok ok' hd hd' (by omega) hjk]
      omega
theorem tkC_new (hw : (lookV s j).w ≠ 1) (hw' : (lookV s' j).w = 1) : ∀ k, k ≤ s.nb → (tkC s' k).Perm (if j < k then tkC s k ++ [tkOf s' j] else tkC s k) := by
  intro k
  induction k with
  | zero => intro _; exact List.Perm.refl _
  | succ k ih =>
    intro hk
    have h1 := ih (by omega)
    simp only [tkC]
    by_cases hjk : k = j
    · subst hjk
      rw [if_neg (Nat.lt_irrefl k)] at h1
      rw [if_pos hw', if_pos (Nat.lt_succ_self k), if_neg hw, List.append_nil]
      exact h1.append_right _
    · rw [h.look ok ok' hd hd' (by omega) hjk, h.tk ok ok' hd hd' (by omega) hjk]
      by_cases hx : j < k
      · rw [if_pos hx] at h1
        rw [if_pos (show j < k + 1 by omega)]
        refine (h1.append_right _).trans ?_
        rw [List.append_assoc, List.append_assoc]
        exact List.Perm.append_left _ List.perm_append_comm
      · rw [if_neg hx] at h1
        rw [if_neg (show ¬ j < k + 1 by omega)]
        exact h1.append_right _
theorem Keeps.mem {t : TK} (ht : t ∈ refL s s.nb) (hne : t.b ≠ j) : t ∈ refL s' s'.nb := by
  obtain ⟨i, hi, hw, rfl⟩ := (mem_refL _).1 ht
  refine (mem_refL _).2 ⟨i, by rw [h.nb]; exact hi, by rw [h.look ok ok' hd hd' hi hne]; exact hw, (h.tk ok ok' hd hd' hi hne).symm⟩
theorem Keeps.fr {p p' : PSt} (hg : Good s p) (hg' : Good s' p') {i : Nat} (hi : i < s.nb) (hne : i ≠ j) : frV s' p' i = frV s p i := by
  rw [frV_of hg'.ag (by rw [h.nb]; exact hi), frV_of hg.ag hi, h.look ok ok' hd hd' hi hne, h.bad i hne]
theorem frN_less {p p' : PSt} (hg : Good s p) (hg' : Good s' p') (h0 : frV s p j = true) (h1 : frV s' p' j = false) : ∀ k, k ≤ s.nb → frN s' p' k + (if j < k then 1 else 0) = frN s p k := by
  intro k
  induction k with
  | zero => intro _; rfl
  | succ k ih =>
    intro hk
    have h2 := ih (by omega)
    simp only [frN]
    by_cases hjk : k = j
    · subst hjk
      rw [if_neg (Nat.lt_irrefl k)] at h2
      rw [h0, h1, if_pos (Nat.lt_succ_self k), if_pos rfl, if_neg (by simp)]
      omega
    · rw [h.fr ok ok' hd hd' hg hg' (by omega) hjk]
      have e2 : (if j < k then 1 else 0) = (if j < k + 1 then 1 else 0) := by
        by_cases hx : j < k
        · rw [if_pos hx, if_pos (by omega)]
        · rw [if_neg hx, if_neg (by omega)]
      omega
end

theorem refL_len (s : CSt) (k : Nat) : (refL s k).length = (tkC s k).length := (refL_perm s k).length_eq

theorem frV_no {s : CSt} {p : PSt} {i : Nat} (hg : Good s p) (hi : i < s.nb) (hf : frV s p i = true) : (lookV s i).w ≠ 1 ∧ badAt s i = false := by
  rw [frV_of hg.ag hi] at hf
  simp only [Bool.and_eq_true, Bool.not_eq_true', decide_eq_true_eq] at hf
  exact ⟨hf.2, hf.1⟩

/-- What is told behind a Take that took: one more, at the end. -/
theorem refL_more {s s' : CSt} {p p' : PSt} {j k e : Nat} (h : Keeps s s' j) (ok : s.Ok) (ok' : s'.Ok) (hg : Good s p) (hg' : Good s' p') (hj : j < s.nb) (hw : (lookV s j).w ≠ 1) (hl : lookV s' j = ⟨1, k, e, p'.last⟩) (hlt : p.last < p'.last) :
    refL s' s'.nb = refL s s.nb ++ [tkOf s' j] := by
  have e0 : (tkOf s' j).s = p'.last := by show (lookV s' j).s = _; rw [hl]
  have hp := tkC_new h ok ok' hg.live hg'.live hw (by rw [hl]) s.nb (Nat.le_refl _)
  rw [if_pos hj] at hp
  have hnb := h.nb
  refine tk_sorted ok' hg'.live hg'.inv (refL_perm _ _) ?_ (refL_pw _ _) ?_
  · rw [hnb]
    exact ((refL_perm s s.nb).append_right _).trans hp.symm
  · rw [List.pairwise_append]
    refine ⟨refL_pw _ _, List.pairwise_singleton _ _, fun a ha b hb => ?_⟩
    rw [List.mem_singleton.1 hb]
    show a.s ≤ (tkOf s' j).s
    have := refL_last ok hg a ha
    omega

theorem tkC_up (s : CSt) : ∀ k, (tkC s k).Pairwise (fun a b => a.b < b.b) ∧ ∀ t ∈ tkC s k, t.b < k := by
  intro k
  induction k with
  | zero => exact ⟨List.Pairwise.nil, by simp [tkC]⟩
  | succ k ih =>
    simp only [tkC]
    split
    · refine ⟨List.pairwise_append.2 ⟨ih.1, List.pairwise_singleton _ _, fun a ha b hb => ?_⟩, fun t ht => ?_⟩
      · rw [List.mem_singleton.1 hb]
        exact ih.2 a ha
      · rcases List.mem_append.1 ht with h | h
        · have := ih.2 t h; omega
        · rw [List.mem_singleton.1 h]; exact Nat.lt_succ_self k
    · rw [List.append_nil]
      exact ⟨ih.1, fun t ht => by have := ih.2 t ht; omega⟩

/-- No two that are told have one Seq. -/
theorem refL_lt {s : CSt} {L : Nat} (ok : s.Ok) (hd : s.dead = false) (h : InvC s L) : (refL s s.nb).Pairwise (fun a b => a.s < b.s) := by
  have hn : (refL s s.nb).Nodup := (refL_perm s s.nb).nodup_iff.2 ((tkC_up s s.nb).1.imp fun {a b} hab e => by rw [e] at hab; omega)
  have hm : ∀ t, t ∈ refL s s.nb → t ∈ tkC s s.nb := fun t ht => (refL_perm s s.nb).mem_iff.1 ht
  refine (List.Pairwise.and_mem.1 ((refL_pw s s.nb).and hn)).imp fun {a b} hab => ?_
  obtain ⟨ha, hb, hle, hne⟩ := hab
  have hle : a.s ≤ b.s := hle
  rcases Nat.lt_or_ge a.s b.s with h1 | h1
  · exact h1
  · exact absurd (tk_one ok hd h (hm a ha) (hm b hb) (by omega)) hne
theorem seqAt_lt {s : CSt} {L : Nat} (ok : s.Ok) (hd : s.dead = false) (h : InvC s L) {i : Nat} (hi : i + 1 < (refL s s.nb).length) : seqAt (refL s s.nb) i < seqAt (refL s s.nb) (i + 1) := by
  have := List.pairwise_iff_getElem.1 (refL_lt ok hd h) i (i + 1) (by omega) hi (by omega)
  rw [seqAt_get (List.getElem?_eq_getElem (by omega)), seqAt_get (List.getElem?_eq_getElem hi)]
  exact this

end

end Go.Proofs.YtgfdiboaiifdnaaGreat
