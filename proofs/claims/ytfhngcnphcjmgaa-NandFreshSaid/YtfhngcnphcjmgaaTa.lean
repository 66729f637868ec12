/-
  Acts of the law: what they make of a chip's state (over lists); acts in memory; programs of bytes that lie anywhere.
-/
import Derived.Test.YtfhngcnphcjmgaaRn
namespace Go.Proofs.Ytfhngcnphcjmgaa
open Go.ChangeShapes Go.WideShapes Go.ChangeAt Go.RowKit

/-- An act. -/
structure ActV where
  do_ : Int
  block : Int
  page : Int
  fill : Nat
  bytes : List Nat
  hits : List HitI

def actBy (f : Nat) (l : List Nat) (m : Nat) : List Nat := if f = 1 then l else actL f l m
def actB (a : ActV) (m : Nat) : List Nat := actBy a.fill a.bytes m
def actS (s : CSt) (a : ActV) : CSt :=
  if a.do_ = 1 then progS s a.block a.page (actB a s.nz) else if a.do_ = 2 then erasS s a.block else if a.do_ = 4 then hitsS s a.hits else if a.do_ = 5 then powS s else s
def playS (s : CSt) (l : List ActV) : CSt := l.foldl actS s

theorem deedS_deeds (s : CSt) (b off : Nat) (g : List Nat) : (deedS s b off g).deeds = s.deeds + 1 := by
  unfold deedS
  split
  · rfl
  · split <;> rfl
theorem deedS_geo (s : CSt) (b off : Nat) (g : List Nat) : (deedS s b off g).nb = s.nb ∧ (deedS s b off g).np = s.np ∧ (deedS s b off g).nz = s.nz ∧ (deedS s b off g).ns = s.ns := by
  unfold deedS
  split
  · exact ⟨rfl, rfl, rfl, rfl⟩
  · split <;> exact ⟨rfl, rfl, rfl, rfl⟩
theorem progS_geo (s : CSt) (b p : Int) (g : List Nat) : (progS s b p g).nb = s.nb ∧ (progS s b p g).np = s.np ∧ (progS s b p g).nz = s.nz ∧ (progS s b p g).ns = s.ns := by
  unfold progS
  split
  · exact deedS_geo _ _ _ _
  · exact ⟨rfl, rfl, rfl, rfl⟩
theorem erasS_geo (s : CSt) (b : Int) : (erasS s b).nb = s.nb ∧ (erasS s b).np = s.np ∧ (erasS s b).nz = s.nz ∧ (erasS s b).ns = s.ns := by
  unfold erasS
  split
  · exact deedS_geo _ _ _ _
  · exact ⟨rfl, rfl, rfl, rfl⟩
theorem hitsS_geo (s : CSt) (l : List HitI) : (hitsS s l).nb = s.nb ∧ (hitsS s l).np = s.np ∧ (hitsS s l).nz = s.nz ∧ (hitsS s l).ns = s.ns := by
  unfold hitsS
  split <;> exact ⟨rfl, rfl, rfl, rfl⟩
theorem progS_deeds (s : CSt) (b p : Int) (g : List Nat) : (progS s b p g).deeds ≤ s.deeds + 1 := by
  unfold progS
  split
  · rw [deedS_deeds]; exact Nat.le_refl _
  · exact Nat.le_succ _
theorem erasS_deeds (s : CSt) (b : Int) : (erasS s b).deeds ≤ s.deeds + 1 := by
  unfold erasS
  split
  · rw [deedS_deeds]; exact Nat.le_refl _
  · exact Nat.le_succ _
theorem hitsS_deeds (s : CSt) (l : List HitI) : (hitsS s l).deeds = s.deeds := by
  unfold hitsS
  split <;> rfl
theorem actS_deeds (s : CSt) (a : ActV) : (actS s a).deeds ≤ s.deeds + 1 := by
  unfold actS
  split
  · exact progS_deeds _ _ _ _
  · split
    · exact erasS_deeds _ _
    · split
      · rw [hitsS_deeds]; exact Nat.le_succ _
      · split
        · exact Nat.zero_le _
        · exact Nat.le_succ _
theorem actS_geo (s : CSt) (a : ActV) : (actS s a).nb = s.nb ∧ (actS s a).np = s.np ∧ (actS s a).nz = s.nz ∧ (actS s a).ns = s.ns := by
  unfold actS
  split
  · exact progS_geo _ _ _ _
  · split
    · exact erasS_geo _ _
    · split
      · exact hitsS_geo _ _
      · split <;> exact ⟨rfl, rfl, rfl, rfl⟩
theorem playS_step (s : CSt) (l : List ActV) (k : Nat) (a : ActV) (h : l[k]? = some a) : actS (playS s (l.take k)) a = playS s (l.take (k + 1)) := by
  unfold playS
  rw [List.take_add_one, h]
  simp
theorem playS_deeds (l : List ActV) : ∀ (s : CSt), (playS s l).deeds ≤ s.deeds + l.length := by
  induction l with
  | nil => intro s; exact Nat.le_refl _
  | cons a l ih =>
    intro s
    have h1 := ih (actS s a)
    have h2 := actS_deeds s a
    show (playS (actS s a) l).deeds ≤ _
    simp only [List.length_cons]
    omega
theorem playS_geo (l : List ActV) : ∀ (s : CSt), (playS s l).nb = s.nb ∧ (playS s l).np = s.np ∧ (playS s l).nz = s.nz ∧ (playS s l).ns = s.ns := by
  induction l with
  | nil => intro s; exact ⟨rfl, rfl, rfl, rfl⟩
  | cons a l ih =>
    intro s
    obtain ⟨h1, h2, h3, h4⟩ := ih (actS s a)
    obtain ⟨g1, g2, g3, g4⟩ := actS_geo s a
    exact ⟨h1.trans g1, h2.trans g2, h3.trans g3, h4.trans g4⟩

theorem HitCell.new {w w' : World} {vs : List Value} {i : Nat} {h : HitI} (hc : HitCell w vs i h) (hk : New w w') : HitCell w' vs i h := by
  obtain ⟨c1, c2, A, c, c3, c4, c5⟩ := hc
  exact ⟨c1, c2, A, c, c3, c4.new hk, c5⟩
theorem HitsA.new_ {w w' : World} {A : Option Addr} {n : Nat} {hs : List HitI} (h : HitsA w A n hs) (hk : New w w') : HitsA w' A n hs := by
  obtain ⟨h1, h2, vs, h3, h4, h5⟩ := h
  exact ⟨h1, h2, vs, h3.new hk, h4, fun i x hx => (h5 i x hx).new hk⟩

/-- An act as it is handed in: where its bytes and its hits lie. -/
structure ActM (w : World) (a : ActV) (A : Option Addr) (n c : Nat) (B : Option Addr) (m d : Nat) : Prop where
  bts : Bts w A n a.bytes
  alen : n ≤ 140737488351232
  fill : a.fill < 256
  hits : HitsA w B m a.hits
  bnil : B = none → d = 0 ∧ m = 0
  blen : m * 40 ≤ 140737488351232
theorem ActM.new {w w' : World} {a : ActV} {A : Option Addr} {n c : Nat} {B : Option Addr} {m d : Nat} (h : ActM w a A n c B m d) (hk : New w w') : ActM w' a A n c B m d :=
  { h with bts := h.bts.new hk, hits := h.hits.new_ hk }
theorem Bts.old {w : World} {A : Option Addr} {n : Nat} {l : List Nat} (h : Bts w A n l) (h0 : 0 < n) : ∀ a, A = some a → a.block < w.heap.size := by
  rintro a rfl
  obtain ⟨g, o, x, e, _, _, hc⟩ := h.at_ h0
  injection e with e
  subst e
  exact World.block_lt_of_cell? w _ hc
theorem RowV.old {w : World} {A : Option Addr} {n sz : Nat} {vs : List Value} (h : RowV w A n sz vs) (h0 : 0 < n) (h1 : 0 < sz) : ∀ a, A = some a → a.block < w.heap.size := by
  rintro a rfl
  obtain ⟨g, o, e, hc⟩ := h.2 h0
  injection e with e
  subst e
  have hl : 0 < vs.length := by rw [h.1]; exact Nat.mul_pos h0 h1
  exact World.block_lt_of_cell? w _ (hc 0 vs[0] (List.getElem?_eq_getElem hl))

set_option maxRecDepth 100000 in
set_option maxHeartbeats 800000 in
theorem nProg_short (Q : Nat → Prop) (g : Nat) (s : CSt) (b p : Int) (n : Nat) (G : Option Addr) (c2 : Nat) (gl : List Nat) (w : World) (h : NChip Q w g s) (hlen : gl.length = n) (hn : n ≠ s.nz) :
    Calls Try.prog 16 #[.pointer (some ⟨g, 0, none⟩), .int .i64 b, .int .i64 p, .slice G n c2] w (DeedP Q w g (progS s b p gl) (progE s b p gl)) := by
  have hstay := fun (w' : World) (hk : New w w') (er : Int) => DeedP.stay h hk er
  obtain ⟨gc, gb, bl, bb, cc, cb, Ah, ch, h⟩ := h
  have H := Lib.hid h
  have HS := Lib.hid hstay
  by_cases hr : refE s b p = 0
  · obtain ⟨hdd, ht⟩ := refE_ok hr
    obtain ⟨b', rfl, hb⟩ := nat_of ht.1
    obtain ⟨p', rfl, hp⟩ := nat_of ht.2
    have HR := Lib.hid hr
    have d2 := h.c2
    have hlt := h.chip.lt
    have e0 : progR s b' p' gl.length = 2 := by unfold progR; rw [hr, hlen]; simp [hn]
    have e1 : progE s b' p' gl = 2 := by unfold progE; rw [e0]; rfl
    have e2 : progS s b' p' gl = s := by unfold progS; rw [e0]; rfl
    rw [e1, e2]
    have hn1 : ((n : Int) == (s.nz : Int)) = false := beq_eq_false_iff_ne.2 (by omega)
    have hn2 : (n == s.nz) = false := beq_eq_false_iff_ne.2 hn
    clear h hr hdd ht hb hp hlen e0 e1 e2 hstay
    go_enter Try.func16, Try.ntmps16
    go_wp2_with fail
    refine (refuses_any _ _ _ _ _ _ _ _ _ _ _ _ _ _ H.out).mono ?_
    rintro e w' ⟨rfl, rfl⟩
    rw [HR.out]
    go_wp2
    go_ret
    exact HS.out _ (Kept.refl _ _) 2
  · have e0 : progR s b p gl.length = refE s b p := by unfold progR; rw [if_pos hr]
    have e1 : progE s b p gl = refE s b p := by unfold progE; rw [e0, if_neg hr]
    have e2 : progS s b p gl = s := by unfold progS; rw [e0, if_neg hr]
    rw [e1, e2]
    have hq : (refE s b p == 0) = false := beq_eq_false_iff_ne.2 hr
    clear h e0 e1 e2 hr hlen hn hstay
    generalize hx : refE s b p = x at *
    have HX := Lib.hid hx
    clear hx
    go_enter Try.func16, Try.ntmps16
    go_wp2_with fail
    refine (refuses_any _ _ _ _ _ _ _ _ _ _ _ _ _ _ H.out).mono ?_
    rintro e w' ⟨rfl, rfl⟩
    rw [HX.out]
    go_wp2
    go_ret
    exact HS.out _ (Kept.refl _ _) x

set_option maxRecDepth 100000 in
set_option maxHeartbeats 800000 in
theorem rProg_short (Q : Nat → Prop) (g : Nat) (s : CSt) (b p : Int) (n : Nat) (G : Option Addr) (c2 : Nat) (gl : List Nat) (w : World) (h : RChip Q w g s) (hlen : gl.length = n) (hn : n ≠ s.nz) :
    Calls Try.prog 28 #[.pointer (some ⟨g, 0, none⟩), .int .i64 b, .int .i64 p, .slice G n c2] w (RDeedP Q w g (progS s b p gl) (progE s b p gl)) := by
  have hstay := fun (w' : World) (hk : New w w') (er : Int) => RDeedP.stay h hk er
  obtain ⟨gc, gb, cc, cb, Ah, ch, h⟩ := h
  have H := Lib.hid h
  have HS := Lib.hid hstay
  have c8 := h.c8
  by_cases hdd : s.dead = true
  · have e : refE s b p = 10 := by unfold refE; rw [if_pos hdd]
    have e0 : progR s b p gl.length = 10 := by unfold progR; rw [e, if_pos (by decide)]
    have e1 : progE s b p gl = 10 := by unfold progE; rw [e0, if_neg (by decide)]
    have e2 : progS s b p gl = s := by unfold progS; rw [e0, if_neg (by decide)]
    rw [e1, e2]
    rw [hdd] at c8
    clear h hstay hlen hdd e e0 e1 e2 hn
    go_enter Try.func28, Try.ntmps28
    go_wp2
    go_ret
    exact HS.out _ (Kept.refl _ _) 10
  · have hdd' : s.dead = false := by simpa using hdd
    rw [hdd'] at c8
    by_cases ht : there s b p
    · have hr : refE s b p = 0 := by unfold refE; rw [if_neg hdd, if_pos ht]
      have HT := Lib.hid (decide_eq_true ht)
      have ht' := ht
      obtain ⟨b', rfl, hb⟩ := nat_of ht.1
      obtain ⟨p', rfl, hp⟩ := nat_of ht.2
      have d2 := h.c2
      have hlt := h.chip.lt
      have e0 : progR s b' p' gl.length = 2 := by unfold progR; rw [hr, hlen]; simp [hn]
      have e1 : progE s b' p' gl = 2 := by unfold progE; rw [e0]; rfl
      have e2 : progS s b' p' gl = s := by unfold progS; rw [e0]; rfl
      rw [e1, e2]
      have hn1 : ((n : Int) == (s.nz : Int)) = false := beq_eq_false_iff_ne.2 (by omega)
      have hn2 : (n == s.nz) = false := beq_eq_false_iff_ne.2 hn
      clear h hr hdd hdd' ht ht' hb hp hlen e0 e1 e2 hstay
      go_enter Try.func28, Try.ntmps28
      go_wp2_with fail
      refine (rThere_any _ _ _ _ _ _ _ _ _ _ _ _ H.out).mono ?_
      rintro e w' ⟨rfl, rfl⟩
      rw [HT.out]
      go_wp2
      go_ret
      exact HS.out _ (Kept.refl _ _) 2
    · have e : refE s b p = 2 := by unfold refE; rw [if_neg hdd, if_neg ht]
      have e0 : progR s b p gl.length = 2 := by unfold progR; rw [e, if_pos (by decide)]
      have e1 : progE s b p gl = 2 := by unfold progE; rw [e0, if_neg (by decide)]
      have e2 : progS s b p gl = s := by unfold progS; rw [e0, if_neg (by decide)]
      rw [e1, e2]
      have HT := Lib.hid (decide_eq_false ht)
      clear h hstay hlen hdd hdd' ht e e0 e1 e2 hn
      go_enter Try.func28, Try.ntmps28
      go_wp2_with fail
      refine (rThere_any _ _ _ _ _ _ _ _ _ _ _ _ H.out).mono ?_
      rintro e w' ⟨rfl, rfl⟩
      rw [HT.out]
      go_wp2
      go_ret
      exact HS.out _ (Kept.refl _ _) 2

/-- Program, where the bytes lie outside the chip if there are any. -/
theorem nProg_w (Q : Nat → Prop) (g : Nat) (s : CSt) (b p : Int) (n : Nat) (G : Option Addr) (c2 : Nat) (gl : List Nat) (w : World) (h : NChip Q w g s) (hd : s.deeds < 4611686018427387904)
    (hg : Bts w G n gl) (hg1 : 0 < n → ∀ a, G = some a → ¬ Q a.block) :
    Calls Try.prog 16 #[.pointer (some ⟨g, 0, none⟩), .int .i64 b, .int .i64 p, .slice G n c2] w (DeedP Q w g (progS s b p gl) (progE s b p gl)) := by
  rcases Nat.eq_zero_or_pos n with h0 | h0
  · exact nProg_short Q g s b p n G c2 gl w h hg.1 (by have := h.ok.nz1; omega)
  · exact nProg_any Q g s b p n G c2 gl w h hd hg (hg1 h0)
theorem rProg_w (Q : Nat → Prop) (g : Nat) (s : CSt) (b p : Int) (n : Nat) (G : Option Addr) (c2 : Nat) (gl : List Nat) (w : World) (h : RChip Q w g s) (hd : s.deeds < 4611686018427387904)
    (hg : Bts w G n gl) (hg1 : 0 < n → ∀ a, G = some a → ¬ Q a.block) :
    Calls Try.prog 28 #[.pointer (some ⟨g, 0, none⟩), .int .i64 b, .int .i64 p, .slice G n c2] w (RDeedP Q w g (progS s b p gl) (progE s b p gl)) := by
  rcases Nat.eq_zero_or_pos n with h0 | h0
  · exact rProg_short Q g s b p n G c2 gl w h hg.1 (by have := h.ok.nz1; omega)
  · exact rProg_any Q g s b p n G c2 gl w h hd hg (hg1 h0)

/-- The bytes that an act writes, wherever they lie: old ones, or new ones. -/
def ActBP (w : World) (l : List Nat) (old : Nat) (e : Ending) (w' : World) : Prop :=
  ∃ A n c, e = .returned (.slice A n c) ∧ Bts w' A n l ∧ (0 < n → ∀ a, A = some a → a.block < old ∨ w.heap.size ≤ a.block) ∧ New w w'
theorem aBytes_any (d b p : Int) (f : Nat) (l : List Nat) (A : Option Addr) (n c : Nat) (hv : Value) (N : Nat) (w0 w : World) (hN : N ≤ 8192) (hb : Bts w0 A n l) (hn : n ≤ 140737488351232) (hf : f < 256) (hk : New w0 w) :
    Calls Try.prog 17 #[.agg #[.int .i64 d, .int .i64 b, .int .i64 p, .int .u8 (f : Int), .slice A n c, hv], .int .i64 (N : Int)] w (ActBP w (actBy f l N) w0.heap.size) := by
  by_cases h1 : f = 1
  · subst h1
    refine aBytes_one _ _ _ _ _ _ _ _ _ _ fun w' hw' => ?_
    exact ⟨A, n, c, rfl, (hb.new hk).new hw', fun h0 x hx => .inl (hb.old h0 x hx), hw'⟩
  · refine (aBytes_fill _ _ _ f A n c l _ N w hf h1 (hb.new hk) hn hN).mono ?_
    rintro e w' ⟨A', c', rfl, h2, h3⟩
    refine ⟨A', _, c', rfl, ?_, fun _ x hx => .inr (h2.at_ x hx).2, h3⟩
    unfold actBy
    rw [if_neg h1]
    exact h2.bts
end Go.Proofs.Ytfhngcnphcjmgaa
