/-
  The chip that layer 3's statements ask for by example.
-/
import Derived.Test.YtgfdiboaiifdnaaGreatNp
namespace Go.Proofs.YtgfdiboaiifdnaaGreat
open Go.ChangeShapes Go.WideShapes Go.ChangeAt Go.RowKit

def exZ : List Nat := List.replicate 128 0
def ex0 : CSt := newS 8 4 128 0
def ex1 : CSt := progS ex0 0 1 exZ
def ex2 : CSt := progS ex1 0 2 exZ
def ex3 : CSt := erasS ex2 0
def ex4 : CSt := hitsS ex3 [⟨0, false, [1]⟩]
def ex5 : CSt := progS ex4 0 0 exZ
def ex6 : CSt := powS ex5
theorem ex_f : progE ex0 0 1 exZ = 0 := by decide +kernel
theorem ex_g : progE ex1 0 0 exZ = 8 ∧ progR ex1 0 0 128 = 8 := by decide +kernel
theorem ex_h : progE ex1 0 2 exZ = 0 := by decide +kernel
theorem ex_i : erasE ex2 0 = 0 := by decide +kernel
theorem ex_j : hitsE [⟨0, false, [1]⟩] = 0 := by decide +kernel
theorem ex_k : progE ex4 0 0 exZ = 10 := by decide +kernel
theorem ex_m : readE ex6 0 0 = 0 ∧ (readL ex6 0 0).length = 128 ∧ (readL ex6 0 0)[0]? = some 254 ∧ (readL ex6 0 0)[127]? = some 254 := by decide +kernel
theorem ex_s : progS ex1 0 0 exZ = ex1 := by
  unfold progS
  rw [if_neg (by rw [show exZ.length = 128 from rfl, ex_g.2]; decide)]
theorem ex_d : ex0.deeds < 5 ∧ ex1.deeds < 5 ∧ ex2.deeds < 5 ∧ ex3.deeds < 5 ∧ ex4.deeds < 5 := by decide +kernel

/-- Bytes in a new block. -/
def NewB (w : World) (n c : Nat) (l : List Nat) (e : Ending) (w' : World) : Prop := ∃ g, e = .returned (.slice (some ⟨g, 0, none⟩) n c) ∧ Bts w' (some ⟨g, 0, none⟩) n l ∧ w.heap.size ≤ g ∧ New w w'

theorem Kept.newQ {Q : Nat → Prop} {w0 w w' : World} (k : New w0 w) (hk : Kept Q w w') (hq : ∀ b, Q b → w0.heap.size ≤ b) : New w0 w' :=
  k.trans hk fun i hi h => by have := hq i h; omega

theorem NChip.away {Q : Nat → Prop} {w : World} {g gn : Nat} {s : CSt} (h : NChip Q w g s) (hg : w.heap.size ≤ gn) : ∀ a, (some ⟨gn, 0, none⟩ : Option Addr) = some a → ¬ Q a.block := fun a ha hq => by
  injection ha with ha
  subst ha
  have := h.low _ hq
  simp at this
  omega

theorem Bts.of_blkN {w : World} {g n off : Nat} {l : List Nat} {junk : List Value} (h : Blk w g 5 (l.map byt ++ junk)) (hb : IsBytes l) (hn : l.length = n) : Bts w (some ⟨g, off, none⟩) (n - off) (l.drop off) := by
  refine ⟨by simp [hn], fun x hx => hb x (List.mem_of_mem_drop hx), fun _ => ⟨g, off, rfl, fun j x hx => ?_⟩⟩
  rw [List.getElem?_drop] at hx
  have hj : off + j < l.length := (List.getElem?_eq_some_iff.1 hx).1
  rw [h.cell, List.getElem?_append_left (by simpa using hj), List.getElem?_map, hx]
  rfl

theorem same_kN {w0 wc : World} (A B : Option Addr) (n m c d : Nat) (l k : List Nat) (K : Hid (New w0 wc)) (ha : Hid (Bts wc A n l)) (hb : Hid (Bts wc B m k)) (hn : n ≤ 140737488351232) (b : Bool) (h : decide (l = k) = b) :
    Calls Tryz.prog 9 #[.slice A n c, .slice B m d] wc fun e w' => e = .returned (.bool b) ∧ Hid (New wc w') ∧ Hid (New w0 w') := by
  subst h
  refine (same_any A B n m c d l k wc ha.out hb.out (by unfold maxLen; omega)).mono ?_
  rintro e w' ⟨q, rfl, rfl⟩
  exact ⟨rfl, (Kept.refl _ _).drewN q, K.out.drewN q⟩

/-- Program, in the form that the walks of statements use. -/
theorem nProg_k {w0 wc : World} {Q : Nat → Prop} {g : Nat} {s : CSt} {b p : Int} {n : Nat} {G : Option Addr} {c2 : Nat} (gl : List Nat) (K : Hid (New w0 wc)) (C : Hid (NChip Q wc g s)) (HQ : Hid (∀ b, Q b → w0.heap.size ≤ b))
    (hg : Hid (Bts wc G n gl)) (hg1 : Hid (∀ a, G = some a → ¬ Q a.block)) (hd : s.deeds < 4611686018427387904) (er : Int) (s' : CSt) (he : progE s b p gl = er) (hs : progS s b p gl = s') :
    Calls Tryz.prog 13 #[.pointer (some ⟨g, 0, none⟩), .int .i64 b, .int .i64 p, .slice G n c2] wc fun e w' => e = .returned (.int .i64 er) ∧ Hid (NChip Q w' g s') ∧ Hid (Kept Q wc w') ∧ Hid (New w0 w') := by
  subst he hs
  refine (nProg_any Q g s b p n G c2 gl wc C.out hd hg.out hg1.out).mono ?_
  rintro e w' ⟨rfl, h1, h2⟩
  exact ⟨rfl, h1, h2, K.out.newQ h2 HQ.out⟩

theorem nErase_k {w0 wc : World} {Q : Nat → Prop} {g : Nat} {s : CSt} {b : Int} (K : Hid (New w0 wc)) (C : Hid (NChip Q wc g s)) (HQ : Hid (∀ b, Q b → w0.heap.size ≤ b))
    (hd : s.deeds < 4611686018427387904) (er : Int) (s' : CSt) (he : erasE s b = er) (hs : erasS s b = s') :
    Calls Tryz.prog 71 #[.pointer (some ⟨g, 0, none⟩), .int .i64 b] wc fun e w' => e = .returned (.int .i64 er) ∧ Hid (NChip Q w' g s') ∧ Hid (Kept Q wc w') ∧ Hid (New w0 w') := by
  subst he hs
  refine (nErase_any Q g s b wc C.out hd).mono ?_
  rintro e w' ⟨rfl, h1, h2⟩
  exact ⟨rfl, h1, h2, K.out.newQ h2 HQ.out⟩

theorem nHits_k {w0 wc : World} {Q : Nat → Prop} {g : Nat} {s : CSt} {A : Option Addr} {n c : Nat} (hs : List HitI) (K : Hid (New w0 wc)) (C : Hid (NChip Q wc g s)) (HQ : Hid (∀ b, Q b → w0.heap.size ≤ b))
    (ha : Hid (HitsA wc A n hs)) (hA : A = none → c = 0 ∧ n = 0) (hb : n * 40 ≤ 140737488351232) (er : Int) (s' : CSt) (he : hitsE hs = er) (hs' : hitsS s hs = s') :
    Calls Tryz.prog 12 #[.pointer (some ⟨g, 0, none⟩), .slice A n c] wc fun e w' => e = .returned (.int .i64 er) ∧ (∃ Q', Hid (NChip Q' w' g s') ∧ Hid (∀ b, Q' b → Q b ∨ wc.heap.size ≤ b) ∧ Hid (∀ b, Q' b → w0.heap.size ≤ b)) ∧ Hid (Kept Q wc w') ∧ Hid (New w0 w') := by
  subst he hs'
  refine (nHits_any Q g s A n c hs wc C.out ha.out hA hb).mono ?_
  rintro e w' ⟨rfl, h1, h2⟩
  exact ⟨rfl, ⟨_, h1, fun b hb => by rcases hb with hb | hb; exact .inl hb; exact .inr hb.1, fun b hb => by rcases hb with hb | hb; exact HQ.out b hb; exact Nat.le_trans K.out.size hb.1⟩, h2, K.out.newQ h2 HQ.out⟩

theorem nPower_k {w0 wc : World} {Q : Nat → Prop} {g : Nat} {s : CSt} (K : Hid (New w0 wc)) (C : Hid (NChip Q wc g s)) (s' : CSt) (hs : powS s = s') :
    Calls Tryz.prog 15 #[.pointer (some ⟨g, 0, none⟩)] wc fun e w' => ∃ g' Q', e = .returned (.tuple #[.pointer (some ⟨g', 0, none⟩), .int .i64 0]) ∧ Hid (NChip Q' w' g' s') ∧ Hid (∀ b, Q' b → wc.heap.size ≤ b) ∧ Hid (∀ b, Q' b → w0.heap.size ≤ b) ∧ Hid (New wc w') ∧ Hid (New w0 w') := by
  subst hs
  refine (nPower_any Q g s wc C.out).mono ?_
  rintro e w' ⟨g', Q', rfl, h1, h2, h3⟩
  exact ⟨g', Q', rfl, h1, h2, fun b hb => Nat.le_trans K.out.size (h2 b hb), h3, K.out.new h3⟩

theorem nRead_k {w0 wc : World} {Q : Nat → Prop} {g : Nat} {s : CSt} {b p : Int} (K : Hid (New w0 wc)) (C : Hid (NChip Q wc g s)) (er : Int) (l : List Nat) (n : Nat) (he : readE s b p = er) (hl : readL s b p = l) (hn : l.length = n) :
    Calls Tryz.prog 24 #[.pointer (some ⟨g, 0, none⟩), .int .i64 b, .int .i64 p] wc fun e w' => ∃ A c, e = .returned (.tuple #[.slice A n c, .int .i64 er]) ∧ Hid (OwnB w' 5 wc.heap.size A c l) ∧ Hid (New wc w') ∧ Hid (New w0 w') := by
  subst he hl hn
  refine (nRead_any Q g s b p wc C.out).mono ?_
  rintro e w' ⟨A, c, rfl, h1, h2⟩
  exact ⟨A, c, rfl, h1, h2, K.out.new h2⟩

theorem away_k {Q : Nat → Prop} {w : World} {g gn : Nat} {s : CSt} (h : Hid (NChip Q w g s)) (hg : Hid (w.heap.size ≤ gn)) : Hid (∀ a, (some ⟨gn, 0, none⟩ : Option Addr) = some a → ¬ Q a.block) := h.out.away hg.out
theorem NChip.new_k {Q : Nat → Prop} {w w' : World} {g : Nat} {s : CSt} (h : Hid (NChip Q w g s)) (hk : Hid (New w w')) : Hid (NChip Q w' g s) := h.out.new hk.out

/-- One hit, in new memory. -/
theorem hits_one (w : World) (gm : Nat) (fails : Bool) (Am : Option Addr) (m cm : Nat) (ml : List Nat) (a : Int) (hb : Bts w Am m ml) (hA : Am = none → cm = 0 ∧ m = 0) (hm : m ≤ cm) (hc : cm ≤ 140737488351232) (ha : -9223372036854775808 ≤ a ∧ a ≤ 9223372036854775807) (hg : gm = w.heap.size) :
    HitsA (w.alloc (.cells #[.int .i64 a, .bool fails, .slice Am m cm] 92)) (some ⟨gm, 0, none⟩) 1 [⟨a, fails, ml⟩] := by
  subst hg
  have hl := hb.1
  refine ⟨rfl, ?_, [.int .i64 a, .bool fails, .slice Am m cm], ⟨rfl, fun _ => ⟨w.heap.size, 0, rfl, fun j v hv => ?_⟩⟩, ?_, ?_⟩
  · intro h hh
    simp only [List.mem_singleton] at hh
    subst hh
    exact ⟨ha.2, ha.1, hb.2.1, by show ml.length ≤ _; omega⟩
  · rw [(Blk.made w 92 #[.int .i64 a, .bool fails, .slice Am m cm]).cell, Nat.zero_add]
    exact hv
  · intro u hu
    simp only [List.mem_cons, List.not_mem_nil, or_false] at hu
    rcases hu with rfl | rfl | rfl <;> rfl
  · intro i h hh
    match i, hh with
    | 0, hh =>
      simp only [List.getElem?_cons_zero, Option.some.injEq] at hh
      subst hh
      refine ⟨rfl, rfl, Am, cm, by rw [hl]; rfl, ?_, ?_, ?_, ?_⟩
      · rw [hl]; exact hb.new ((Kept.refl _ _).alloc _)
      · rw [hl]; exact hA
      · show ml.length ≤ cm; omega
      · unfold maxLen; omega
end Go.Proofs.YtgfdiboaiifdnaaGreat
