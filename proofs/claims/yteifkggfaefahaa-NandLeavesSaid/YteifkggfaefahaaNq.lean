/-
  The chip that layer 3's statements ask for by example.
-/
import Derived.Test.YteifkggfaefahaaNp
namespace Go.Proofs.Yteifkggfaefahaa
open Go.ChangeShapes Go.WideShapes Go.ChangeAt Go.RowKit

def exZ : List Nat := List.replicate 128 0
def ex0 : CSt := newS 8 4 128 0
def ex1 : CSt := progS ex0 0 1 exZ
def ex2 : CSt := progS ex1 0 2 exZ
def ex3 : CSt := erasS ex2 0
def ex4 : CSt := hitsS ex3 [⟨0, false, [1]⟩]
def ex5 : CSt := progS ex4 0 0 exZ
def ex6 : CSt := powS ex5
theorem ex_f : progE ex0 0 1 exZ = 0 := by decide +kernel
theorem ex_g : progE ex1 0 0 exZ = 8 ∧ progR ex1 0 0 128 = 8 := by decide +kernel
theorem ex_h : progE ex1 0 2 exZ = 0 := by decide +kernel
theorem ex_i : erasE ex2 0 = 0 := by decide +kernel
theorem ex_j : hitsE [⟨0, false, [1]⟩] = 0 := by decide +kernel
theorem ex_k : progE ex4 0 0 exZ = 10 := by decide +kernel
theorem ex_m : readE ex6 0 0 = 0 ∧ (readL ex6 0 0).length = 128 ∧ (readL ex6 0 0)[0]? = some 254 ∧ (readL ex6 0 0)[127]? = some 254 := by decide +kernel
theorem ex_s : progS ex1 0 0 exZ = ex1 := by
  unfold progS
  rw [if_neg (by rw [show exZ.length = 128 from rfl, ex_g.2]; decide)]
theorem ex_d : ex0.deeds < 5 ∧ ex1.deeds < 5 ∧ ex2.deeds < 5 ∧ ex3.deeds < 5 ∧ ex4.deeds < 5 := by decide +kernel

theorem small_any (w : World) : Calls Try.prog 12 #[] w fun e w' => e = .returned (.agg #[.int .i64 8, .int .i64 4, .int .i64 128, .int .i64 0]) ∧ New w w' := by
  go_enter Try.func12, Try.ntmps12
  go_wp2
  exact bodyPost_ret (v := .agg #[.int .i64 8, .int .i64 4, .int .i64 128, .int .i64 0]) (by simp [results, Try.results12, go_sem]) rfl ⟨rfl, (Kept.refl _ _).alloc _⟩

/-- Bytes in a new block. -/
def NewB (w : World) (n c : Nat) (l : List Nat) (e : Ending) (w' : World) : Prop := ∃ g, e = .returned (.slice (some ⟨g, 0, none⟩) n c) ∧ Bts w' (some ⟨g, 0, none⟩) n l ∧ w.heap.size ≤ g ∧ New w w'

theorem noughts_page (w : World) : Calls Try.prog 37 #[] w (NewB w 128 128 exZ) := by
  obtain ⟨i0, hi, hz0, hz1, hz2⟩ := info_parts info_u8
  have hmk := fun u => run_make_bytes (P := Try.prog) 30 5 i0 Try.underlying30 hi hz0 hz1 hz2 .i64 .i64 128 128 128 128 rfl rfl (Nat.le_refl _) (by omega) u
  have HB : Hid (Bts (w.alloc (.cells (rawB (List.replicate 128 0)) 5)) (some ⟨w.heap.size, 0, none⟩) 128 exZ) := Bts.lit w 5 (0, 0) exZ (fun x hx => by have := List.eq_of_mem_replicate hx; omega) 128 (by simp [exZ])
  have HK : Hid (New w (w.alloc (.cells (rawB (List.replicate 128 0)) 5))) := (Kept.refl _ _).alloc _
  generalize List.replicate 128 0 = Z at *
  go_enter Try.func37, Try.ntmps37
  go_wp2
  go_ret
  exact ⟨w.heap.size, rfl, HB.out, Nat.le_refl _, HK.out⟩

theorem Kept.newQ {Q : Nat → Prop} {w0 w w' : World} (k : New w0 w) (hk : Kept Q w w') (hq : ∀ b, Q b → w0.heap.size ≤ b) : New w0 w' :=
  k.trans hk fun i hi h => by have := hq i h; omega

theorem NChip.away {Q : Nat → Prop} {w : World} {g gn : Nat} {s : CSt} (h : NChip Q w g s) (hg : w.heap.size ≤ gn) : ∀ a, (some ⟨gn, 0, none⟩ : Option Addr) = some a → ¬ Q a.block := fun a ha hq => by
  injection ha with ha
  subst ha
  have := h.low _ hq
  simp at this
  omega

theorem Bts.of_blkN {w : World} {g n off : Nat} {l : List Nat} {junk : List Value} (h : Blk w g 5 (l.map byt ++ junk)) (hb : IsBytes l) (hn : l.length = n) : Bts w (some ⟨g, off, none⟩) (n - off) (l.drop off) := by
  refine ⟨by simp [hn], fun x hx => hb x (List.mem_of_mem_drop hx), fun _ => ⟨g, off, rfl, fun j x hx => ?_⟩⟩
  rw [List.getElem?_drop] at hx
  have hj : off + j < l.length := (List.getElem?_eq_some_iff.1 hx).1
  rw [h.cell, List.getElem?_append_left (by simpa using hj), List.getElem?_map, hx]
  rfl

theorem same_kN {w0 wc : World} (A B : Option Addr) (n m c d : Nat) (l k : List Nat) (K : Hid (New w0 wc)) (ha : Hid (Bts wc A n l)) (hb : Hid (Bts wc B m k)) (hn : n ≤ 140737488351232) (b : Bool) (h : decide (l = k) = b) :
    Calls Try.prog 20 #[.slice A n c, .slice B m d] wc fun e w' => e = .returned (.bool b) ∧ Hid (New wc w') ∧ Hid (New w0 w') := by
  subst h
  refine (same_any A B n m c d l k wc ha.out hb.out (by unfold maxLen; omega)).mono ?_
  rintro e w' ⟨q, rfl, rfl⟩
  exact ⟨rfl, (Kept.refl _ _).drewN q, K.out.drewN q⟩

/-- Program, in the form that the walks of statements use. -/
theorem nProg_k {w0 wc : World} {Q : Nat → Prop} {g : Nat} {s : CSt} {b p : Int} {n : Nat} {G : Option Addr} {c2 : Nat} (gl : List Nat) (K : Hid (New w0 wc)) (C : Hid (NChip Q wc g s)) (HQ : Hid (∀ b, Q b → w0.heap.size ≤ b))
    (hg : Hid (Bts wc G n gl)) (hg1 : Hid (∀ a, G = some a → ¬ Q a.block)) (hd : s.deeds < 4611686018427387904) (er : Int) (s' : CSt) (he : progE s b p gl = er) (hs : progS s b p gl = s') :
    Calls Try.prog 17 #[.pointer (some ⟨g, 0, none⟩), .int .i64 b, .int .i64 p, .slice G n c2] wc fun e w' => e = .returned (.int .i64 er) ∧ Hid (NChip Q w' g s') ∧ Hid (Kept Q wc w') ∧ Hid (New w0 w') := by
  subst he hs
  refine (nProg_any Q g s b p n G c2 gl wc C.out hd hg.out hg1.out).mono ?_
  rintro e w' ⟨rfl, h1, h2⟩
  exact ⟨rfl, h1, h2, K.out.newQ h2 HQ.out⟩

theorem nErase_k {w0 wc : World} {Q : Nat → Prop} {g : Nat} {s : CSt} {b : Int} (K : Hid (New w0 wc)) (C : Hid (NChip Q wc g s)) (HQ : Hid (∀ b, Q b → w0.heap.size ≤ b))
    (hd : s.deeds < 4611686018427387904) (er : Int) (s' : CSt) (he : erasE s b = er) (hs : erasS s b = s') :
    Calls Try.prog 19 #[.pointer (some ⟨g, 0, none⟩), .int .i64 b] wc fun e w' => e = .returned (.int .i64 er) ∧ Hid (NChip Q w' g s') ∧ Hid (Kept Q wc w') ∧ Hid (New w0 w') := by
  subst he hs
  refine (nErase_any Q g s b wc C.out hd).mono ?_
  rintro e w' ⟨rfl, h1, h2⟩
  exact ⟨rfl, h1, h2, K.out.newQ h2 HQ.out⟩

theorem nHits_k {w0 wc : World} {Q : Nat → Prop} {g : Nat} {s : CSt} {A : Option Addr} {n c : Nat} (hs : List HitI) (K : Hid (New w0 wc)) (C : Hid (NChip Q wc g s)) (HQ : Hid (∀ b, Q b → w0.heap.size ≤ b))
    (ha : Hid (HitsA wc A n hs)) (hA : A = none → c = 0 ∧ n = 0) (hb : n * 40 ≤ 140737488351232) (er : Int) (s' : CSt) (he : hitsE hs = er) (hs' : hitsS s hs = s') :
    Calls Try.prog 23 #[.pointer (some ⟨g, 0, none⟩), .slice A n c] wc fun e w' => e = .returned (.int .i64 er) ∧ (∃ Q', Hid (NChip Q' w' g s') ∧ Hid (∀ b, Q' b → Q b ∨ wc.heap.size ≤ b) ∧ Hid (∀ b, Q' b → w0.heap.size ≤ b)) ∧ Hid (Kept Q wc w') ∧ Hid (New w0 w') := by
  subst he hs'
  refine (nHits_any Q g s A n c hs wc C.out ha.out hA hb).mono ?_
  rintro e w' ⟨rfl, h1, h2⟩
  exact ⟨rfl, ⟨_, h1, fun b hb => by rcases hb with hb | hb; exact .inl hb; exact .inr hb.1, fun b hb => by rcases hb with hb | hb; exact HQ.out b hb; exact Nat.le_trans K.out.size hb.1⟩, h2, K.out.newQ h2 HQ.out⟩

theorem nPower_k {w0 wc : World} {Q : Nat → Prop} {g : Nat} {s : CSt} (K : Hid (New w0 wc)) (C : Hid (NChip Q wc g s)) (s' : CSt) (hs : powS s = s') :
    Calls Try.prog 25 #[.pointer (some ⟨g, 0, none⟩)] wc fun e w' => ∃ g' Q', e = .returned (.tuple #[.pointer (some ⟨g', 0, none⟩), .int .i64 0]) ∧ Hid (NChip Q' w' g' s') ∧ Hid (∀ b, Q' b → wc.heap.size ≤ b) ∧ Hid (∀ b, Q' b → w0.heap.size ≤ b) ∧ Hid (New wc w') ∧ Hid (New w0 w') := by
  subst hs
  refine (nPower_any Q g s wc C.out).mono ?_
  rintro e w' ⟨g', Q', rfl, h1, h2, h3⟩
  exact ⟨g', Q', rfl, h1, h2, fun b hb => Nat.le_trans K.out.size (h2 b hb), h3, K.out.new h3⟩

theorem nRead_k {w0 wc : World} {Q : Nat → Prop} {g : Nat} {s : CSt} {b p : Int} (K : Hid (New w0 wc)) (C : Hid (NChip Q wc g s)) (er : Int) (l : List Nat) (n : Nat) (he : readE s b p = er) (hl : readL s b p = l) (hn : l.length = n) :
    Calls Try.prog 22 #[.pointer (some ⟨g, 0, none⟩), .int .i64 b, .int .i64 p] wc fun e w' => ∃ A c, e = .returned (.tuple #[.slice A n c, .int .i64 er]) ∧ Hid (OwnB w' 5 wc.heap.size A c l) ∧ Hid (New wc w') ∧ Hid (New w0 w') := by
  subst he hl hn
  refine (nRead_any Q g s b p wc C.out).mono ?_
  rintro e w' ⟨A, c, rfl, h1, h2⟩
  exact ⟨A, c, rfl, h1, h2, K.out.new h2⟩

theorem noughts_k {w0 wc : World} (K : Hid (New w0 wc)) : Calls Try.prog 37 #[] wc fun e w' => ∃ g, e = .returned (.slice (some ⟨g, 0, none⟩) 128 128) ∧ Hid (Bts w' (some ⟨g, 0, none⟩) 128 exZ) ∧ Hid (wc.heap.size ≤ g) ∧ Hid (New wc w') ∧ Hid (New w0 w') := by
  refine (noughts_page wc).mono ?_
  rintro e w' ⟨g, rfl, h1, h2, h3⟩
  exact ⟨g, rfl, h1, h2, h3, K.out.new h3⟩

theorem away_k {Q : Nat → Prop} {w : World} {g gn : Nat} {s : CSt} (h : Hid (NChip Q w g s)) (hg : Hid (w.heap.size ≤ gn)) : Hid (∀ a, (some ⟨gn, 0, none⟩ : Option Addr) = some a → ¬ Q a.block) := h.out.away hg.out
theorem NChip.new_k {Q : Nat → Prop} {w w' : World} {g : Nat} {s : CSt} (h : Hid (NChip Q w g s)) (hk : Hid (New w w')) : Hid (NChip Q w' g s) := h.out.new hk.out

/-- One hit, in new memory. -/
theorem hits_one (w : World) (gm : Nat) (fails : Bool) (Am : Option Addr) (m cm : Nat) (ml : List Nat) (a : Int) (hb : Bts w Am m ml) (hA : Am = none → cm = 0 ∧ m = 0) (hm : m ≤ cm) (hc : cm ≤ 140737488351232) (ha : -9223372036854775808 ≤ a ∧ a ≤ 9223372036854775807) (hg : gm = w.heap.size) :
    HitsA (w.alloc (.cells #[.int .i64 a, .bool fails, .slice Am m cm] 60)) (some ⟨gm, 0, none⟩) 1 [⟨a, fails, ml⟩] := by
  subst hg
  have hl := hb.1
  refine ⟨rfl, ?_, [.int .i64 a, .bool fails, .slice Am m cm], ⟨rfl, fun _ => ⟨w.heap.size, 0, rfl, fun j v hv => ?_⟩⟩, ?_, ?_⟩
  · intro h hh
    simp only [List.mem_singleton] at hh
    subst hh
    exact ⟨ha.2, ha.1, hb.2.1, by show ml.length ≤ _; omega⟩
  · rw [(Blk.made w 60 #[.int .i64 a, .bool fails, .slice Am m cm]).cell, Nat.zero_add]
    exact hv
  · intro u hu
    simp only [List.mem_cons, List.not_mem_nil, or_false] at hu
    rcases hu with rfl | rfl | rfl <;> rfl
  · intro i h hh
    match i, hh with
    | 0, hh =>
      simp only [List.getElem?_cons_zero, Option.some.injEq] at hh
      subst hh
      refine ⟨rfl, rfl, Am, cm, by rw [hl]; rfl, ?_, ?_, ?_, ?_⟩
      · rw [hl]; exact hb.new ((Kept.refl _ _).alloc _)
      · rw [hl]; exact hA
      · show ml.length ≤ cm; omega
      · unfold maxLen; omega

set_option maxRecDepth 100000 in
set_option maxHeartbeats 3200000 in
theorem works_any (w : World) : Calls Try.prog 11 #[] w (True1 w) := by
  have e0 : Hid (geoOk 8 4 128 0) := by show geoOk 8 4 128 0; decide
  have hf := Lib.hid ex_f
  have hg := Lib.hid ex_g.1
  have hh := Lib.hid ex_h
  have hi := Lib.hid ex_i
  have hj := Lib.hid ex_j
  have hk := Lib.hid ex_k
  have hm := Lib.hid ex_m
  have hd := Lib.hid ex_d
  go_enter Try.func11, Try.ntmps11
  go_wp2_with fail
  refine (small_any _).mono ?_
  rintro e w1 ⟨rfl, k1⟩
  have K1 := Lib.hid k1
  clear k1
  go_wp2_with fail
  refine (nNew_ok 8 4 128 0 _ e0.out).mono ?_
  rintro e w2 ⟨g, Q, rfl, hc, hq, k2⟩
  have C2 : Hid (NChip Q w2 g ex0) := hc
  have K2 := Lib.hid (K1.out.new k2)
  have HQ : Hid (∀ b, Q b → w.heap.size ≤ b) := fun b hb => Nat.le_trans K1.out.size (hq b hb)
  clear hc hq k2 K1
  go_wp2_with fail
  refine (noughts_k K2).mono ?_
  rintro e w3 ⟨g3, rfl, B3, G3, N3, K3⟩
  have C3 := NChip.new_k C2 N3
  go_wp2_with fail
  refine (nProg_k exZ K3 C3 HQ B3 (away_k C2 G3) (by have := hd.out; omega) 0 ex1 hf.out rfl).mono ?_
  rintro e w4 ⟨rfl, C4, -, K4⟩
  clear B3 G3 N3 K3 C3 C2 K2
  go_wp2_with fail
  refine (noughts_k K4).mono ?_
  rintro e w5 ⟨g5, rfl, B5, G5, N5, K5⟩
  have C5 := NChip.new_k C4 N5
  go_wp2_with fail
  refine (nProg_k exZ K5 C5 HQ B5 (away_k C4 G5) (by have := hd.out; omega) 8 ex1 hg.out ex_s).mono ?_
  rintro e w6 ⟨rfl, C6, -, K6⟩
  clear B5 G5 N5 K5 C5 C4 K4
  go_wp2_with fail
  refine (noughts_k K6).mono ?_
  rintro e w7 ⟨g7, rfl, B7, G7, N7, K7⟩
  have C7 := NChip.new_k C6 N7
  go_wp2_with fail
  refine (nProg_k exZ K7 C7 HQ B7 (away_k C6 G7) (by have := hd.out; omega) 0 ex2 hh.out rfl).mono ?_
  rintro e w8 ⟨rfl, C8, -, K8⟩
  clear B7 G7 N7 K7 C7 C6 K6
  go_wp2_with fail
  refine (nErase_k K8 C8 HQ (by have := hd.out; omega) 0 ex3 hi.out rfl).mono ?_
  rintro e w9 ⟨rfl, C9, -, K9⟩
  clear C8 K8
  have A1 : New w9 (w9.alloc (.cells #[.int .u8 1] 5)) := (Kept.refl _ _).alloc _
  have A2 : Hid (New w9 ((w9.alloc (.cells #[.int .u8 1] 5)).alloc (.cells #[.int .i64 0, .bool false, .slice (some ⟨w9.heap.size, 0, none⟩) 1 1] 60))) := A1.alloc _
  have HT : Hid (HitsA ((w9.alloc (.cells #[.int .u8 1] 5)).alloc (.cells #[.int .i64 0, .bool false, .slice (some ⟨w9.heap.size, 0, none⟩) 1 1] 60)) (some ⟨w9.heap.size + 1, 0, none⟩) 1 [⟨0, false, [1]⟩]) :=
    hits_one (w9.alloc (.cells #[.int .u8 1] 5)) (w9.heap.size + 1) false _ 1 1 [1] 0 (Bts.one w9 5 1 _ (by omega) rfl) (by intro h; cases h) (by omega) (by omega) (by omega) (by simp)
  have C10 := NChip.new_k C9 A2
  have K10 : Hid (New w ((w9.alloc (.cells #[.int .u8 1] 5)).alloc (.cells #[.int .i64 0, .bool false, .slice (some ⟨w9.heap.size, 0, none⟩) 1 1] 60))) := K9.out.new A2.out
  clear A1
  go_wp2_with fail
  refine (nHits_k [⟨0, false, [1]⟩] K10 C10 HQ HT (by intro h; cases h) (by omega) 0 ex4 hj.out rfl).mono ?_
  rintro e w11 ⟨rfl, ⟨Q2, C11, -, HQ2⟩, -, K11⟩
  clear A2 HT C10 K10 C9 K9
  go_wp2_with fail
  refine (noughts_k K11).mono ?_
  rintro e w12 ⟨g12, rfl, B12, G12, N12, K12⟩
  have C12 := NChip.new_k C11 N12
  go_wp2_with fail
  refine (nProg_k exZ K12 C12 HQ2 B12 (away_k C11 G12) (by have := hd.out; omega) 10 ex5 hk.out rfl).mono ?_
  rintro e w13 ⟨rfl, C13, -, K13⟩
  clear B12 G12 N12 K12 C12 C11 K11
  go_wp2_with fail
  refine (nPower_k K13 C13 ex6 rfl).mono ?_
  rintro e w14 ⟨g14, Q14, rfl, C14, -, HQ14, -, K14⟩
  clear C13 K13
  go_wp2_with fail
  refine (nRead_k K14 C14 0 _ 128 hm.out.1 rfl hm.out.2.1).mono ?_
  rintro e w15 ⟨A15, c15, rfl, O15, -, K15⟩
  clear C14 K14
  have hb15 := O15.out.bts
  rw [hm.out.2.1] at hb15
  obtain ⟨go, oo, rfl, hcell⟩ := hb15.2.2 (by omega)
  have q0 : w15.cell? ⟨go, oo, none⟩ = some (.int .u8 254) := hcell 0 254 hm.out.2.2.1
  have q127 : w15.cell? ⟨go, oo + 127, none⟩ = some (.int .u8 254) := hcell 127 254 hm.out.2.2.2
  have hc15 := O15.out.le
  rw [hm.out.2.1] at hc15
  clear hcell hb15 O15
  go_wp2
  go_ret
  exact ⟨rfl, K15.out⟩

theorem worksN_k {w0 wc : World} (K : Hid (New w0 wc)) : Calls Try.prog 11 #[] wc fun e w' => e = .returned (.bool true) ∧ New w0 w' := by
  refine (works_any wc).mono ?_
  rintro e w' ⟨rfl, hk⟩
  exact ⟨rfl, K.out.new hk⟩
end Go.Proofs.Yteifkggfaefahaa
