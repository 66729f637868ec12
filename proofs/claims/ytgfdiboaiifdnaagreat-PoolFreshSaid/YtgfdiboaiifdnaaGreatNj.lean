/-
  The contract of a chip's deed.
-/
import Derived.Test.YtgfdiboaiifdnaaGreatNi
namespace Go.Proofs.YtgfdiboaiifdnaaGreat
open Go.ChangeShapes Go.WideShapes Go.ChangeAt Go.RowKit

/-- An error's number comes back, the chip is another one in the same blocks. -/
def DeedP (Q : Nat → Prop) (w : World) (g : Nat) (s' : CSt) (er : Int) (e : Ending) (w' : World) : Prop :=
  e = .returned (.int .i64 er) ∧ NChip Q w' g s' ∧ Kept Q w w'

theorem deed1 {Q : Nat → Prop} {w : World} {g gc gb bl bb cc cb : Nat} {Ah : Option Addr} {ch : Nat} {s : CSt} (h : NRep Q w g gc gb bl bb cc cb Ah ch s) (hd : s.deeds < 4611686018427387904) :
    NRep Q (w.setCell ⟨g, 7, none⟩ (.int .i64 ((s.deeds : Int) + 1))) g gc gb bl bb cc cb Ah ch { s with deeds := s.deeds + 1 } := by
  have hb := h.chip.put 7 (.int .i64 ((s.deeds : Int) + 1))
  have hk : Kept (· = g) w (w.setCell ⟨g, 7, none⟩ (.int .i64 ((s.deeds : Int) + 1))) := Kept.set1 w g 7 _
  have := h.setChip hk s.dead (s.deeds + 1) (by omega) (by simpa using hb)
  exact this

/-- The cells are laid anew. -/
theorem NRep.laid {Q : Nat → Prop} {w w' : World} {g gc gb bl bb cc cb : Nat} {Ah : Option Addr} {ch : Nat} {s : CSt} (h : NRep Q w g gc gb bl bb cc cb Ah ch s) (hk : Kept (· = gc) w w') (off : Nat) (M : List Nat) (hM : IsBytes M) (hf : off + M.length ≤ s.by_.length) (junk : List Value)
    (hb : Blk w' gc 5 ((lay s.by_ off M).map byt ++ junk)) : NRep Q w' g gc gb bl bb cc cb Ah ch { s with by_ := lay s.by_ off M } :=
  h.setCells hk (lay s.by_ off M) (lay_length _ _ _ hf) (lay_bytes _ _ _ h.ok.bytes hM) junk hb

/-- What asking whether it is struck leaves. -/
def AskP (Q : Nat → Prop) (w : World) (g gc gb bl bb cc cb : Nat) (s2 : CSt) (w' : World) : Prop := (∃ Ah ch, NRep Q w' g gc gb bl bb cc cb Ah ch s2) ∧ Kept Q w w'

theorem NRep.atQ {Q : Nat → Prop} {w : World} {g gc gb bl bb cc cb : Nat} {Ah : Option Addr} {ch : Nat} {s : CSt} (h : NRep Q w g gc gb bl bb cc cb Ah ch s) : Q gc := h.qc

set_option maxRecDepth 100000 in
set_option maxHeartbeats 1600000 in
theorem deed_unstruck (Q : Nat → Prop) (g gc gb bl bb cc cb : Nat) (Ah : Option Addr) (ch : Nat) (s s2 : CSt) (b off n : Nat) (G : Option Addr) (c2 : Nat) (gl : List Nat) (w : World) (h : NRep Q w g gc gb bl bb cc cb Ah ch s) (hd : s.deeds < 4611686018427387904)
    (hg : Bts w G n gl) (hg1 : ∀ a, G = some a → ¬ Q a.block) (hf : off + n ≤ s.by_.length) (_hn : n ≤ 524288) (hby : s2.by_ = s.by_)
    (hc : ∀ w1, NRep Q w1 g gc gb bl bb cc cb Ah ch { s with deeds := s.deeds + 1 } → Calls Tryz.prog 59 #[.pointer (some ⟨bl, 0, none⟩), .pointer (some ⟨bb, 0, none⟩)] w1
      fun e w2 => e = .returned (.tuple #[.agg #[.int .i64 0, .bool false, .slice none 0 0], .bool false]) ∧ AskP Q w1 g gc gb bl bb cc cb s2 w2) :
    Calls Tryz.prog 44 #[.pointer (some ⟨g, 0, none⟩), .int .i64 b, .slice (some ⟨gc, off, none⟩) n n, .slice G n c2] w (DeedP Q w g { s2 with by_ := lay s2.by_ off gl } 0) := by
  have c7 := h.c7
  have c8 := h.c8
  have f7 := h.chip.free 7
  have h1 := deed1 h hd
  have hQg := h.qg
  have hQc := h.qc
  have hlt := h.chip.lt
  have hdi : (s.deeds : Int) < 4611686018427387904 := by omega
  have k1 : Kept Q w (w.setCell ⟨g, 7, none⟩ (.int .i64 ((s.deeds : Int) + 1))) := (Kept.refl _ _).setCell (p := ⟨g, 7, none⟩) (fun _ => hQg) _
  have H1 := Lib.hid h1
  have HG := Lib.hid hg
  have HG1 := Lib.hid hg1
  have HF := Lib.hid hf
  have HBy := Lib.hid hby
  have HC := Lib.hid hc
  have K1 := Lib.hid k1
  have HQ := Lib.hid hQg
  have HQC := Lib.hid hQc
  clear h hg hg1 hf hby hc h1 k1 hd hQg hQc
  go_enter Tryz.func44, Tryz.ntmps44
  go_wp2_with fail
  refine (HC.out _ H1.out).mono ?_
  rintro e w2 ⟨rfl, ⟨Ah2, ch2, h2⟩, k2⟩
  have H2 := Lib.hid h2
  have K2 : Hid (Kept Q w w2) := K1.out.trans k2 fun _ _ x => x
  clear h2 k2 H1 K1 c7 c8 f7 HC
  have K3 : Hid (Kept Q w (w2.alloc (.cells #[.int .i64 0, .bool false, .slice none 0 0] 92))) := K2.out.alloc _
  have H3 : Hid (NRep Q (w2.alloc (.cells #[.int .i64 0, .bool false, .slice none 0 0] 92)) g gc gb bl bb cc cb Ah2 ch2 s2) := H2.out.new ((Kept.refl _ _).alloc _)
  have G3 : Hid (Bts (w2.alloc (.cells #[.int .i64 0, .bool false, .slice none 0 0] 92)) G n gl) := HG.out.kept K3.out HG1.out
  obtain ⟨junk, hj⟩ := H3.out.cells
  have HJ := Lib.hid hj
  clear hj
  go_wp2_with (with_reducible refine wpList_copy_blk (o := ⟨some 30, _, _, _, _, _⟩) rfl (.tmp 28) (.tmp 29) rfl (some ⟨gc, off, none⟩) n n rfl G n c2 rfl gc off _ HJ.out gl G3.out n ?_ (fun _ => rfl) ?_ gl ?_ ?_)
  · exact (Nat.min_self n).symm
  · rw [List.length_append, List.length_map, HBy.out]; have := HF.out; omega
  · rw [List.take_of_length_le (by rw [HG.out.1]; exact Nat.le_refl _)]
  intro w4 HB HK
  have HL : Hid (off + gl.length ≤ s2.by_.length) := by rw [HBy.out, HG.out.1]; exact HF
  have HB2 : Hid (Blk w4 gc 5 ((lay s2.by_ off gl).map byt ++ junk)) := by rw [← lay_map _ _ _ _ HL.out]; exact HB
  have H4 : Hid (NChip Q w4 g { s2 with by_ := lay s2.by_ off gl }) := ⟨_, _, _, _, _, _, _, _, H3.out.laid HK.out off gl HG.out.2.1 HL.out junk HB2.out⟩
  have K4 : Hid (Kept Q w w4) := K3.out.trans (S' := (· = gc)) HK.out fun i _ h => by rw [h]; exact HQC.out
  clear HB HK HB2 HJ G3 K3 H3 K2 H2
  go_wp2
  go_ret
  exact ⟨rfl, H4.out, K4.out⟩

/-- What asking leaves where it is struck: the hit's fields, its mask read. -/
def AskS (Q : Nat → Prop) (w : World) (g gc gb bl bb cc cb : Nat) (s2 : CSt) (Am : Option Addr) (cm : Nat) (ml : List Nat) (w' : World) : Prop := (∃ Ah ch, NRep Q w' g gc gb bl bb cc cb Ah ch s2) ∧ Kept Q w w' ∧ MaskAt Q w' gc Am cm ml

def hitE (fails : Bool) : Int := if fails = true then 9 else 10

/-- The chip behind a deed that is struck. -/
def hitS (s2 : CSt) (b off : Nat) (gl : List Nat) (fails : Bool) (ml : List Nat) : CSt :=
  { s2 with by_ := lay s2.by_ off (mixF (maskF ml) ((s2.by_.drop off).take gl.length) gl), bad := if fails = true then s2.bad.set b true else s2.bad, dead := !fails }

set_option maxRecDepth 100000 in
set_option maxHeartbeats 1600000 in
theorem deed_struck (Q : Nat → Prop) (g gc gb bl bb cc cb : Nat) (Ah : Option Addr) (ch : Nat) (s s2 : CSt) (b off n : Nat) (G : Option Addr) (c2 : Nat) (gl : List Nat) (after : Nat) (fails : Bool) (m : Nat) (ml : List Nat) (w : World) (h : NRep Q w g gc gb bl bb cc cb Ah ch s) (hd : s.deeds < 4611686018427387904)
    (hg : Bts w G n gl) (hg1 : ∀ a, G = some a → ¬ Q a.block) (hf : off + n ≤ s.by_.length) (_hn : n ≤ 524288) (hby : s2.by_ = s.by_) (hb : b < s2.nb) (hm : m = ml.length) (hdd : s2.dead = false)
    (hc : ∀ w1, NRep Q w1 g gc gb bl bb cc cb Ah ch { s with deeds := s.deeds + 1 } → Calls Tryz.prog 59 #[.pointer (some ⟨bl, 0, none⟩), .pointer (some ⟨bb, 0, none⟩)] w1
      fun e w2 => ∃ Am cm, e = .returned (.tuple #[.agg #[.int .i64 after, .bool fails, .slice Am m cm], .bool true]) ∧ AskS Q w1 g gc gb bl bb cc cb s2 Am cm ml w2) :
    Calls Tryz.prog 44 #[.pointer (some ⟨g, 0, none⟩), .int .i64 b, .slice (some ⟨gc, off, none⟩) n n, .slice G n c2] w (DeedP Q w g (hitS s2 b off gl fails ml) (hitE fails)) := by
  have c7 := h.c7
  have c8 := h.c8
  have f7 := h.chip.free 7
  have h1 := deed1 h hd
  have hQg := h.qg
  have hQc := h.qc
  have hQb := h.qb
  have hlt := h.chip.lt
  have hdi : (s.deeds : Int) < 4611686018427387904 := by omega
  have k1 : Kept Q w (w.setCell ⟨g, 7, none⟩ (.int .i64 ((s.deeds : Int) + 1))) := (Kept.refl _ _).setCell (p := ⟨g, 7, none⟩) (fun _ => hQg) _
  have H1 := Lib.hid h1
  have HG := Lib.hid hg
  have HG1 := Lib.hid hg1
  have HF := Lib.hid hf
  have HBy := Lib.hid hby
  have HC := Lib.hid hc
  have K1 := Lib.hid k1
  have HQ := Lib.hid hQg
  have HQC := Lib.hid hQc
  have HQB := Lib.hid hQb
  have Hm := Lib.hid hm
  have Hb := Lib.hid hb
  have HDD := Lib.hid hdd
  clear h hg hg1 hf hby hc h1 k1 hd hQg hQc hQb hm hdd hb
  go_enter Tryz.func44, Tryz.ntmps44
  go_wp2_with fail
  refine (HC.out _ H1.out).mono ?_
  rintro e w2 ⟨Am, cm, rfl, ⟨Ah2, ch2, h2⟩, k2, m2⟩
  have H2 := Lib.hid h2
  have M2 := Lib.hid m2
  have K2 : Hid (Kept Q w w2) := K1.out.trans k2 fun _ _ x => x
  clear h2 k2 m2 H1 K1 c7 c8 f7 HC
  have kal : New w2 (w2.alloc (.cells #[.int .i64 after, .bool fails, .slice Am m cm] 92)) := (Kept.refl _ _).alloc _
  have K3 : Hid (Kept Q w (w2.alloc (.cells #[.int .i64 after, .bool fails, .slice Am m cm] 92))) := K2.out.alloc _
  have H3 : Hid (NRep Q (w2.alloc (.cells #[.int .i64 after, .bool fails, .slice Am m cm] 92)) g gc gb bl bb cc cb Ah2 ch2 s2) := H2.out.new kal
  have M3 : Hid (MaskAt Q (w2.alloc (.cells #[.int .i64 after, .bool fails, .slice Am m cm] 92)) gc Am cm ml) := M2.out.kept kal (fun _ _ _ _ f => f) (fun _ h _ => h)
  have G3 : Hid (Bts (w2.alloc (.cells #[.int .i64 after, .bool fails, .slice Am m cm] 92)) G n gl) := HG.out.kept K3.out HG1.out
  have B3 : Hid (Blk (w2.alloc (.cells #[.int .i64 after, .bool fails, .slice Am m cm] 92)) w2.heap.size 92 [.int .i64 after, .bool fails, .slice Am m cm]) := Blk.made _ _ _
  obtain ⟨junk, hj⟩ := H3.out.cells
  have HJ := Lib.hid hj
  clear hj kal
  have hcap : m ≤ 9223372036854775807 := by
    have h1 := M3.out.2.1
    have h2 := M3.out.2.2.1
    unfold maxLen at h2
    have h3 := Hm.out
    omega
  go_wp2_with fail
  refine (changeMasked_any gc off n n s2.by_ junk G c2 gl Am m cm ml _ HJ.out H3.out.ok.bytes (by rw [HBy.out]; exact HF.out) (by omega) G3.out (fun a ha e => HG1.out a ha (by rw [e]; exact HQC.out)) (by have := M3.out.1; rw [← Hm.out] at this; exact this) (fun a ha => (M3.out.2.2.2 a ha).2.1) hcap).mono ?_
  rintro e w4 ⟨rfl, hB, hK⟩
  have HL : Hid (off + (mixF (maskF ml) ((s2.by_.drop off).take n) gl).length ≤ s2.by_.length) := by
    show _ ≤ _
    rw [mixF_length, HBy.out]
    have := HF.out
    simp
    omega
  have HBm : Hid (IsBytes (mixF (maskF ml) ((s2.by_.drop off).take n) gl)) := mixF_bytes _ _ _ HG.out.2.1
  have H4 : Hid (NRep Q w4 g gc gb bl bb cc cb Ah2 ch2 { s2 with by_ := lay s2.by_ off (mixF (maskF ml) ((s2.by_.drop off).take n) gl) }) := H3.out.laid hK off _ HBm.out HL.out junk hB
  have K4 : Hid (Kept Q w w4) := K3.out.trans (S' := (· = gc)) hK fun i _ h => by rw [h]; exact HQC.out
  have hne : ¬ w2.heap.size = gc := by have := H2.out.low gc HQC.out; omega
  have c1 : w4.cell? ⟨w2.heap.size, 1, none⟩ = some (.bool fails) := hK.cell (B3.out.cell 1) hne
  have HGl := Lib.hid HG.out.1
  clear hB hK HJ G3 M3 B3 K3 H3 K2 M2 H2 hcap
  have c5 := H4.out.c5
  have c6 := H4.out.c6
  have hlg := H4.out.chip.lt
  have f6 := H4.out.chip.free 6
  have hbi : (b : Int) < ((s2.nb : Nat) : Int) := by have := Hb.out; omega
  have hbl := H4.out.ok.badl
  simp only at hbl c5 c6
  rw [hbl] at c5
  rw [HDD.out] at c6
  obtain ⟨jb, hjb⟩ := H4.out.bads
  simp only at hjb
  have hcb : w4.cell? ⟨gb, b, none⟩ = some (.bool (badAt s2 b)) := badAt_cell H4.out b Hb.out
  have hfb := hjb.free b
  have HJB := Lib.hid hjb
  have HBL := Lib.hid hbl
  clear hjb hbl
  cases fails
  · have H5 : Hid (NRep Q (w4.setCell ⟨g, 6, none⟩ (.bool true)) g gc gb bl bb cc cb Ah2 ch2 (hitS s2 b off gl false ml)) := by
      have hb := H4.out.chip.put 6 (.bool true)
      have hk : Kept (· = g) w4 (w4.setCell ⟨g, 6, none⟩ (.bool true)) := Kept.set1 w4 g 6 _
      have := H4.out.setChip hk true s2.deeds H4.out.ok.deeds (by simpa using hb)
      unfold hitS
      rw [HGl.out]
      exact this
    have K5 : Hid (Kept Q w (w4.setCell ⟨g, 6, none⟩ (.bool true))) := K4.out.setCell (p := ⟨g, 6, none⟩) (fun _ => HQ.out) _
    go_wp2
    go_ret
    exact ⟨rfl, ⟨_, _, _, _, _, _, _, _, H5.out⟩, K5.out⟩
  · have H5 : Hid (NRep Q (w4.setCell ⟨gb, b, none⟩ (.bool true)) g gc gb bl bb cc cb Ah2 ch2 (hitS s2 b off gl true ml)) := by
      have hb := HJB.out.put b (.bool true)
      have hk : Kept (· = gb) w4 (w4.setCell ⟨gb, b, none⟩ (.bool true)) := Kept.set1 w4 gb b _
      have := H4.out.setBads hk (s2.bad.set b true) (by simp) jb (by
        rw [List.set_append_left _ _ (by rw [List.length_map, HBL.out]; exact Hb.out)] at hb
        rw [List.map_set]
        exact hb)
      unfold hitS
      rw [HGl.out]
      simp only [if_true, Bool.not_true]
      rw [← HDD.out]
      exact this
    have K5 : Hid (Kept Q w (w4.setCell ⟨gb, b, none⟩ (.bool true))) := K4.out.setCell (p := ⟨gb, b, none⟩) (fun _ => HQB.out) _
    go_wp2
    go_ret
    exact ⟨rfl, ⟨_, _, _, _, _, _, _, _, H5.out⟩, K5.out⟩

/-- A deed, whatever strikes. -/
theorem deed_any (Q : Nat → Prop) (g gc gb bl bb cc cb : Nat) (Ah : Option Addr) (ch : Nat) (s : CSt) (b off n : Nat) (G : Option Addr) (c2 : Nat) (gl : List Nat) (w : World) (h : NRep Q w g gc gb bl bb cc cb Ah ch s) (hd : s.deeds < 4611686018427387904)
    (hg : Bts w G n gl) (hg1 : ∀ a, G = some a → ¬ Q a.block) (hf : off + n ≤ s.by_.length) (hn : n ≤ 524288) (hb : b < s.nb) (hal : s.dead = false) :
    Calls Tryz.prog 44 #[.pointer (some ⟨g, 0, none⟩), .int .i64 b, .slice (some ⟨gc, off, none⟩) n n, .slice G n c2] w (DeedP Q w g (deedS s b off gl) (deedE s)) := by
  cases hh : s.hits with
  | nil =>
    have e1 : deedE s = 0 := by unfold deedE; rw [hh]
    have e2 : deedS s b off gl = { { s with deeds := s.deeds + 1 } with by_ := lay s.by_ off gl } := by unfold deedS; rw [hh]
    rw [e1, e2]
    refine deed_unstruck Q g gc gb bl bb cc cb Ah ch s { s with deeds := s.deeds + 1 } b off n G c2 gl w h hd hg hg1 hf hn rfl fun w1 h1 => ?_
    have hl := h1.list
    simp only [hh] at hl
    refine (struck_none bl bb _ _ _ hl).mono ?_
    rintro e w2 ⟨rfl, hk⟩
    exact ⟨rfl, ⟨_, _, h1.new hk⟩, hk.mono fun _ _ f => f.elim⟩
  | cons x t =>
    have hx := h.ok.hits x (by rw [hh]; simp)
    have h0 : 0 < s.hits.length := by rw [hh]; simp
    by_cases hlt : s.since < x.after
    · have e1 : deedE s = 0 := by unfold deedE; rw [hh]; simp [hlt]
      have e2 : deedS s b off gl = { { s with deeds := s.deeds + 1, since := s.since + 1 } with by_ := lay s.by_ off gl } := by unfold deedS; rw [hh]; simp [hlt]
      rw [e1, e2]
      refine deed_unstruck Q g gc gb bl bb cc cb Ah ch s { s with deeds := s.deeds + 1, since := s.since + 1 } b off n G c2 gl w h hd hg hg1 hf hn rfl fun w1 h1 => ?_
      obtain ⟨gh, oh, rfl, hq, ht, hc⟩ := h1.hits h0
      obtain ⟨c1, _⟩ := hc 0 x (by show s.hits[0]? = _; rw [hh]; rfl)
      refine (struck_not bl bb gh oh _ _ _ _ _ h1.list h0 h1.cnt c1 hlt hx.after).mono ?_
      rintro e w2 ⟨rfl, hb2, hk⟩
      have hk' : Kept (fun k => k = bl ∨ k = bb) w1 w2 := hk.mono fun _ _ h => .inr h
      have hne := h1.ne
      exact ⟨rfl, ⟨_, _, h1.setHits hk' s.hits (s.since + 1) _ _ h1.hcap h1.ok.hits (by have := hx.after; omega) (h1.list.kept hk hne.2.2.2.2.2.2.2.2.2) hb2 h1.hits⟩, hk.mono fun k _ h => by rw [h]; exact h1.qn⟩
    · have e1 : deedE s = hitE x.fails := by unfold deedE hitE; rw [hh]; simp [hlt]
      have e2 : deedS s b off gl = hitS { s with deeds := s.deeds + 1, hits := t, since := 0 } b off gl x.fails x.mask := by unfold deedS hitS; rw [hh]; simp [hlt]
      rw [e1, e2]
      refine deed_struck Q g gc gb bl bb cc cb Ah ch s { s with deeds := s.deeds + 1, hits := t, since := 0 } b off n G c2 gl x.after x.fails x.mask.length x.mask w h hd hg hg1 hf hn rfl hb rfl hal fun w1 h1 => ?_
      obtain ⟨gh, oh, rfl, hq, ht, hc⟩ := h1.hits h0
      obtain ⟨c1, c2', Am, cm, c3, hm⟩ := hc 0 x (by show s.hits[0]? = _; rw [hh]; rfl)
      have hcp := h1.hcap
      refine (struck_yes bl bb gh oh s.hits.length ch s.since x.after x.fails Am x.mask.length cm w1 h1.list h0 hcp.1 hcp.2 h1.cnt c1 c2' c3 hlt).mono ?_
      rintro e w2 ⟨rfl, ⟨A', hA, hA2⟩, hb2, hk⟩
      have hlen : s.hits.length - 1 = t.length := by rw [hh]; simp
      have hlen1 : s.hits.length = t.length + 1 := by rw [hh]; simp
      have hT : HitsT Q w1 gc A' t := by
        intro ht0
        refine ⟨gh, oh + 3, hA2 (by omega), hq, ht, fun i y hy => ?_⟩
        have := hc (i + 1) y (by show s.hits[i + 1]? = _; rw [hh]; simpa using hy)
        rw [show oh + 3 * (i + 1) = oh + 3 + 3 * i from by omega] at this
        exact this
      have hcp1 : s.hits.length ≤ ch ∧ ch ≤ maxLen := hcp
      rw [hlen] at hA
      have hne := h1.ne
      refine ⟨Am, cm, rfl, ⟨_, _, h1.setHits hk t 0 A' (ch - 1) (by omega) (fun z hz => h1.ok.hits z (by show z ∈ s.hits; rw [hh]; exact List.mem_cons_of_mem _ hz)) (by omega) hA hb2 hT⟩, hk.mono (fun k _ h => ?_), ?_⟩
      · rcases h with h | h
        · rw [h]; exact h1.ql
        · rw [h]; exact h1.qn
      · refine hm.kept hk (fun b hb1 hb2 hb3 hx => ?_) (fun _ h _ => h)
        rcases hx with hx | hx
        · exact hb3.ne_of h1.list.at_ (by decide) hx
        · exact hb3.ne_of h1.cnt.at_ (by decide) hx
end Go.Proofs.YtgfdiboaiifdnaaGreat
