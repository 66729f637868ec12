/-
  A pair's act: program, read, hits, power.
-/
import Derived.Test.YtfhngcnphcjmgaaTa
namespace Go.Proofs.Ytfhngcnphcjmgaa
open Go.ChangeShapes Go.WideShapes Go.ChangeAt Go.RowKit

/-- A pair somewhere. -/
def PairX (w0 w : World) (gp : Nat) (s : CSt) : Prop := ∃ Qc Qr g gr, Pair w0 w gp Qc Qr g gr s

theorem new_of_kept {w0 w w' : World} {S : Nat → Prop} (k : New w0 w) (hk : Kept S w w') (hq : ∀ b, S b → w0.heap.size ≤ b) : New w0 w' :=
  k.trans (S' := S) hk fun i hi h => absurd (hq i h) (by omega)
theorem Pair.lowc {w0 w : World} {gp : Nat} {Qc Qr : Nat → Prop} {g gr : Nat} {s : CSt} (h : Pair w0 w gp Qc Qr g gr s) : ∀ b, Qc b → b < w.heap.size := h.chip.low
theorem Pair.lowr {w0 w : World} {gp : Nat} {Qc Qr : Nat → Prop} {g gr : Nat} {s : CSt} (h : Pair w0 w gp Qc Qr g gr s) : ∀ b, Qr b → b < w.heap.size := h.ref.low
/-- Behind a step of the chip and then one of the reference's. -/
theorem Pair.step2 {w0 w wa wb : World} {gp : Nat} {Qc Qr : Nat → Prop} {g gr : Nat} {s s' : CSt} (h : Pair w0 w gp Qc Qr g gr s) (ka : Kept Qc w wa) (ca : NChip Qc wa g s') (kb : Kept Qr wa wb) (cb : RChip Qr wb gr s') : Pair w0 wb gp Qc Qr g gr s' :=
  { h with pair := (h.pair.kept ka h.pc).kept kb h.pr, chip := ca.kept kb fun x h1 h2 => h.apart x h1 h2, ref := cb }
theorem Pair.step2n {w0 w wa wb : World} {gp : Nat} {Qc Qr : Nat → Prop} {g gr : Nat} {s : CSt} (h : Pair w0 w gp Qc Qr g gr s) (k0 : New w0 w) (ka : Kept Qc w wa) (kb : Kept Qr wa wb) : New w0 wb :=
  new_of_kept (new_of_kept k0 ka h.newc) kb h.newr

set_option maxRecDepth 100000 in
set_option maxHeartbeats 1600000 in
theorem pAct_prog (w0 : World) (gp : Nat) (Qc Qr : Nat → Prop) (g gr : Nat) (s : CSt) (b p : Int) (f : Nat) (l : List Nat) (A B : Option Addr) (n c m e : Nat) (w : World) (hp : Pair w0 w gp Qc Qr g gr s) (hd : s.deeds < 4611686018427387904) (hl : Bts w0 A n l) (hn : n ≤ 140737488351232) (hf : f < 256)
    (h0 : New w0 w) (K : Ending → World → Prop) (h : ∀ w', PairX w0 w' gp (progS s b p (actBy f l s.nz)) → New w0 w' → K (.returned (.bool true)) w') :
    Calls Try.prog 47 #[.pointer (some ⟨gp, 0, none⟩), .agg #[.int .i64 1, .int .i64 b, .int .i64 p, .int .u8 (f : Int), .slice A n c, .slice B m e]] w K := by
  have HP := Lib.hid hp
  have HD := Lib.hid hd
  have HK := Lib.hid h
  have HL := Lib.hid hl
  have HN := Lib.hid hn
  have HF := Lib.hid hf
  have H0 := Lib.hid h0
  have HZ : Hid (s.nz ≤ 8192) := by have := hp.chip.ok.nz2; show _ ≤ _; omega
  clear hp hd h hl hn hf h0
  go_enter Try.func47, Try.ntmps47
  go_wp2_with fail
  have N1 : Hid (New w (w.alloc (.cells #[.int .i64 1, .int .i64 b, .int .i64 p, .int .u8 (f : Int), .slice A n c, .slice B m e] 33))) := (Kept.refl _ _).alloc _
  have P1 : Hid (Blk (w.alloc (.cells #[.int .i64 1, .int .i64 b, .int .i64 p, .int .u8 (f : Int), .slice A n c, .slice B m e] 33)) w.heap.size 33 [.int .i64 1, .int .i64 b, .int .i64 p, .int .u8 (f : Int), .slice A n c, .slice B m e]) := Blk.made w _ _
  generalize w.alloc (.cells #[.int .i64 1, .int .i64 b, .int .i64 p, .int .u8 (f : Int), .slice A n c, .slice B m e] 33) = w1 at *
  have HP1 := Lib.hid (HP.out.new N1.out)
  have H01 := Lib.hid (H0.out.new N1.out)
  have nc : ¬ Qc w.heap.size := fun q => absurd (HP.out.lowc _ q) (Nat.lt_irrefl _)
  have nr : ¬ Qr w.heap.size := fun q => absurd (HP.out.lowr _ q) (Nat.lt_irrefl _)
  have SB : Hid (∀ wx wy, Kept Qc w1 wx → Kept Qr wx wy → wy.cell? ⟨gp, 0, none⟩ = some (.pointer (some ⟨g, 0, none⟩)) ∧ wy.cell? ⟨gp, 1, none⟩ = some (.pointer (some ⟨gr, 0, none⟩)) ∧ wy.cell? ⟨w.heap.size, 1, none⟩ = some (.int .i64 b) ∧ wy.cell? ⟨w.heap.size, 2, none⟩ = some (.int .i64 p)) := fun wx wy h1 h2 =>
    have q1 := (HP1.out.pair.kept h1 HP1.out.pc).kept h2 HP1.out.pr
    have q2 := (P1.out.kept h1 nc).kept h2 nr
    ⟨q1.cell 0, q1.cell 1, q2.cell 1, q2.cell 2⟩
  have SA : Hid (∀ wx, New w1 wx → wx.cell? ⟨gp, 1, none⟩ = some (.pointer (some ⟨gr, 0, none⟩)) ∧ wx.cell? ⟨gr, 2, none⟩ = some (.int .i64 (s.nz : Nat)) ∧ wx.cell? ⟨w.heap.size, 0, none⟩ = some (.int .i64 1) ∧ wx.cell? ⟨w.heap.size, 1, none⟩ = some (.int .i64 b) ∧ wx.cell? ⟨w.heap.size, 2, none⟩ = some (.int .i64 p) ∧ wx.cell? ⟨w.heap.size, 3, none⟩ = some (.int .u8 (f : Int)) ∧ wx.cell? ⟨w.heap.size, 4, none⟩ = some (.slice A n c) ∧ wx.cell? ⟨w.heap.size, 5, none⟩ = some (.slice B m e)) := fun wx h1 => by
    have q1 := HP1.out.pair.new h1
    have q2 := P1.out.new h1
    obtain ⟨gc, gb, cc, cb, Ah, ch, hr⟩ := HP1.out.ref.new h1
    exact ⟨q1.cell 1, hr.c2, q2.cell 0, q2.cell 1, q2.cell 2, q2.cell 3, q2.cell 4, q2.cell 5⟩
  obtain ⟨s1, s2, s3, s4, s5, s6, s7, s8⟩ := SA.out w1 (Kept.refl _ _)
  have D1 : Hid (New w1 w1.drew) := (Kept.refl _ _).drew
  have H01d := Lib.hid (H01.out.new D1.out)
  go_wp2_with fail
  go_region_held3 (fun wx => wx.cell? ⟨gp, 1, none⟩ = some (.pointer (some ⟨gr, 0, none⟩)) ∧ wx.cell? ⟨gr, 2, none⟩ = some (.int .i64 (s.nz : Nat)) ∧ wx.cell? ⟨w.heap.size, 0, none⟩ = some (.int .i64 1) ∧ wx.cell? ⟨w.heap.size, 1, none⟩ = some (.int .i64 b) ∧ wx.cell? ⟨w.heap.size, 2, none⟩ = some (.int .i64 p) ∧ wx.cell? ⟨w.heap.size, 3, none⟩ = some (.int .u8 (f : Int)) ∧ wx.cell? ⟨w.heap.size, 4, none⟩ = some (.slice A n c) ∧ wx.cell? ⟨w.heap.size, 5, none⟩ = some (.slice B m e))
    (first
      | assumption
      | exact SA.out _ (Kept.refl _ _)
      | exact SA.out _ D1.out
      | exact SA.out _ (D1.out.new KB.out)
      | fail)
    (first
      | (go_at_call 17; refine (aBytes_any _ _ _ f l A n c _ s.nz w0 _ HZ.out HL.out HN.out HF.out H01d.out).mono ?_; rintro e wB ⟨A2, n2, c2, rfl, h1, h2, h3⟩; have BB := Lib.hid h1; have BO := Lib.hid h2; have KB := Lib.hid h3; clear h1 h2 h3))
  all_goals
    have N2 : Hid (New w1 wB) := D1.out.new KB.out
    have HP2 := Lib.hid (HP1.out.new N2.out)
    have H02 := Lib.hid (H01.out.new N2.out)
    have GC : Hid (0 < n2 → ∀ a, A2 = some a → ¬ Qc a.block) := fun h0 a ha hq => by
      have h1 := HP1.out.newc _ hq
      have h2 := HP1.out.lowc _ hq
      have h3 : w1.drew.heap.size = w1.heap.size := rfl
      rcases BO.out h0 a ha with h | h <;> omega
    have GR : Hid (0 < n2 → ∀ a, A2 = some a → ¬ Qr a.block) := fun h0 a ha hq => by
      have h1 := HP1.out.newr _ hq
      have h2 := HP1.out.lowr _ hq
      have h3 : w1.drew.heap.size = w1.heap.size := rfl
      rcases BO.out h0 a ha with h | h <;> omega
    clear SA s1 s2 s3 s4 s5 s6 s7 s8
    generalize actBy f l s.nz = L at *
    have DR : Hid (Kept Qc wB wB.drew) := (Kept.refl _ _).drew
    have SC : Hid (∀ wx wy, Kept Qc wB wx → Kept Qr wx wy → wy.cell? ⟨gp, 0, none⟩ = some (.pointer (some ⟨g, 0, none⟩)) ∧ wy.cell? ⟨gp, 1, none⟩ = some (.pointer (some ⟨gr, 0, none⟩)) ∧ wy.cell? ⟨w.heap.size, 1, none⟩ = some (.int .i64 b) ∧ wy.cell? ⟨w.heap.size, 2, none⟩ = some (.int .i64 p)) := fun wx wy h1 h2 =>
      SB.out wx wy ((N2.out.mono (S' := Qc) fun _ _ f => f.elim).trans h1 fun _ _ x => x) h2
    obtain ⟨s1, s2, s3, s4⟩ := SC.out wB wB (Kept.refl _ _) (Kept.refl _ _)
    have NC : Hid (NChip Qc wB.drew g s) := HP2.out.chip.new ((Kept.refl _ _).drew)
    have RC : Hid (∀ wx, Kept Qc wB.drew wx → RChip Qr wx gr s) := fun wx h1 => (HP2.out.ref.new ((Kept.refl _ _).drew)).kept h1 fun x h2 h3 => HP2.out.apart x h3 h2
    have BA : Hid (Bts wB.drew A2 n2 L) := BB.out
    have BC : Hid (∀ wx, Kept Qc wB.drew wx → Bts wx A2 n2 L) := fun wx h1 => by
      rcases Nat.eq_zero_or_pos n2 with h0 | h0
      · exact ⟨BB.out.1, BB.out.2.1, fun h => absurd h (by omega)⟩
      · exact BA.out.kept h1 (GC.out h0)
    clear SB D1 H01d
    go_wp2_with fail
    go_region_held3 (fun wx => wx.cell? ⟨gp, 0, none⟩ = some (.pointer (some ⟨g, 0, none⟩)) ∧ wx.cell? ⟨gp, 1, none⟩ = some (.pointer (some ⟨gr, 0, none⟩)) ∧ wx.cell? ⟨w.heap.size, 1, none⟩ = some (.int .i64 b) ∧ wx.cell? ⟨w.heap.size, 2, none⟩ = some (.int .i64 p))
      (first
        | assumption
        | exact SC.out _ _ (Kept.refl _ _) (Kept.refl _ _)
        | exact SC.out _ _ DR.out (Kept.refl _ _)
        | exact SC.out _ _ (DR.out.trans KA.out fun _ _ x => x) KC.out
        | exact SC.out _ _ (DR.out.trans KA.out fun _ _ x => x) (Kept.refl _ _)
        | fail)
      (first
        | (go_at_call 16; refine (nProg_w Qc g s b p n2 A2 c2 L _ NC.out HD.out BA.out GC.out).mono ?_; rintro e wA ⟨rfl, h1, h2⟩; have CA := Lib.hid h1; have KA := Lib.hid h2; clear h1 h2)
        | (go_at_call 28; refine (rProg_w Qr gr s b p n2 A2 c2 L _ (RC.out _ KA.out) HD.out (BC.out _ KA.out) GR.out).mono ?_; rintro e wC ⟨rfl, h1, h2⟩; have CC := Lib.hid h1; have KC := Lib.hid h2; clear h1 h2))
    all_goals
      have HE : Hid (PairX w0 wC gp (progS s b p L)) := ⟨_, _, _, _, HP2.out.step2 (DR.out.trans KA.out fun _ _ x => x) CA.out KC.out CC.out⟩
      have HKK : Hid (New w0 wC) := HP2.out.step2n H02.out (DR.out.trans KA.out fun _ _ x => x) KC.out
      go_wp2
      exact HK.out _ HE.out HKK.out

set_option maxRecDepth 100000 in
set_option maxHeartbeats 1600000 in
theorem pAct_read (w0 : World) (gp : Nat) (Qc Qr : Nat → Prop) (g gr : Nat) (s : CSt) (b p f : Int) (A B : Option Addr) (n c m e : Nat) (w : World) (hp : Pair w0 w gp Qc Qr g gr s)
    (h0 : New w0 w) (K : Ending → World → Prop) (h : ∀ w', PairX w0 w' gp s → New w0 w' → K (.returned (.bool true)) w') :
    Calls Try.prog 47 #[.pointer (some ⟨gp, 0, none⟩), .agg #[.int .i64 3, .int .i64 b, .int .i64 p, .int .u8 f, .slice A n c, .slice B m e]] w K := by
  have HP := Lib.hid hp
  have HK := Lib.hid h
  have H0 := Lib.hid h0
  have HRL : Hid ((readL s b p).length ≤ maxLen) := by
    show _ ≤ _
    have hz := hp.chip.ok.nz2
    have : (readL s b p).length ≤ s.nz := by
      unfold readL
      split
      · unfold pgL; exact List.length_take_le _ _
      · simp
    unfold maxLen
    omega
  clear hp h h0
  go_enter Try.func47, Try.ntmps47
  go_wp2_with fail
  have N1 : Hid (New w (w.alloc (.cells #[.int .i64 3, .int .i64 b, .int .i64 p, .int .u8 f, .slice A n c, .slice B m e] 33))) := (Kept.refl _ _).alloc _
  have P1 : Hid (Blk (w.alloc (.cells #[.int .i64 3, .int .i64 b, .int .i64 p, .int .u8 f, .slice A n c, .slice B m e] 33)) w.heap.size 33 [.int .i64 3, .int .i64 b, .int .i64 p, .int .u8 f, .slice A n c, .slice B m e]) := Blk.made w _ _
  generalize w.alloc (.cells #[.int .i64 3, .int .i64 b, .int .i64 p, .int .u8 f, .slice A n c, .slice B m e] 33) = w1 at *
  have HP1 := Lib.hid (HP.out.new N1.out)
  have H01 := Lib.hid (H0.out.new N1.out)
  have SB : Hid (∀ wx, New w1 wx → wx.cell? ⟨gp, 0, none⟩ = some (.pointer (some ⟨g, 0, none⟩)) ∧ wx.cell? ⟨gp, 1, none⟩ = some (.pointer (some ⟨gr, 0, none⟩)) ∧ wx.cell? ⟨w.heap.size, 1, none⟩ = some (.int .i64 b) ∧ wx.cell? ⟨w.heap.size, 2, none⟩ = some (.int .i64 p)) := fun wx h1 =>
    have q1 := HP1.out.pair.new h1
    have q2 := P1.out.new h1
    ⟨q1.cell 0, q1.cell 1, q2.cell 1, q2.cell 2⟩
  obtain ⟨s1, s2, s3, s4⟩ := SB.out w1 (Kept.refl _ _)
  have D1 : Hid (New w1 w1.drew) := (Kept.refl _ _).drew
  have NC : Hid (NChip Qc w1.drew g s) := HP1.out.chip.new D1.out
  go_wp2_with fail
  go_region_held3 (fun wx => wx.cell? ⟨gp, 0, none⟩ = some (.pointer (some ⟨g, 0, none⟩)) ∧ wx.cell? ⟨gp, 1, none⟩ = some (.pointer (some ⟨gr, 0, none⟩)) ∧ wx.cell? ⟨w.heap.size, 1, none⟩ = some (.int .i64 b) ∧ wx.cell? ⟨w.heap.size, 2, none⟩ = some (.int .i64 p))
    (first
      | assumption
      | exact SB.out _ (Kept.refl _ _)
      | exact SB.out _ D1.out
      | exact SB.out _ (D1.out.new KB.out)
      | fail)
    (first
      | (go_at_call 22; refine (nRead_any Qc g s b p _ NC.out).mono ?_; rintro e wB ⟨A2, c2, rfl, h1, h2⟩; have BB := Lib.hid h1; have KB := Lib.hid h2; clear h1 h2))
  all_goals
    have N2 : Hid (New w1 wB) := D1.out.new KB.out
    have D2 : Hid (New wB wB.drew) := (Kept.refl _ _).drew
    have RC : Hid (RChip Qr wB.drew gr s) := (HP1.out.ref.new N2.out).new D2.out
    have SC : Hid (∀ wx, New wB wx → wx.cell? ⟨gp, 0, none⟩ = some (.pointer (some ⟨g, 0, none⟩)) ∧ wx.cell? ⟨gp, 1, none⟩ = some (.pointer (some ⟨gr, 0, none⟩)) ∧ wx.cell? ⟨w.heap.size, 1, none⟩ = some (.int .i64 b) ∧ wx.cell? ⟨w.heap.size, 2, none⟩ = some (.int .i64 p)) := fun wx h1 => SB.out _ (N2.out.new h1)
    clear SB D1 NC s1 s2 s3 s4
    obtain ⟨s1, s2, s3, s4⟩ := SC.out wB (Kept.refl _ _)
    go_wp2_with fail
    go_region_held3 (fun wx => wx.cell? ⟨gp, 0, none⟩ = some (.pointer (some ⟨g, 0, none⟩)) ∧ wx.cell? ⟨gp, 1, none⟩ = some (.pointer (some ⟨gr, 0, none⟩)) ∧ wx.cell? ⟨w.heap.size, 1, none⟩ = some (.int .i64 b) ∧ wx.cell? ⟨w.heap.size, 2, none⟩ = some (.int .i64 p))
      (first
        | assumption
        | exact SC.out _ (Kept.refl _ _)
        | exact SC.out _ D2.out
        | exact SC.out _ (D2.out.new KC.out)
        | fail)
      (first
        | (go_at_call 98; refine (rRead_any Qr gr s b p _ RC.out).mono ?_; rintro e wC ⟨A3, c3, rfl, h1, h2⟩; have BC := Lib.hid h1; have KC := Lib.hid h2; clear h1 h2))
    all_goals
      have N3 : Hid (New wB wC) := D2.out.new KC.out
      have N4 : Hid (New w1 wC) := N2.out.new N3.out
      have B3 : Hid (Bts wC A2 (readL s b p).length (readL s b p)) := BB.out.bts.new N3.out
      have B4 : Hid (Bts wC A3 (readL s b p).length (readL s b p)) := BC.out.bts
      generalize readL s b p = L at *
      clear SC s1 s2 s3 s4
      go_wp2_with fail
      refine (same_eq _ _ _ _ _ L _ B3.out B4.out HRL.out).mono ?_
      rintro e w' ⟨q, rfl, hS⟩
      have HW : Hid (New w1 w') := by rw [hS]; exact N4.out.drewN q
      clear hS
      go_wp2
      exact HK.out _ ⟨_, _, _, _, HP1.out.new HW.out⟩ (H01.out.new HW.out)

set_option maxRecDepth 100000 in
set_option maxHeartbeats 1600000 in
theorem pAct_hits (w0 : World) (gp : Nat) (Qc Qr : Nat → Prop) (g gr : Nat) (s : CSt) (b p f : Int) (A B : Option Addr) (n c m e : Nat) (hs : List HitI) (w : World) (hp : Pair w0 w gp Qc Qr g gr s) (hl : HitsA w0 B m hs) (hB : B = none → e = 0 ∧ m = 0) (hm : m * 40 ≤ 140737488351232)
    (h0 : New w0 w) (K : Ending → World → Prop) (h : ∀ w', PairX w0 w' gp (hitsS s hs) → New w0 w' → K (.returned (.bool true)) w') :
    Calls Try.prog 47 #[.pointer (some ⟨gp, 0, none⟩), .agg #[.int .i64 4, .int .i64 b, .int .i64 p, .int .u8 f, .slice A n c, .slice B m e]] w K := by
  have HP := Lib.hid hp
  have HK := Lib.hid h
  have H0 := Lib.hid h0
  have HL := Lib.hid hl
  have HB := Lib.hid hB
  have HM := Lib.hid hm
  clear hp h h0 hl hB hm
  go_enter Try.func47, Try.ntmps47
  go_wp2_with fail
  have N1 : Hid (New w (w.alloc (.cells #[.int .i64 4, .int .i64 b, .int .i64 p, .int .u8 f, .slice A n c, .slice B m e] 33))) := (Kept.refl _ _).alloc _
  have P1 : Hid (Blk (w.alloc (.cells #[.int .i64 4, .int .i64 b, .int .i64 p, .int .u8 f, .slice A n c, .slice B m e] 33)) w.heap.size 33 [.int .i64 4, .int .i64 b, .int .i64 p, .int .u8 f, .slice A n c, .slice B m e]) := Blk.made w _ _
  generalize w.alloc (.cells #[.int .i64 4, .int .i64 b, .int .i64 p, .int .u8 f, .slice A n c, .slice B m e] 33) = w1 at *
  have HP1 := Lib.hid (HP.out.new N1.out)
  have H01 := Lib.hid (H0.out.new N1.out)
  have nc : ¬ Qc w.heap.size := fun q => absurd (HP.out.lowc _ q) (Nat.lt_irrefl _)
  have nr : ¬ Qr w.heap.size := fun q => absurd (HP.out.lowr _ q) (Nat.lt_irrefl _)
  have SB : Hid (∀ wx wy, Kept Qc w1 wx → Kept Qr wx wy → wy.cell? ⟨gp, 0, none⟩ = some (.pointer (some ⟨g, 0, none⟩)) ∧ wy.cell? ⟨gp, 1, none⟩ = some (.pointer (some ⟨gr, 0, none⟩)) ∧ wy.cell? ⟨w.heap.size, 5, none⟩ = some (.slice B m e)) := fun wx wy h1 h2 =>
    have q1 := (HP1.out.pair.kept h1 HP1.out.pc).kept h2 HP1.out.pr
    have q2 := (P1.out.kept h1 nc).kept h2 nr
    ⟨q1.cell 0, q1.cell 1, q2.cell 5⟩
  have NC : Hid (NChip Qc w1.drew g s) := HP1.out.chip.new ((Kept.refl _ _).drew)
  have RC : Hid (∀ wx, Kept Qc w1.drew wx → RChip Qr wx gr s) := fun wx h1 => (HP1.out.ref.new ((Kept.refl _ _).drew)).kept h1 fun x h2 h3 => HP1.out.apart x h3 h2
  have DR : Hid (Kept Qc w1 w1.drew) := (Kept.refl _ _).drew
  have HL1 : Hid (HitsA w1.drew B m hs) := (HL.out.new_ H01.out).new_ ((Kept.refl _ _).drew)
  have HLR : Hid (∀ wx, Kept Qc w1.drew wx → ∃ vs, RowV wx B m 3 vs ∧ (∀ (i : Nat) (x : HitI), hs[i]? = some x → HitCell wx vs i x) ∧ (0 < m → ∀ a, B = some a → a.block ≠ gr) ∧ (∀ i a m c, 0 < m → vs[3 * i + 2]? = some (.slice (some a) m c) → a.block ≠ gr)) := fun wx h1 => by
    have k2 : New w0 wx := new_of_kept (H01.out.new ((Kept.refl _ _).drew)) h1 HP1.out.newc
    obtain ⟨q1, q2, vs, q3, q4, q5⟩ := HL.out
    obtain ⟨gc, gb, cc, cb, Ah, ch, hr⟩ := HP1.out.ref
    have hgr := HP1.out.newr _ hr.qg
    refine ⟨vs, q3.new k2, fun i x hx => (q5 i x hx).new k2, fun h0 a ha => by have := q3.old h0 (by omega) a ha; omega, fun i a m' c' h0 hv => ?_⟩
    have hi : i < hs.length := by
      have := (List.getElem?_eq_some_iff.1 hv).1
      rw [q3.1] at this
      omega
    obtain ⟨_, _, A', c'', c3, c4, _⟩ := q5 i _ (List.getElem?_eq_getElem hi)
    rw [c3] at hv
    injection hv with hv
    injection hv with e1 e2 e3
    subst e1
    have := c4.old (by omega) a rfl
    omega
  obtain ⟨s1, s2, s3⟩ := SB.out w1 w1 (Kept.refl _ _) (Kept.refl _ _)
  go_wp2_with fail
  go_region_held3 (fun wx => wx.cell? ⟨gp, 0, none⟩ = some (.pointer (some ⟨g, 0, none⟩)) ∧ wx.cell? ⟨gp, 1, none⟩ = some (.pointer (some ⟨gr, 0, none⟩)) ∧ wx.cell? ⟨w.heap.size, 5, none⟩ = some (.slice B m e))
    (first
      | assumption
      | exact SB.out _ _ (Kept.refl _ _) (Kept.refl _ _)
      | exact SB.out _ _ DR.out (Kept.refl _ _)
      | exact SB.out _ _ (DR.out.trans KA.out fun _ _ x => x) KB.out
      | exact SB.out _ _ (DR.out.trans KA.out fun _ _ x => x) (Kept.refl _ _)
      | fail)
    (first
      | (go_at_call 21; refine (nHits_any Qc g s B m e hs _ NC.out HL1.out HB.out HM.out).mono ?_; rintro e wA ⟨rfl, h1, h2⟩; have CA := Lib.hid h1; have KA := Lib.hid h2; clear h1 h2)
      | (go_at_call 25; obtain ⟨vs, v1, v2, v3, v4⟩ := HLR.out _ KA.out; refine (rStrike_any Qr gr s B m e hs vs _ (RC.out _ KA.out) HL.out.1 HL.out.2.1 v1 v2 HM.out v3 v4).mono ?_; clear v1 v2 v3 v4; rintro e wB ⟨rfl, h1, h2⟩; have CB := Lib.hid h1; have KB := Lib.hid h2; clear h1 h2))
  all_goals
    have k1 : Hid (Kept Qc w1 wA) := DR.out.trans KA.out fun _ _ x => x
    have hsz : Hid (w1.heap.size ≤ wA.heap.size) := k1.out.size
    have hsz2 : Hid (w1.drew.heap.size = w1.heap.size) := rfl
    have hsz3 : Hid (wA.heap.size ≤ wB.heap.size) := KB.out.size
    have HE : Hid (PairX w0 wB gp (hitsS s hs)) := by
      refine ⟨fun b => Qc b ∨ (w1.drew.heap.size ≤ b ∧ b < wA.heap.size), fun b => Qr b ∨ (wA.heap.size ≤ b ∧ b < wB.heap.size), g, gr, ?_⟩
      have hgp := HP1.out.pair.lt
      have h01 := H01.out.size
      have z1 := hsz.out
      have z2 := hsz2.out
      exact { pair := (HP1.out.pair.kept k1.out HP1.out.pc).kept KB.out HP1.out.pr, newp := HP1.out.newp,
              chip := CA.out.kept KB.out fun x h1 h2 => by
                rcases h1 with h1 | h1
                · exact HP1.out.apart x h1 h2
                · have := HP1.out.lowr x h2; omega
              ref := CB.out
              apart := fun x h1 h2 => by
                rcases h1 with h1 | h1
                · rcases h2 with h2 | h2
                  · exact HP1.out.apart x h1 h2
                  · have := HP1.out.lowc x h1; omega
                · rcases h2 with h2 | h2
                  · have := HP1.out.lowr x h2; omega
                  · omega
              newc := fun x h1 => by
                rcases h1 with h1 | h1
                · exact HP1.out.newc x h1
                · omega
              newr := fun x h1 => by
                rcases h1 with h1 | h1
                · exact HP1.out.newr x h1
                · omega
              pc := fun h1 => by
                rcases h1 with h1 | h1
                · exact HP1.out.pc h1
                · omega
              pr := fun h1 => by
                rcases h1 with h1 | h1
                · exact HP1.out.pr h1
                · omega }
    have HKK : Hid (New w0 wB) := HP1.out.step2n H01.out k1.out KB.out
    go_wp2
    exact HK.out _ HE.out HKK.out

set_option maxRecDepth 100000 in
set_option maxHeartbeats 1600000 in
theorem pAct_pow (w0 : World) (gp : Nat) (Qc Qr : Nat → Prop) (g gr : Nat) (s : CSt) (b p f : Int) (A B : Option Addr) (n c m e : Nat) (w : World) (hp : Pair w0 w gp Qc Qr g gr s)
    (h0 : New w0 w) (K : Ending → World → Prop) (h : ∀ w', PairX w0 w' gp (powS s) → New w0 w' → K (.returned (.bool true)) w') :
    Calls Try.prog 47 #[.pointer (some ⟨gp, 0, none⟩), .agg #[.int .i64 5, .int .i64 b, .int .i64 p, .int .u8 f, .slice A n c, .slice B m e]] w K := by
  have HP := Lib.hid hp
  have HK := Lib.hid h
  have H0 := Lib.hid h0
  have s1 : w.cell? ⟨gp, 0, none⟩ = some (.pointer (some ⟨g, 0, none⟩)) := hp.pair.cell 0
  have hlp := hp.pair.lt
  clear hp h h0
  go_enter Try.func47, Try.ntmps47
  go_wp2_with fail
  have N1 : Hid (New w (w.alloc (.cells #[.int .i64 5, .int .i64 b, .int .i64 p, .int .u8 f, .slice A n c, .slice B m e] 33))) := (Kept.refl _ _).alloc _
  have P1 : Hid (Blk (w.alloc (.cells #[.int .i64 5, .int .i64 b, .int .i64 p, .int .u8 f, .slice A n c, .slice B m e] 33)) w.heap.size 33 [.int .i64 5, .int .i64 b, .int .i64 p, .int .u8 f, .slice A n c, .slice B m e]) := Blk.made w _ _
  generalize w.alloc (.cells #[.int .i64 5, .int .i64 b, .int .i64 p, .int .u8 f, .slice A n c, .slice B m e] 33) = w1 at *
  have HP1 := Lib.hid (HP.out.new N1.out)
  have H01 := Lib.hid (H0.out.new N1.out)
  refine (nPower_any Qc g s _ HP1.out.chip).mono ?_
  rintro e wA ⟨g2, Q2, rfl, h1, h2, h3⟩
  have CA := Lib.hid h1
  have LA := Lib.hid h2
  have KA := Lib.hid h3
  clear h1 h2 h3 s1 hlp
  have hBA : Hid (Blk wA gp 37 [.pointer (some ⟨g, 0, none⟩), .pointer (some ⟨gr, 0, none⟩)]) := HP1.out.pair.new KA.out
  have fA0 := hBA.out.free 0
  have hgpA := hBA.out.lt
  have hBS : Hid (Blk (wA.setCell ⟨gp, 0, none⟩ (.pointer (some ⟨g2, 0, none⟩))) gp 37 [.pointer (some ⟨g2, 0, none⟩), .pointer (some ⟨gr, 0, none⟩)]) := hBA.out.put 0 _
  have hKS : Hid (Kept (· = gp) wA (wA.setCell ⟨gp, 0, none⟩ (.pointer (some ⟨g2, 0, none⟩)))) := Kept.set1 _ _ _ _
  have cA0 : wA.cell? ⟨gp, 0, none⟩ = some (.pointer (some ⟨g, 0, none⟩)) := hBA.out.cell 0
  have cA1 : wA.cell? ⟨gp, 1, none⟩ = some (.pointer (some ⟨gr, 0, none⟩)) := hBA.out.cell 1
  have nQ2 : Hid (¬ Q2 gp) := fun q => by have := LA.out _ q; have := HP1.out.pair.lt; omega
  have CS : Hid (NChip Q2 (wA.setCell ⟨gp, 0, none⟩ (.pointer (some ⟨g2, 0, none⟩))) g2 (powS s)) := CA.out.kept hKS.out fun x h1 h2 => nQ2.out (h2 ▸ h1)
  have RS : Hid (RChip Qr (wA.setCell ⟨gp, 0, none⟩ (.pointer (some ⟨g2, 0, none⟩))) gr s) := (HP1.out.ref.new KA.out).kept hKS.out fun x h1 h2 => HP1.out.pr (h2 ▸ h1)
  go_wp2_with fail
  refine (rPower_any Qr gr s _ RS.out).mono ?_
  rintro e wB ⟨g3, Q3, rfl, h1, h2, h3⟩
  have CB := Lib.hid h1
  have LB := Lib.hid h2
  have KB := Lib.hid h3
  clear h1 h2 h3 cA0 cA1 fA0 hgpA
  have hBB := Lib.hid (hBS.out.new KB.out)
  have fB1 := hBB.out.free 1
  have cB1 : wB.cell? ⟨gp, 1, none⟩ = some (.pointer (some ⟨gr, 0, none⟩)) := hBB.out.cell 1
  have hgpB := hBB.out.lt
  have hKT : Hid (Kept (· = gp) wB (wB.setCell ⟨gp, 1, none⟩ (.pointer (some ⟨g3, 0, none⟩)))) := Kept.set1 _ _ _ _
  have hBT : Hid (Blk (wB.setCell ⟨gp, 1, none⟩ (.pointer (some ⟨g3, 0, none⟩))) gp 37 [.pointer (some ⟨g2, 0, none⟩), .pointer (some ⟨g3, 0, none⟩)]) := hBB.out.put 1 _
  have HE : Hid (PairX w0 (wB.setCell ⟨gp, 1, none⟩ (.pointer (some ⟨g3, 0, none⟩))) gp (powS s)) := by
    have z1 := KA.out.size
    have z2 := H01.out.size
    have z3 := HP1.out.pair.lt
    have z4 := hKS.out.size
    refine ⟨Q2, Q3, g2, g3, ?_⟩
    have nQ3 : ¬ Q3 gp := fun q => by have := LB.out _ q; omega
    exact { pair := hBT.out, newp := HP1.out.newp, chip := (CS.out.new KB.out).kept hKT.out fun x h1 h2 => nQ2.out (h2 ▸ h1), ref := CB.out.kept hKT.out fun x h1 h2 => nQ3 (h2 ▸ h1),
            apart := fun x h1 h2 => by have := CS.out.low x h1; have := LB.out x h2; omega, newc := fun x h1 => by have := LA.out x h1; omega, newr := fun x h1 => by have := LB.out x h1; omega, pc := nQ2.out, pr := nQ3 }
  have HKK : Hid (New w0 (wB.setCell ⟨gp, 1, none⟩ (.pointer (some ⟨g3, 0, none⟩)))) := by
    have n1 : New w0 wA := H01.out.new KA.out
    have hge := HP1.out.newp
    have n2 := new_of_kept n1 hKS.out (fun b hb => by subst hb; exact hge)
    exact new_of_kept (n2.new KB.out) hKT.out (fun b hb => by subst hb; exact hge)
  go_wp2
  exact HK.out _ HE.out HKK.out
end Go.Proofs.Ytfhngcnphcjmgaa
