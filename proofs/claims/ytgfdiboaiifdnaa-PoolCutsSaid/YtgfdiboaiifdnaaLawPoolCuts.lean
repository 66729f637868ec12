/-
  PoolCuts: wherever the power is cut while a block is taken or freed, all other blocks are what they were, and that one is taken, or not: for every number of pages, every list of acts (the first 40), every block, place of the cut and mask.
-/
import Derived.Test.YtgfdiboaiifdnaaIb
namespace Go.Proofs.Ytgfdiboaiifdnaa.poolCuts
open Go.ChangeShapes Go.WideShapes Go.ChangeAt Go.RowKit

theorem own : ownKnob Try.prog.godebug = none := by kernel_rfl
theorem laidOut : laidOutB Try.prog = true := by kernel_rfl

theorem refL_hits (s : CSt) (hs : List HitI) : ∀ k, refL (hitsS s hs) k = refL s k := by
  intro k
  unfold hitsS
  split
  · induction k with
    | zero => rfl
    | succ k ih =>
      simp only [refL]
      rw [ih]
      rfl
  · rfl

/-- The list that is told behind a cut, for the list that was told ahead. -/
structure CutOk (l l' : List TK) (mine : Int) (d : Nat) : Prop where
  mem : ∀ t ∈ l, (t.b : Int) ≠ mine → t ∈ l'
  len : l'.length ≤ l.length + d

theorem cut_keep {s s2 : CSt} {j : Nat} (h : Keeps s s2 j) (ok : s.Ok) (ok2 : (powS s2).Ok) (hd : s.dead = false) : ∀ t ∈ refL s s.nb, t.b ≠ j → t ∈ refL (powS s2) (powS s2).nb :=
  fun _ ht hne => h.pow.mem ok ok2 hd rfl ht hne

theorem cut_len {s s2 : CSt} {j : Nat} (h : Keeps s s2 j) (ok : s.Ok) (ok2 : (powS s2).Ok) (hd : s.dead = false) : (refL (powS s2) (powS s2).nb).length ≤ (refL s s.nb).length + (if j < s.nb then 1 else 0) := by
  have := tkC_len1 h.pow ok ok2 hd rfl s.nb (Nat.le_refl _)
  rw [refL_len, refL_len, show (powS s2).nb = s.nb from h.nb]
  exact this

theorem cut_take {s : CSt} {p : PSt} (ok : s.Ok) (hg : Good s p) (hnf : NoFail s) (hlen : p.bl.length = s.nb) (hnx : p.next < s.nb) (hdd : s.deeds + 2 * s.nb < 4611686018427387903) (hll : p.last + s.nb < 18446744073709551614) (ok2 : (powS (takeR 1 9 s p).s).Ok) :
    CutOk (refL s s.nb) (refL (powS (takeR 1 9 s p).s) (powS (takeR 1 9 s p).s).nb) (-1) 1 ∧ StepR s p (takeR 1 9 s p).s (takeR 1 9 s p).p := by
  have hv : (1 ≤ 1 ∧ 1 ≤ 3) ∧ 1 ≤ 9 := ⟨⟨Nat.le_refl _, by omega⟩, by omega⟩
  have HTA := take_all (k := 1) (e := 9) ok hg hlen hnx hdd (by omega) (by omega) hv
  refine ⟨?_, HTA.2.2⟩
  rcases take_calm (k := 1) (e := 9) ok hg hnf hlen hnx hdd hll (by omega) hv with ⟨_, es, _, _⟩ | ⟨j, hj, hfj, hK, _⟩
  · have hK : Keeps s (takeR 1 9 s p).s s.nb := by rw [es]; exact Keeps.refl _ _
    refine ⟨fun t ht _ => cut_keep hK ok ok2 hg.live t ht ?_, ?_⟩
    · obtain ⟨i, hi, _, rfl⟩ := (mem_refL _).1 ht
      exact Nat.ne_of_lt hi
    · have := cut_len hK ok ok2 hg.live
      rw [if_neg (Nat.lt_irrefl _)] at this
      omega
  · refine ⟨fun t ht _ => cut_keep hK ok ok2 hg.live t ht ?_, ?_⟩
    · obtain ⟨i, _, hw, rfl⟩ := (mem_refL _).1 ht
      intro e
      exact (frV_no hg hj hfj).1 (by rw [← e]; exact hw)
    · have := cut_len hK ok ok2 hg.live
      rw [if_pos hj] at this
      exact this

theorem cut_free {s : CSt} {p : PSt} {b : Nat} (ok : s.Ok) (hg : Good s p) (hlen : p.bl.length = s.nb) (hdd : s.deeds < 4611686018427387904) (ok2 : (powS (freeR s p b).s).Ok) :
    CutOk (refL s s.nb) (refL (powS (freeR s p b).s) (powS (freeR s p b).s).nb) (b : Int) 0 ∧ StepR s p (freeR s p b).s (freeR s p b).p := by
  by_cases hth : thereV s p b
  · obtain ⟨a1, a2, _, _⟩ := free_all ok hg hlen hdd hth
    refine ⟨⟨fun t ht hne => cut_keep a2 ok ok2 hg.live t ht (by omega), ?_⟩, a1⟩
    have hb : b < s.nb := by have := hth.1.2; omega
    have hw : (lookV s b).w = 1 := by
      have h1 : isV s p b = 1 := by simpa using hth.2
      rw [isV_of hg.ag hb] at h1
      split at h1
      · cases h1
      · exact h1
    have := tkC_len0 a2.pow ok ok2 hg.live rfl hw s.nb (Nat.le_refl _)
    rw [refL_len, refL_len, show (powS (freeR s p b).s).nb = s.nb from a2.nb]
    exact this
  · have es := free_no hth
    rw [es] at ok2 ⊢
    have hK : Keeps s s s.nb := Keeps.refl _ _
    refine ⟨⟨fun t ht _ => cut_keep hK ok ok2 hg.live t ht ?_, ?_⟩, StepR.refl hg⟩
    · obtain ⟨i, hi, _, rfl⟩ := (mem_refL _).1 ht
      exact Nat.ne_of_lt hi
    · have := cut_len hK ok ok2 hg.live
      rw [if_neg (Nat.lt_irrefl _)] at this
      exact this

/-- Is t among the first k of l? -/
def Fd (l : List TK) (t : TK) (k : Nat) (f : Bool) : Prop := f = true ↔ ∃ m, m < k ∧ l[m]? = some t
theorem Fd.zero (l : List TK) (t : TK) : Fd l t 0 false := ⟨fun h => (by cases h), fun ⟨m, hm, _⟩ => (by omega)⟩
theorem Fd.no {l : List TK} {t x : TK} {k : Nat} (h : Fd l t k false) (hx : l[k]? = some x) (hne : x ≠ t) : Fd l t (k + 1) false := by
  refine ⟨fun h => (by cases h), fun ⟨m, hm, hmx⟩ => ?_⟩
  by_cases e : m = k
  · subst e
    rw [hx] at hmx
    injection hmx with hmx
    exact absurd hmx hne
  · exact h.2 ⟨m, by omega, hmx⟩
theorem Fd.yes {l : List TK} {t : TK} {k : Nat} (hx : l[k]? = some t) : Fd l t (k + 1) true := ⟨fun _ => ⟨k, Nat.lt_succ_self k, hx⟩, fun _ => rfl⟩
theorem Fd.more {l : List TK} {t : TK} {k : Nat} (h : Fd l t k true) : Fd l t (k + 1) true := by
  obtain ⟨m, hm, hx⟩ := h.1 rfl
  exact ⟨fun _ => ⟨m, Nat.lt_succ_of_lt hm, hx⟩, fun _ => rfl⟩
theorem Fd.all {l : List TK} {t : TK} {f : Bool} (h : Fd l t l.length f) : f = true ↔ t ∈ l := by
  rw [List.mem_iff_getElem?]
  refine h.trans ⟨fun ⟨m, _, hx⟩ => ⟨m, hx⟩, fun ⟨m, hx⟩ => ⟨m, (List.getElem?_eq_some_iff.1 hx).1, hx⟩⟩
theorem tkC_le (s : CSt) : ∀ k, (tkC s k).length ≤ k := by
  intro k
  induction k with
  | zero => exact Nat.le_refl _
  | succ k ih =>
    simp only [tkC, List.length_append]
    have : (if (lookV s k).w = 1 then [tkOf s k] else []).length ≤ 1 := by split <;> simp
    omega

set_option maxRecDepth 100000 in
set_option maxHeartbeats 6400000 in
theorem walk (pages : Nat) (A : Option Addr) (n c : Nat) (al : List Act4) (free : Bool) (block after : Nat) (Am : Option Addr) (nm cm : Nat) (lm : List Nat) (w : World) (hpg : pages < 256)
    (hA : Acts4 w A n al) (hn : n ≤ c ∧ c ≤ maxLen) (hbk : block < 256) (haf : after < 256) (hM : IsB w (.slice Am nm cm) Am nm cm lm) :
    Calls Try.prog 5 #[.int .u8 (pages : Nat), .slice A n c, .bool free, .int .u8 (block : Nat), .int .u8 (after : Nat), .slice Am nm cm] w (True1 w) := by
  have HW := Lib.hid (played_any pages none 0 0 [] A n c al w hpg ⟨rfl, by simp, [], RowV.nil _ _ _, by simp, by simp⟩ (fun _ => ⟨rfl, rfl⟩) (by decide) hA hn)
  have HM := Lib.hid hM
  obtain ⟨r, hr⟩ : ∃ r, r = after % 3 := ⟨_, rfl⟩
  have m1 : Int.tmod (after : Int) 3 = (r : Int) := by rw [hr, Int.tmod_eq_emod_of_nonneg (by omega), Int.natCast_emod]; rfl
  have m2 : (after : Int) % 3 = (r : Int) := by rw [hr, Int.natCast_emod]; rfl
  have hr3 : r < 3 := by omega
  obtain ⟨rb, hrb⟩ : ∃ rb, rb = block % 8 := ⟨_, rfl⟩
  have m3 : Int.tmod (block : Int) 8 = (rb : Int) := by rw [hrb, Int.tmod_eq_emod_of_nonneg (by omega), Int.natCast_emod]; rfl
  have m4 : (block : Int) % 8 = (rb : Int) := by rw [hrb, Int.natCast_emod]; rfl
  have hrb3 : rb < 8 := by omega
  clear hpg hA hn hr hrb hM
  go_enter Try.func5, Try.ntmps5
  go_wp2_with fail
  refine HW.out.mono ?_
  rintro e w1 ⟨g, gp, rfl, Q, gb, s, p, h1, h2, h3, h4⟩
  have P1 := Lib.hid h1
  have HQ1 : Hid (∀ b, PoolQ Q gp gb b → w.heap.size ≤ b) := h2
  have N1 := Lib.hid h3
  have S1 := Lib.hid h4
  have HC := Lib.hid (h4.calm (by first | rfl | trivial))
  have HG : Hid (Good s p) := h4.live (h4.calm (by first | rfl | trivial)).2
  have H19 : Hid (s.nb ≤ 19) := by have := h4.nb; show _ ≤ _; omega
  clear h1 h2 h3 h4 HW
  go_wp2_with fail
  refine (pTaken_any _ _ _ _ _ _ _ P1.out H19.out).mono ?_
  rintro e2 w2 ⟨At, ct, rfl, h1, h2⟩
  rw [tkn_ref P1.out.chip.ok HG.out] at h1 ⊢
  have P2 := Lib.hid (P1.out.new h2)
  have N2 := Lib.hid (N1.out.new h2)
  have V2 := Lib.hid h1
  have HL2 : Hid (∀ a, At = some a → w1.heap.size ≤ a.block ∧ a.block < w2.heap.size) := fun a ha => ⟨(h1.at_ a ha).2, (h1.at_ a ha).1.lt⟩
  have HLW : Hid (∀ b, PoolQ Q gp gb b → b < w1.heap.size) := P1.out.lowq
  have hcap : (refL s s.nb).length ≤ maxLen := Nat.le_trans h1.2.1 h1.2.2.1
  unfold maxLen at hcap
  clear h1 h2 P1 N1
  go_wp2_with fail
  obtain ⟨w3, hw3⟩ : ∃ w3, w3 = w2.alloc (.cells #[.int .i64 (r : Nat), .bool false, .slice Am nm cm] 51) := ⟨_, rfl⟩
  have B3 : Hid (Blk w3 w2.heap.size 51 [.int .i64 (r : Nat), .bool false, .slice Am nm cm]) := by rw [hw3]; exact Blk.made w2 _ _
  have K23 : Hid (New w2 w3) := by rw [hw3]; exact (Kept.refl _ _).alloc _
  have HW3 := Lib.hid hw3
  clear hw3
  rw [← HW3.out]
  clear HW3
  have N3 := Lib.hid (N2.out.new K23.out)
  have P3 := Lib.hid (P2.out.new K23.out)
  have V3 := Lib.hid (V2.out.new K23.out)
  have HL3 : Hid (∀ a, At = some a → w1.heap.size ≤ a.block ∧ a.block < w3.heap.size) := fun a ha => ⟨(HL2.out a ha).1, Nat.lt_of_lt_of_le (HL2.out a ha).2 K23.out.size⟩
  have hmlen : lm.length = nm := HM.out.bts.1
  have HHA : Hid (HitsA w3 (some ⟨w2.heap.size, 0, none⟩) 1 [⟨(r : Nat), false, lm⟩]) := by
    refine ⟨rfl, fun h hh => ?_, [.int .i64 (r : Nat), .bool false, .slice Am nm cm], ⟨rfl, fun _ => ⟨w2.heap.size, 0, rfl, fun j v hv => ?_⟩⟩, fun u hu => ?_, fun i h hh => ?_⟩
    · rw [List.mem_singleton.1 hh]
      exact ⟨by show (r : Int) ≤ _; omega, by show _ ≤ (r : Int); omega, HM.out.bts.2.1, by show lm.length ≤ _; have := HM.out.le; have := HM.out.cap; omega⟩
    · rw [Nat.zero_add, B3.out.cell]; exact hv
    · simp only [List.mem_cons, List.not_mem_nil, or_false] at hu
      rcases hu with rfl | rfl | rfl <;> rfl
    · cases i with
      | zero =>
        obtain rfl : (⟨(r : Nat), false, lm⟩ : HitI) = h := by simpa using hh
        refine ⟨rfl, rfl, Am, cm, ?_, ?_, ?_, ?_, ?_⟩
        · show some (Value.slice Am nm cm) = some (.slice Am lm.length cm)
          rw [hmlen]
        · show Bts w3 Am lm.length lm
          rw [hmlen]
          exact HM.out.bts.new N3.out
        · show Am = none → cm = 0 ∧ lm.length = 0
          rw [hmlen]
          exact HM.out.nil
        · show lm.length ≤ cm
          rw [hmlen]
          exact HM.out.le
        · have := HM.out.cap
          unfold maxLen
          omega
      | succ i => simp at hh
  clear P2 N2 V2 HL2 B3 K23
  refine (nHits_any Q g _ (some ⟨w2.heap.size, 0, none⟩) 1 1 [⟨(r : Nat), false, lm⟩] _ P3.out.chip HHA.out (fun h => by cases h) (by decide)).mono ?_
  rintro e4 w4 ⟨rfl, h1, h2⟩
  have hsame := hitsS_same s [⟨(r : Nat), false, lm⟩]
  have P4 := Lib.hid (P3.out.rehit h2 h1 hsame.1)
  have N4 : Hid (New w w4) := new_of_kept N3.out h2 fun b hb => HQ1.out b (.inl hb)
  have V4 : Hid (OwnV w4 42 5 w1.heap.size At (refL s s.nb).length ct (tRow (refL s s.nb) [])) := V3.out.kept h2 fun a ha hb => by
    have h3 := HLW.out _ (.inl hb)
    have h4 := (HL3.out a ha).1
    omega
  have HQ4 : Hid (∀ b, PoolQ (fun b => Q b ∨ (w3.heap.size ≤ b ∧ b < w4.heap.size)) gp gb b → w.heap.size ≤ b ∧ ∀ a, At = some a → b ≠ a.block) := by
    have hz := N3.out.size
    rintro b ((hb | hb) | rfl | rfl)
    · exact ⟨HQ1.out b (.inl hb), fun a ha => by have h3 := HLW.out _ (.inl hb); have h4 := (HL3.out a ha).1; omega⟩
    · exact ⟨by omega, fun a ha => by have h4 := (HL3.out a ha).2; omega⟩
    · exact ⟨HQ1.out _ (.inr (.inl rfl)), fun a ha => by have h3 := HLW.out _ (.inr (.inl rfl)); have h4 := (HL3.out a ha).1; omega⟩
    · exact ⟨HQ1.out _ (.inr (.inr rfl)), fun a ha => by have h3 := HLW.out _ (.inr (.inr rfl)); have h4 := (HL3.out a ha).1; omega⟩
  have HNF : Hid (NoFail (hitsS s [⟨(r : Nat), false, lm⟩])) := by
    intro x hx
    unfold hitsS at hx
    split at hx
    · obtain ⟨y, hy, rfl⟩ := List.mem_map.1 hx
      rw [List.mem_singleton.1 hy]
      rfl
    · rw [HC.out.1] at hx; cases hx
  have HG4 := Lib.hid (HG.out.hits [⟨(r : Nat), false, lm⟩])
  have HRL : Hid (refL (hitsS s [⟨(r : Nat), false, lm⟩]) (hitsS s [⟨(r : Nat), false, lm⟩]).nb = refL s s.nb) := by rw [Hid, hsame.1]; exact refL_hits _ _ _
  have HB4 : Hid ((hitsS s [⟨(r : Nat), false, lm⟩]).nb = 8 ∧ (hitsS s [⟨(r : Nat), false, lm⟩]).deeds ≤ 680 ∧ p.last ≤ 320) := ⟨hsame.1.trans S1.out.nb, by rw [hsame.2.2.2.1]; exact S1.out.dd, S1.out.l2⟩
  generalize (fun b => Q b ∨ (w3.heap.size ≤ b ∧ b < w4.heap.size)) = Q4 at *
  generalize hitsS s [⟨(r : Nat), false, lm⟩] = s1 at *
  have HB19 : Hid (s.nb = 8) := S1.out.nb
  clear h1 h2 hsame HHA P3 N3 V3 HL3 S1 HC HG HLW HQ1 H19 HM hmlen
  have hl19 : (refL s s.nb).length ≤ 19 := by rw [refL_len]; exact Nat.le_trans (tkC_le _ _) (by have := HB19.out; omega)
  generalize refL s s.nb = l at *
  cases free with
  | false =>
    go_wp2_with fail
    refine (pTake_any _ _ _ _ _ _ 1 9 _ P4.out (by have := HB4.out.2.1; omega) (by decide) (by decide)).mono ?_
    rintro e5 w5 ⟨rfl, h1, h2⟩
    have P5 := Lib.hid h1
    have N5 : Hid (New w w5) := new_of_kept N4.out h2 fun b hb => (HQ4.out b hb).1
    have V5 : Hid (RowV w5 At l.length 5 (tRow l [])) := V4.out.row.kept h2 fun a ha hb => (HQ4.out _ hb).2 a ha rfl
    have HCT := Lib.hid (cut_take P4.out.chip.ok HG4.out HNF.out P4.out.len P4.out.next (by have := HB4.out; omega) (by have := HB4.out; omega) (powS_ok _ P5.out.chip.ok))
    have HNB : Hid ((powS (takeR 1 9 s1 p).s).nb ≤ 19) := by have h1 := HCT.out.2.nb; have h2 := HB4.out.1; show (takeR 1 9 s1 p).s.nb ≤ _; omega
    have HIN : Hid (InvC (powS (takeR 1 9 s1 p).s) (p.last + s1.nb)) := HCT.out.2.inv.pow
    rw [HRL.out] at HCT
    clear h1 h2 P4 N4 V4 HG4 HNF HRL HB4
    generalize takeR 1 9 s1 p = R at *
    go_wp2_with fail
    refine (nPower_any _ _ _ _ P5.out.chip).mono ?_
    rintro e6 w6 ⟨g2, Q2, rfl, h1, hq, k2⟩
    have C6 := Lib.hid h1
    have N6 := Lib.hid (N5.out.new k2)
    have V6 := Lib.hid (V5.out.new k2)
    clear h1 hq k2 P5 N5 V5
    go_wp2_with fail
    refine (pScan_ok Q2 g2 _ _ C6.out rfl HNB.out).mono ?_
    rintro e7 w7 ⟨gp3, gb3, rfl, h1, h2, h3, h4⟩
    have HSG := Lib.hid (scan_good C6.out.ok rfl HIN.out).1
    have P7 := Lib.hid h1
    have N7 := Lib.hid (N6.out.new h4)
    have V7 := Lib.hid (V6.out.new h4)
    have HC7 := Lib.hid HCT.out.1
    clear h1 h2 h3 h4 C6 N6 V6 HIN HCT
    generalize powS R.s = S at *
    go_wp2_with fail
    refine (pTaken_any _ _ _ _ _ _ _ P7.out HNB.out).mono ?_
    rintro e8 w8 ⟨A8, c8, rfl, h1, h2⟩
    rw [tkn_ref P7.out.chip.ok HSG.out] at h1 ⊢
    have N8 := Lib.hid (N7.out.new h2)
    have V8 := Lib.hid (V7.out.new h2)
    have X8 := Lib.hid h1.row
    have hcap8 : (refL S S.nb).length ≤ maxLen := Nat.le_trans h1.2.1 h1.2.2.1
    unfold maxLen at hcap8
    clear h1 h2 P7 N7 V7 HSG
    generalize refL S S.nb = l' at *
    clear HNB HQ4
    go_wp2_with fail
    go_loopw [23] (fun ti wr => ∃ i q : Nat, i ≤ l.length ∧ ti = .int .i64 i ∧ wr = w8.drewN q) (fun i _ => l.length - (intOf i).toNat)
    case atStart => exact ⟨0, 0, Nat.zero_le _, rfl, rfl⟩
    case round =>
      obtain ⟨i, qo, hi, rfl, rfl⟩ := hrel
      by_cases hlt : i < l.length
      · obtain ⟨⟨y0, y1, y2, y3, y4⟩, hget⟩ : ∃ t, l[i]? = some t := ⟨_, List.getElem?_eq_getElem hlt⟩
        have hli : (i : Int) < (l.length : Int) := by omega
        obtain ⟨gA, oA, rfl, hcellA⟩ := V8.out.2 (by omega)
        have a0 : w8.cell? ⟨gA, oA + i * 5, none⟩ = some (.int .i64 (y0 : Nat)) := hcellA (i * 5) _ (tRow_get [] l 0 _ i _ hget (by omega) rfl)
        have a1 : w8.cell? ⟨gA, oA + i * 5 + 1, none⟩ = some (.int .u8 (y1 : Nat)) := hcellA (i * 5 + 1) _ (tRow_get [] l 1 _ i _ hget (by omega) rfl)
        have a2 : w8.cell? ⟨gA, oA + i * 5 + 2, none⟩ = some (.int .u32 (y2 : Nat)) := hcellA (i * 5 + 2) _ (tRow_get [] l 2 _ i _ hget (by omega) rfl)
        have a3 : w8.cell? ⟨gA, oA + i * 5 + 3, none⟩ = some (.int .u64 (y3 : Nat)) := hcellA (i * 5 + 3) _ (tRow_get [] l 3 _ i _ hget (by omega) rfl)
        have a4 : w8.cell? ⟨gA, oA + i * 5 + 4, none⟩ = some (.bool y4) := hcellA (i * 5 + 4) _ (tRow_get [] l 4 _ i _ hget (by omega) rfl)
        have HIN : Hid (⟨y0, y1, y2, y3, y4⟩ ∈ l') := HC7.out.mem _ (List.mem_of_getElem? hget) (by show (y0 : Int) ≠ -1; omega)
        clear hcellA hget
        go_wp2
        go_loopw [24, 25] (fun tf tk wr => ∃ (f : Bool) (k q : Nat), k ≤ l'.length ∧ tf = .bool f ∧ tk = .int .i64 k ∧ wr = w8.drewN q ∧ Hid (Fd l' ⟨y0, y1, y2, y3, y4⟩ k f)) (fun _ k _ => l'.length - (intOf k).toNat)
        case atStart => exact ⟨false, 0, qo, Nat.zero_le _, rfl, rfl, rfl, Fd.zero _ _⟩
        case round =>
          obtain ⟨f, k, q, hk, rfl, rfl, rfl, HF⟩ := hrel
          by_cases hlt2 : k < l'.length
          · obtain ⟨⟨x0, x1, x2, x3, x4⟩, hxk⟩ : ∃ x, l'[k]? = some x := ⟨_, List.getElem?_eq_getElem hlt2⟩
            have hlk : (k : Int) < (l'.length : Int) := by omega
            obtain ⟨gB, oB, rfl, hcellB⟩ := X8.out.2 (by omega)
            have b0 : w8.cell? ⟨gB, oB + k * 5, none⟩ = some (.int .i64 (x0 : Nat)) := hcellB (k * 5) _ (tRow_get [] l' 0 _ k _ hxk (by omega) rfl)
            have b1 : w8.cell? ⟨gB, oB + k * 5 + 1, none⟩ = some (.int .u8 (x1 : Nat)) := hcellB (k * 5 + 1) _ (tRow_get [] l' 1 _ k _ hxk (by omega) rfl)
            have b2 : w8.cell? ⟨gB, oB + k * 5 + 2, none⟩ = some (.int .u32 (x2 : Nat)) := hcellB (k * 5 + 2) _ (tRow_get [] l' 2 _ k _ hxk (by omega) rfl)
            have b3 : w8.cell? ⟨gB, oB + k * 5 + 3, none⟩ = some (.int .u64 (x3 : Nat)) := hcellB (k * 5 + 3) _ (tRow_get [] l' 3 _ k _ hxk (by omega) rfl)
            have b4 : w8.cell? ⟨gB, oB + k * 5 + 4, none⟩ = some (.bool x4) := hcellB (k * 5 + 4) _ (tRow_get [] l' 4 _ k _ hxk (by omega) rfl)
            clear hcellB
            cases f with
            | true =>
              have HX : Hid (Fd l' ⟨y0, y1, y2, y3, y4⟩ (k + 1) true) := HF.out.more
              clear hxk HF
              go_wp2
              go_quiet (fail)
              go_wp2
              go_roundw
              case rel => exact ⟨true, k + 1, _, by omega, rfl, by go_num, by first | rfl | exact World.drewN_drewN _ _ _, HX⟩
              case measure => simp [intOf]; omega
            | false =>
              by_cases e0 : x0 = y0
              · subst e0
                by_cases e1 : x1 = y1
                · subst e1
                  by_cases e2 : x2 = y2
                  · subst e2
                    by_cases e3 : x3 = y3
                    · subst e3
                      by_cases e4 : x4 = y4
                      · subst e4
                        have HX : Hid (Fd l' ⟨x0, x1, x2, x3, x4⟩ (k + 1) true) := Fd.yes hxk
                        clear hxk HF
                        go_wp2
                        go_quiet (fail)
                        go_wp2
                        go_roundw
                        case rel => exact ⟨true, k + 1, _, by omega, rfl, by go_num, by first | rfl | exact World.drewN_drewN _ _ _, HX⟩
                        case measure => simp [intOf]; omega
                      · have HX : Hid (Fd l' ⟨x0, x1, x2, x3, y4⟩ (k + 1) false) := HF.out.no hxk (fun e => by injection e with q0 q1 q2 q3 q4; exact e4 q4)
                        have n4 : (x4 == y4) = false := beq_eq_false_iff_ne.2 e4
                        clear hxk HF
                        go_wp2
                        go_quiet (fail)
                        go_wp2
                        go_roundw
                        case rel => exact ⟨false, k + 1, _, by omega, rfl, by go_num, by first | rfl | exact World.drewN_drewN _ _ _, HX⟩
                        case measure => simp [intOf]; omega
                    · have HX : Hid (Fd l' ⟨x0, x1, x2, y3, y4⟩ (k + 1) false) := HF.out.no hxk (fun e => by injection e with q0 q1 q2 q3 q4; exact e3 q3)
                      have n3 : ((x3 : Int) == (y3 : Int)) = false := beq_eq_false_iff_ne.2 (by omega)
                      have n3' : (x3 == y3) = false := beq_eq_false_iff_ne.2 e3
                      clear hxk HF
                      go_wp2
                      go_quiet (fail)
                      go_wp2
                      go_roundw
                      case rel => exact ⟨false, k + 1, _, by omega, rfl, by go_num, by first | rfl | exact World.drewN_drewN _ _ _, HX⟩
                      case measure => simp [intOf]; omega
                  · have HX : Hid (Fd l' ⟨x0, x1, y2, y3, y4⟩ (k + 1) false) := HF.out.no hxk (fun e => by injection e with q0 q1 q2 q3 q4; exact e2 q2)
                    have n2 : ((x2 : Int) == (y2 : Int)) = false := beq_eq_false_iff_ne.2 (by omega)
                    have n2' : (x2 == y2) = false := beq_eq_false_iff_ne.2 e2
                    clear hxk HF
                    go_wp2
                    go_quiet (fail)
                    go_wp2
                    go_roundw
                    case rel => exact ⟨false, k + 1, _, by omega, rfl, by go_num, by first | rfl | exact World.drewN_drewN _ _ _, HX⟩
                    case measure => simp [intOf]; omega
                · have HX : Hid (Fd l' ⟨x0, y1, y2, y3, y4⟩ (k + 1) false) := HF.out.no hxk (fun e => by injection e with q0 q1 q2 q3 q4; exact e1 q1)
                  have n1 : ((x1 : Int) == (y1 : Int)) = false := beq_eq_false_iff_ne.2 (by omega)
                  have n1' : (x1 == y1) = false := beq_eq_false_iff_ne.2 e1
                  clear hxk HF
                  go_wp2
                  go_quiet (fail)
                  go_wp2
                  go_roundw
                  case rel => exact ⟨false, k + 1, _, by omega, rfl, by go_num, by first | rfl | exact World.drewN_drewN _ _ _, HX⟩
                  case measure => simp [intOf]; omega
              · have HX : Hid (Fd l' ⟨y0, y1, y2, y3, y4⟩ (k + 1) false) := HF.out.no hxk (fun e => by injection e with q0 q1 q2 q3 q4; exact e0 q0)
                have n0 : ((x0 : Int) == (y0 : Int)) = false := beq_eq_false_iff_ne.2 (by omega)
                have n0' : (x0 == y0) = false := beq_eq_false_iff_ne.2 e0
                clear hxk HF
                go_wp2
                go_quiet (fail)
                go_wp2
                go_roundw
                case rel => exact ⟨false, k + 1, _, by omega, rfl, by go_num, by first | rfl | exact World.drewN_drewN _ _ _, HX⟩
                case measure => simp [intOf]; omega
          · obtain rfl : k = l'.length := by omega
            obtain rfl : f = true := HF.out.all.2 HIN.out
            go_wp2
            go_roundw
            case rel => exact ⟨i + 1, _, by omega, by go_num, rfl⟩
            case measure => simp [intOf]; omega
      · obtain rfl : i = l.length := by omega
        have hle := HC7.out.len
        have N9 : Hid (New w (w8.drewN qo)) := N8.out.drewN qo
        have d1 : decide ((l'.length : Int) ≤ (l.length : Int) + 1) = true := decide_eq_true (by omega)
        have d2 : (l'.length : Int) ≤ (l.length : Int) + 1 := by omega
        have d3 : IntKind.i64.wrap ((l.length : Int) + 1) = (l.length : Int) + 1 := by rw [IntKind.wrap_i64]; omega
        clear hle
        go_wp2_with fail
        refine (pWorks_any _).mono ?_
        rintro e9 w9 ⟨rfl, k9⟩
        have N10 := Lib.hid (N9.out.new k9)
        clear k9 N9
        go_wp2
        go_ret
        exact ⟨rfl, N10.out⟩
  | true =>
    go_wp2_with fail
    refine (pFreeB_any _ _ _ _ _ _ (rb : Nat) _ P4.out (by have := HB4.out.2.1; omega)).mono ?_
    rintro e5 w5 ⟨rfl, h1, h2⟩
    have P5 := Lib.hid h1
    have N5 : Hid (New w w5) := new_of_kept N4.out h2 fun b hb => (HQ4.out b hb).1
    have V5 : Hid (RowV w5 At l.length 5 (tRow l [])) := V4.out.row.kept h2 fun a ha hb => (HQ4.out _ hb).2 a ha rfl
    have HCT := Lib.hid (cut_free (b := rb) P4.out.chip.ok HG4.out P4.out.len (by have := HB4.out; omega) (powS_ok _ P5.out.chip.ok))
    have HNB : Hid ((powS (freeR s1 p rb).s).nb ≤ 19) := by have h1 := HCT.out.2.nb; have h2 := HB4.out.1; show (freeR s1 p rb).s.nb ≤ _; omega
    have HIN : Hid (InvC (powS (freeR s1 p rb).s) (p.last + s1.nb)) := HCT.out.2.inv.pow
    rw [HRL.out] at HCT
    clear h1 h2 P4 N4 V4 HG4 HNF HRL HB4
    generalize freeR s1 p rb = R at *
    go_wp2_with fail
    refine (nPower_any _ _ _ _ P5.out.chip).mono ?_
    rintro e6 w6 ⟨g2, Q2, rfl, h1, hq, k2⟩
    have C6 := Lib.hid h1
    have N6 := Lib.hid (N5.out.new k2)
    have V6 := Lib.hid (V5.out.new k2)
    clear h1 hq k2 P5 N5 V5
    go_wp2_with fail
    refine (pScan_ok Q2 g2 _ _ C6.out rfl HNB.out).mono ?_
    rintro e7 w7 ⟨gp3, gb3, rfl, h1, h2, h3, h4⟩
    have HSG := Lib.hid (scan_good C6.out.ok rfl HIN.out).1
    have P7 := Lib.hid h1
    have N7 := Lib.hid (N6.out.new h4)
    have V7 := Lib.hid (V6.out.new h4)
    have HC7 := Lib.hid HCT.out.1
    clear h1 h2 h3 h4 C6 N6 V6 HIN HCT
    generalize powS R.s = S at *
    go_wp2_with fail
    refine (pTaken_any _ _ _ _ _ _ _ P7.out HNB.out).mono ?_
    rintro e8 w8 ⟨A8, c8, rfl, h1, h2⟩
    rw [tkn_ref P7.out.chip.ok HSG.out] at h1 ⊢
    have N8 := Lib.hid (N7.out.new h2)
    have V8 := Lib.hid (V7.out.new h2)
    have X8 := Lib.hid h1.row
    have hcap8 : (refL S S.nb).length ≤ maxLen := Nat.le_trans h1.2.1 h1.2.2.1
    unfold maxLen at hcap8
    clear h1 h2 P7 N7 V7 HSG
    generalize refL S S.nb = l' at *
    clear HNB HQ4
    go_wp2_with fail
    go_loopw [26] (fun ti wr => ∃ i q : Nat, i ≤ l.length ∧ ti = .int .i64 i ∧ wr = w8.drewN q) (fun i _ => l.length - (intOf i).toNat)
    case atStart => exact ⟨0, 0, Nat.zero_le _, rfl, rfl⟩
    case round =>
      obtain ⟨i, qo, hi, rfl, rfl⟩ := hrel
      by_cases hlt : i < l.length
      · obtain ⟨⟨y0, y1, y2, y3, y4⟩, hget⟩ : ∃ t, l[i]? = some t := ⟨_, List.getElem?_eq_getElem hlt⟩
        have hli : (i : Int) < (l.length : Int) := by omega
        obtain ⟨gA, oA, rfl, hcellA⟩ := V8.out.2 (by omega)
        have a0 : w8.cell? ⟨gA, oA + i * 5, none⟩ = some (.int .i64 (y0 : Nat)) := hcellA (i * 5) _ (tRow_get [] l 0 _ i _ hget (by omega) rfl)
        have a1 : w8.cell? ⟨gA, oA + i * 5 + 1, none⟩ = some (.int .u8 (y1 : Nat)) := hcellA (i * 5 + 1) _ (tRow_get [] l 1 _ i _ hget (by omega) rfl)
        have a2 : w8.cell? ⟨gA, oA + i * 5 + 2, none⟩ = some (.int .u32 (y2 : Nat)) := hcellA (i * 5 + 2) _ (tRow_get [] l 2 _ i _ hget (by omega) rfl)
        have a3 : w8.cell? ⟨gA, oA + i * 5 + 3, none⟩ = some (.int .u64 (y3 : Nat)) := hcellA (i * 5 + 3) _ (tRow_get [] l 3 _ i _ hget (by omega) rfl)
        have a4 : w8.cell? ⟨gA, oA + i * 5 + 4, none⟩ = some (.bool y4) := hcellA (i * 5 + 4) _ (tRow_get [] l 4 _ i _ hget (by omega) rfl)
        have HIN : Hid ((y0 : Int) ≠ (rb : Int) → ⟨y0, y1, y2, y3, y4⟩ ∈ l') := fun h => HC7.out.mem _ (List.mem_of_getElem? hget) h
        clear hcellA hget
        go_wp2
        go_loopw [27, 28] (fun tf tk wr => ∃ (f : Bool) (k q : Nat), k ≤ l'.length ∧ tf = .bool f ∧ tk = .int .i64 k ∧ wr = w8.drewN q ∧ Hid (Fd l' ⟨y0, y1, y2, y3, y4⟩ k f)) (fun _ k _ => l'.length - (intOf k).toNat)
        case atStart => exact ⟨false, 0, qo, Nat.zero_le _, rfl, rfl, rfl, Fd.zero _ _⟩
        case round =>
          obtain ⟨f, k, q, hk, rfl, rfl, rfl, HF⟩ := hrel
          by_cases hlt2 : k < l'.length
          · obtain ⟨⟨x0, x1, x2, x3, x4⟩, hxk⟩ : ∃ x, l'[k]? = some x := ⟨_, List.getElem?_eq_getElem hlt2⟩
            have hlk : (k : Int) < (l'.length : Int) := by omega
            obtain ⟨gB, oB, rfl, hcellB⟩ := X8.out.2 (by omega)
            have b0 : w8.cell? ⟨gB, oB + k * 5, none⟩ = some (.int .i64 (x0 : Nat)) := hcellB (k * 5) _ (tRow_get [] l' 0 _ k _ hxk (by omega) rfl)
            have b1 : w8.cell? ⟨gB, oB + k * 5 + 1, none⟩ = some (.int .u8 (x1 : Nat)) := hcellB (k * 5 + 1) _ (tRow_get [] l' 1 _ k _ hxk (by omega) rfl)
            have b2 : w8.cell? ⟨gB, oB + k * 5 + 2, none⟩ = some (.int .u32 (x2 : Nat)) := hcellB (k * 5 + 2) _ (tRow_get [] l' 2 _ k _ hxk (by omega) rfl)
            have b3 : w8.cell? ⟨gB, oB + k * 5 + 3, none⟩ = some (.int .u64 (x3 : Nat)) := hcellB (k * 5 + 3) _ (tRow_get [] l' 3 _ k _ hxk (by omega) rfl)
            have b4 : w8.cell? ⟨gB, oB + k * 5 + 4, none⟩ = some (.bool x4) := hcellB (k * 5 + 4) _ (tRow_get [] l' 4 _ k _ hxk (by omega) rfl)
            clear hcellB
            cases f with
            | true =>
              have HX : Hid (Fd l' ⟨y0, y1, y2, y3, y4⟩ (k + 1) true) := HF.out.more
              clear hxk HF
              go_wp2
              go_quiet (fail)
              go_wp2
              go_roundw
              case rel => exact ⟨true, k + 1, _, by omega, rfl, by go_num, by first | rfl | exact World.drewN_drewN _ _ _, HX⟩
              case measure => simp [intOf]; omega
            | false =>
              by_cases e0 : x0 = y0
              · subst e0
                by_cases e1 : x1 = y1
                · subst e1
                  by_cases e2 : x2 = y2
                  · subst e2
                    by_cases e3 : x3 = y3
                    · subst e3
                      by_cases e4 : x4 = y4
                      · subst e4
                        have HX : Hid (Fd l' ⟨x0, x1, x2, x3, x4⟩ (k + 1) true) := Fd.yes hxk
                        clear hxk HF
                        go_wp2
                        go_quiet (fail)
                        go_wp2
                        go_roundw
                        case rel => exact ⟨true, k + 1, _, by omega, rfl, by go_num, by first | rfl | exact World.drewN_drewN _ _ _, HX⟩
                        case measure => simp [intOf]; omega
                      · have HX : Hid (Fd l' ⟨x0, x1, x2, x3, y4⟩ (k + 1) false) := HF.out.no hxk (fun e => by injection e with q0 q1 q2 q3 q4; exact e4 q4)
                        have n4 : (x4 == y4) = false := beq_eq_false_iff_ne.2 e4
                        clear hxk HF
                        go_wp2
                        go_quiet (fail)
                        go_wp2
                        go_roundw
                        case rel => exact ⟨false, k + 1, _, by omega, rfl, by go_num, by first | rfl | exact World.drewN_drewN _ _ _, HX⟩
                        case measure => simp [intOf]; omega
                    · have HX : Hid (Fd l' ⟨x0, x1, x2, y3, y4⟩ (k + 1) false) := HF.out.no hxk (fun e => by injection e with q0 q1 q2 q3 q4; exact e3 q3)
                      have n3 : ((x3 : Int) == (y3 : Int)) = false := beq_eq_false_iff_ne.2 (by omega)
                      have n3' : (x3 == y3) = false := beq_eq_false_iff_ne.2 e3
                      clear hxk HF
                      go_wp2
                      go_quiet (fail)
                      go_wp2
                      go_roundw
                      case rel => exact ⟨false, k + 1, _, by omega, rfl, by go_num, by first | rfl | exact World.drewN_drewN _ _ _, HX⟩
                      case measure => simp [intOf]; omega
                  · have HX : Hid (Fd l' ⟨x0, x1, y2, y3, y4⟩ (k + 1) false) := HF.out.no hxk (fun e => by injection e with q0 q1 q2 q3 q4; exact e2 q2)
                    have n2 : ((x2 : Int) == (y2 : Int)) = false := beq_eq_false_iff_ne.2 (by omega)
                    have n2' : (x2 == y2) = false := beq_eq_false_iff_ne.2 e2
                    clear hxk HF
                    go_wp2
                    go_quiet (fail)
                    go_wp2
                    go_roundw
                    case rel => exact ⟨false, k + 1, _, by omega, rfl, by go_num, by first | rfl | exact World.drewN_drewN _ _ _, HX⟩
                    case measure => simp [intOf]; omega
                · have HX : Hid (Fd l' ⟨x0, y1, y2, y3, y4⟩ (k + 1) false) := HF.out.no hxk (fun e => by injection e with q0 q1 q2 q3 q4; exact e1 q1)
                  have n1 : ((x1 : Int) == (y1 : Int)) = false := beq_eq_false_iff_ne.2 (by omega)
                  have n1' : (x1 == y1) = false := beq_eq_false_iff_ne.2 e1
                  clear hxk HF
                  go_wp2
                  go_quiet (fail)
                  go_wp2
                  go_roundw
                  case rel => exact ⟨false, k + 1, _, by omega, rfl, by go_num, by first | rfl | exact World.drewN_drewN _ _ _, HX⟩
                  case measure => simp [intOf]; omega
              · have HX : Hid (Fd l' ⟨y0, y1, y2, y3, y4⟩ (k + 1) false) := HF.out.no hxk (fun e => by injection e with q0 q1 q2 q3 q4; exact e0 q0)
                have n0 : ((x0 : Int) == (y0 : Int)) = false := beq_eq_false_iff_ne.2 (by omega)
                have n0' : (x0 == y0) = false := beq_eq_false_iff_ne.2 e0
                clear hxk HF
                go_wp2
                go_quiet (fail)
                go_wp2
                go_roundw
                case rel => exact ⟨false, k + 1, _, by omega, rfl, by go_num, by first | rfl | exact World.drewN_drewN _ _ _, HX⟩
                case measure => simp [intOf]; omega
          · obtain rfl : k = l'.length := by omega
            cases f with
            | true =>
              go_wp2
              go_roundw
              case rel => exact ⟨i + 1, _, by omega, by go_num, rfl⟩
              case measure => simp [intOf]; omega
            | false =>
              have hyr : (y0 : Int) = (rb : Int) := Decidable.byContradiction fun h => by have := HF.out.all.2 (HIN.out h); cases this
              obtain rfl : y0 = rb := by omega
              clear hyr
              go_wp2
              go_roundw
              case rel => exact ⟨i + 1, _, by omega, by go_num, rfl⟩
              case measure => simp [intOf]; omega
      · obtain rfl : i = l.length := by omega
        have hle := HC7.out.len
        have N9 : Hid (New w (w8.drewN qo)) := N8.out.drewN qo
        have d1 : decide ((l'.length : Int) ≤ (l.length : Int)) = true := decide_eq_true (by omega)
        have d2 : (l'.length : Int) ≤ (l.length : Int) := by omega
        clear hle
        go_wp2_with fail
        refine (pWorks_any _).mono ?_
        rintro e9 w9 ⟨rfl, k9⟩
        have N10 := Lib.hid (N9.out.new k9)
        clear k9 N9
        go_wp2
        go_ret
        exact ⟨rfl, N10.out⟩

set_option maxRecDepth 100000 in
theorem lifted (os : Os) (started : os.Started) (H : Type) (enc : TypeId × Value → H) :
    ReturnsInHanded {} Try.checked os 5 .any (Rows.poolCutsSpec.pre6 enc Try.prog Try.f5 Rows.poolCutsRow.domain false) (Rows.poolCutsSpec.post enc Try.prog Try.f5 false true false false) := by
  refine lift_new (C := Try.checked) (s := Rows.poolCutsSpec) (tb := 4) own started (by kernel_rfl) Try.func5
    (ChangeSpec.witness6 (enc := enc) (C := Try.checked) false ⟨#[], #[.int .u8 0, .slice none 0 0, .bool false, .int .u8 0, .int .u8 0, .slice none 0 0], []⟩ 8 (by kernel_rfl) (by kernel_rfl) (by kernel_rfl) (by kernel_rfl))
    rfl (by kernel_rfl) Try.underlying4 ?_ laidOut (of_decide_eq_true (by kernel_rfl)) ?_
  · intro ds hd
    match ds, hd with
    | [d0, d1, d2, d3, d4, d5], _ => exact ⟨rfl, rfl, rfl⟩
  · intro W base args ds hA
    have hA : Args enc Try.prog W base Try.f5.params.toList args.toList ds := hA
    rw [Try.params5] at hA
    obtain ⟨v0, vs0, d0, ds0, p0, hargs, rfl, a0, hA⟩ := hA.cons_
    obtain ⟨v1, vs1, d1, ds1, p1, rfl, rfl, a1, hA⟩ := hA.cons_
    obtain ⟨v2, vs2, d2, ds2, p2, rfl, rfl, a2, hA⟩ := hA.cons_
    obtain ⟨v3, vs3, d3, ds3, p3, rfl, rfl, a3, hA⟩ := hA.cons_
    obtain ⟨v4, vs4, d4, ds4, p4, rfl, rfl, a4, hA⟩ := hA.cons_
    obtain ⟨v5, vs5, d5, ds5, p5, rfl, rfl, a5, hA⟩ := hA.cons_
    obtain ⟨rfl, rfl⟩ := hA.nil_
    obtain rfl : args = #[v0, v1, v2, v3, v4, v5] := by cases args; simp_all
    obtain ⟨y0, rfl, w0⟩ := a0.int_ Try.underlying5
    obtain ⟨x0, rfl, h0⟩ := u8_nat w0
    obtain ⟨A1, n1, c1, l1, rfl, b1, k1, m1⟩ := a1.acts4_
    obtain ⟨x2, rfl⟩ := a2.bool_ Try.underlying4
    obtain ⟨y3, rfl, w3⟩ := a3.int_ Try.underlying5
    obtain ⟨x3, rfl, h3⟩ := u8_nat w3
    obtain ⟨y4, rfl, w4⟩ := a4.int_ Try.underlying5
    obtain ⟨x4, rfl, h4⟩ := u8_nat w4
    obtain ⟨A5, n5, c5, l5, b5⟩ := a5.bytes_ Try.underlying48 Try.underlying5 (by kernel_rfl) (by kernel_rfl)
    obtain rfl := b5.val
    exact walk x0 A1 n1 c1 l1 x2 x3 x4 A5 n5 c5 l5 W h0 b1 ⟨k1, m1⟩ h3 h4 b5

theorem over : Rows.poolCutsRow.holds Try.pinned (OpenSpec.ofChange Rows.poolCutsSpec) :=
  OpenClaim.holds_of_wide 5 Try.f5 rfl rfl rfl rfl rfl rfl rfl ⟨rfl, rfl, rfl, rfl, rfl⟩ rfl rfl rfl rfl rfl (by kernel_rfl) Try.func5 (by kernel_rfl)
    (of_decide_eq_true (by kernel_rfl)) (by unfold Func.isWrapper; first | (rw [if_pos (by decide +kernel)]; kernel_rfl) | (rw [if_neg (by decide +kernel)]; exact ⟨rfl, rfl⟩))
    (fun os started H enc _ => lifted os started H enc)

theorem proved : Rows.PoolCutsSaid := over
end Go.Proofs.Ytgfdiboaiifdnaa.poolCuts
