/-
  A pool tries a block.
-/
import Derived.Test.YtgfdiboaiifdnaaGreatGh
import Derived.StillTailTactics
import Derived.Deep.RegionHeld3
namespace Go.Proofs.YtgfdiboaiifdnaaGreat
open Go.ChangeShapes Go.WideShapes Go.ChangeAt Go.RowKit

theorem clS_geo (s : CSt) (p : PSt) (i : Nat) : (clS s p i).nb = s.nb ∧ (clS s p i).np = s.np ∧ (clS s p i).nz = s.nz ∧ (clS s p i).ns = s.ns := by
  unfold clS
  split
  · exact erasS_geo _ _
  · exact ⟨rfl, rfl, rfl, rfl⟩
theorem clS_deeds (s : CSt) (p : PSt) (i : Nat) : (clS s p i).deeds ≤ s.deeds + 1 := by
  unfold clS
  split
  · exact erasS_deeds _ _
  · exact Nat.le_succ _
theorem clP_last (s : CSt) (p : PSt) (i : Nat) : (clP s p i).last = p.last ∧ (clP s p i).next = p.next := by
  unfold clP
  split
  · unfold eraP
    split <;> exact ⟨rfl, rfl⟩
  · exact ⟨rfl, rfl⟩

def maxSeq : Nat := 18446744073709551615
/-- Behind the block is cleared: the program's answer; what the chip and the pool are. -/
def trE (s : CSt) (p : PSt) (i k e : Nat) : Int := progE (clS s p i) i 0 (phL s.nz k e (p.last + 1))
def trS (s : CSt) (p : PSt) (i k e : Nat) : CSt := progS (clS s p i) i 0 (phL s.nz k e (p.last + 1))
def trP (s : CSt) (p : PSt) (i k e : Nat) : PSt :=
  { bl := if trE s p i k e = 0 then (clP s p i).bl.set i ⟨1, k, e, p.last + 1⟩ else (clP s p i).bl, next := p.next, last := if trE s p i k e = 0 ∨ trE s p i k e = 9 then p.last + 1 else p.last }
def tryE (s : CSt) (p : PSt) (i k e : Nat) : Int := if p.last = maxSeq then 11 else if clE s p i ≠ 0 then clE s p i else trE s p i k e
def tryS (s : CSt) (p : PSt) (i k e : Nat) : CSt := if p.last = maxSeq then s else if clE s p i ≠ 0 then clS s p i else trS s p i k e
def tryP (s : CSt) (p : PSt) (i k e : Nat) : PSt := if p.last = maxSeq then p else if clE s p i ≠ 0 then clP s p i else trP s p i k e

theorem PgB.away {w : World} {B : Nat} {A : Option Addr} {c : Nat} {l : List Nat} (h : PgB w B A c l) : ∀ a, A = some a → B ≤ a.block := by
  rintro a rfl
  rcases h.2 with ⟨h1, _⟩ | ⟨g, junk, h1, h2, _⟩
  · cases h1
  · injection h1 with h1
    subst h1
    exact h2

theorem PRep.setLast {Qc : Nat → Prop} {w w' : World} {gp gb g : Nat} {s : CSt} {p : PSt} {n : Nat} (h : PRep Qc w gp gb g s p) (hn : n < 18446744073709551616) (hw : w' = w.setCell ⟨gp, 3, none⟩ (.int .u64 (n : Nat))) : PRep Qc w' gp gb g s { p with last := n } := by
  subst hw
  have hk : Kept (· = gp) w (w.setCell ⟨gp, 3, none⟩ (.int .u64 (n : Nat))) := Kept.set1 _ _ _ _
  exact { chip := h.chip.kept hk fun x q e => h.np (e ▸ q), pool := h.pool.put 3 (.int .u64 (n : Nat)), blks := h.blks.kept hk (Ne.symm h.ne), len := h.len, next := h.next, last := hn, okb := h.okb, np := h.np, nb := h.nb }
theorem PRep.setNext {Qc : Nat → Prop} {w w' : World} {gp gb g : Nat} {s : CSt} {p : PSt} {n : Nat} (h : PRep Qc w gp gb g s p) (hn : n < s.nb) (hw : w' = w.setCell ⟨gp, 2, none⟩ (.int .i64 (n : Nat))) : PRep Qc w' gp gb g s { p with next := n } := by
  subst hw
  have hk : Kept (· = gp) w (w.setCell ⟨gp, 2, none⟩ (.int .i64 (n : Nat))) := Kept.set1 _ _ _ _
  exact { chip := h.chip.kept hk fun x q e => h.np (e ▸ q), pool := h.pool.put 2 (.int .i64 (n : Nat)), blks := h.blks.kept hk (Ne.symm h.ne), len := h.len, next := hn, last := h.last, okb := h.okb, np := h.np, nb := h.nb }

set_option maxRecDepth 100000 in
set_option maxHeartbeats 3200000 in
theorem pTry_any (Qc : Nat → Prop) (gp gb g : Nat) (s : CSt) (p : PSt) (i k e : Nat) (w : World) (h : PRep Qc w gp gb g s p) (hi : i < s.nb) (hd : s.deeds < 4611686018427387903) (hk : k < 256) (he : e < 4294967296) :
    Calls Tryz.prog 55 #[.pointer (some ⟨gp, 0, none⟩), .int .i64 (i : Nat), .int .u8 (k : Nat), .int .u32 (e : Nat)] w (StepP Qc w gp gb g (tryS s p i k e) (tryP s p i k e) (tryE s p i k e)) := by
  have HP := Lib.hid h
  have HI := Lib.hid hi
  have HD := Lib.hid hd
  have c3 : w.cell? ⟨gp, 3, none⟩ = some (.int .u64 (p.last : Nat)) := h.pool.cell 3
  have hl := h.last
  by_cases hm : p.last = maxSeq
  · have E1 : tryS s p i k e = s := by unfold tryS; rw [if_pos hm]
    have E2 : tryP s p i k e = p := by unfold tryP; rw [if_pos hm]
    have E3 : tryE s p i k e = 11 := by unfold tryE; rw [if_pos hm]
    rw [E1, E2, E3]
    unfold maxSeq at hm
    have hm2 : ((p.last : Int) == 18446744073709551615) = true := beq_iff_eq.2 (by omega)
    clear h hi hd E1 E2 E3 hm
    go_enter Tryz.func55, Tryz.ntmps55
    go_wp2
    go_ret
    exact ⟨rfl, HP.out, Kept.refl _ _⟩
  · have hm1 : p.last + 1 < 18446744073709551616 := by unfold maxSeq at hm; omega
    have hm2 : ((p.last : Int) == 18446744073709551615) = false := beq_eq_false_iff_ne.2 (by unfold maxSeq at hm; omega)
    by_cases hc : clE s p i = 0
    · have E1 : tryS s p i k e = trS s p i k e := by unfold tryS; rw [if_neg hm, if_neg (by simp [hc])]
      have E2 : tryP s p i k e = trP s p i k e := by unfold tryP; rw [if_neg hm, if_neg (by simp [hc])]
      have E3 : tryE s p i k e = trE s p i k e := by unfold tryE; rw [if_neg hm, if_neg (by simp [hc])]
      rw [E1, E2, E3]
      have HC := Lib.hid hc
      have HG := Lib.hid (clS_geo s p i)
      have HL := Lib.hid (clP_last s p i)
      have HDD : Hid ((clS s p i).deeds < 4611686018427387904) := by have := clS_deeds s p i; show _ < _; omega
      have hdd0 : Hid (s.deeds < 4611686018427387904) := by show _ < _; omega
      clear h hi hd E1 E2 E3 hm hc
      go_enter Tryz.func55, Tryz.ntmps55
      go_wp2_with fail
      refine (pClear_any _ _ _ _ _ _ _ _ HP.out HI.out hdd0.out).mono ?_
      rintro r w1 ⟨rfl, h1, h2⟩
      have P1 := Lib.hid h1
      have K1 := Lib.hid h2
      rw [HC.out]
      have d3 : w1.cell? ⟨gp, 3, none⟩ = some (.int .u64 (p.last : Nat)) := by rw [← HL.out.1]; exact P1.out.pool.cell 3
      clear h1 h2 c3
      go_wp2_with fail
      have em : ((p.last : Int) + 1) = ((p.last + 1 : Nat) : Int) := by omega
      rw [em]
      obtain ⟨m, hmm⟩ : ∃ m, p.last + 1 = m := ⟨_, rfl⟩
      have HMM := Lib.hid hmm
      rw [hmm] at hm1 em
      rw [hmm]
      obtain ⟨w2, hw2⟩ : ∃ w2, w2 = w1.alloc (.cells #[.int .u8 (k : Nat), .int .u32 (e : Nat), .int .u64 (m : Nat)] 34) := ⟨_, rfl⟩
      have H2 : Hid (Blk w2 w1.heap.size 34 [.int .u8 (k : Nat), .int .u32 (e : Nat), .int .u64 (m : Nat)]) := by rw [hw2]; exact Blk.made w1 _ _
      have N2 : Hid (New w1 w2) := by rw [hw2]; exact (Kept.refl _ _).alloc _
      rw [← hw2]
      have P2 := Lib.hid (P1.out.new N2.out)
      have K2 : Hid (Kept (PoolQ Qc gp gb) w w2) := K1.out.new N2.out
      have LH : Hid (∀ b, PoolQ Qc gp gb b → b < w1.heap.size) := fun b hb => by
        rcases hb with hb | rfl | rfl
        · exact P1.out.chip.low b hb
        · exact P1.out.pool.lt
        · exact P1.out.blks.lt
      have HNZ : Hid (((clS s p i).nz : Nat) = s.nz) := HG.out.2.2.1
      have hfd : ∀ w : World, (Instr.field 48 (.agg #[.int .i64 ((clS s p i).nb : Nat), .int .i64 ((clS s p i).np : Nat), .int .i64 ((clS s p i).nz : Nat), .int .i64 ((clS s p i).ns : Nat)]) 2).run Tryz.prog w = .ok (.int .i64 ((clS s p i).nz : Nat)) w := fun _ => by kernel_rfl
      have SA : Hid (∀ wx, New w2 wx → wx.cell? ⟨gp, 0, none⟩ = some (.pointer (some ⟨g, 0, none⟩)) ∧ wx.cell? ⟨w1.heap.size, 0, none⟩ = some (.int .u8 (k : Nat)) ∧ wx.cell? ⟨w1.heap.size, 1, none⟩ = some (.int .u32 (e : Nat)) ∧ wx.cell? ⟨w1.heap.size, 2, none⟩ = some (.int .u64 (m : Nat))) := fun wx h1 =>
        have q1 := P2.out.pool.new h1
        have q2 := H2.out.new h1
        ⟨q1.cell 0, q2.cell 0, q2.cell 1, q2.cell 2⟩
      obtain ⟨s1, s2, s3, s4⟩ := SA.out w2 (Kept.refl _ _)
      have D2 : Hid (New w2 w2.drew) := (Kept.refl _ _).drew
      have HKE : Hid (k < 256 ∧ e < 4294967296 ∧ m < 18446744073709551616) := ⟨hk, he, hm1⟩
      clear hw2 d3 em hmm hm1 hm2 hl hk he P1 K1
      go_region_held3 (fun wx => wx.cell? ⟨gp, 0, none⟩ = some (.pointer (some ⟨g, 0, none⟩)) ∧ wx.cell? ⟨w1.heap.size, 0, none⟩ = some (.int .u8 (k : Nat)) ∧ wx.cell? ⟨w1.heap.size, 1, none⟩ = some (.int .u32 (e : Nat)) ∧ wx.cell? ⟨w1.heap.size, 2, none⟩ = some (.int .u64 (m : Nat)))
        (first
          | assumption
          | exact SA.out _ (Kept.refl _ _)
          | exact SA.out _ D2.out
          | exact SA.out _ ((D2.out.new KG.out).new KP.out)
          | exact SA.out _ (D2.out.new KG.out)
          | fail)
        (first
          | (go_at_call 25; refine (nGeo_any Qc g (clS s p i) _ (P2.out.chip.new D2.out)).mono ?_; rintro r wG ⟨rfl, h1⟩; have KG := Lib.hid h1; clear h1)
          | (go_at_call 70; refine (putHead_any ((clS s p i).nz : Nat) k e m _ HKE.out.1 HKE.out.2.1 HKE.out.2.2).mono ?_; rintro r wP ⟨A3, c3, rfl, h1, h2⟩; have PG := Lib.hid h1.out; have KP := Lib.hid h2.out; clear h1 h2))
      all_goals
        have N3 : Hid (New w2 wP) := (D2.out.new KG.out).new KP.out
        have P3 := Lib.hid (P2.out.new N3.out)
        have H3 := Lib.hid (H2.out.new N3.out)
        have K3 : Hid (Kept (PoolQ Qc gp gb) w wP) := K2.out.new N3.out
        have ZG : Hid (w1.heap.size ≤ wG.heap.size) := Nat.le_trans N2.out.size (D2.out.new KG.out).size
        have AW : Hid (0 < (phL ((clS s p i).nz : Nat) k e m).length → ∀ a, A3 = some a → ¬ Qc a.block) := fun _ a ha q => by
          have h1 := PG.out.away a ha
          have h2 := LH.out _ (.inl q)
          have h3 := ZG.out
          omega
        have BP : Hid (Bts wP A3 (phL ((clS s p i).nz : Nat) k e m).length (phL ((clS s p i).nz : Nat) k e m)) := PG.out.bts
        have d0 : wP.cell? ⟨gp, 0, none⟩ = some (.pointer (some ⟨g, 0, none⟩)) := P3.out.pool.cell 0
        have TE : Hid (progE (clS s p i) i 0 (phL ((clS s p i).nz : Nat) k e m) = trE s p i k e) := by show _ = _; unfold trE; rw [HNZ.out, HMM.out]
        have TS : Hid (progS (clS s p i) i 0 (phL ((clS s p i).nz : Nat) k e m) = trS s p i k e) := by show _ = _; unfold trS; rw [HNZ.out, HMM.out]
        clear s1 s2 s3 s4 SA D2 P2 H2 K2 N2 hfd
        go_wp2_with fail
        refine (nProg_w Qc g (clS s p i) i 0 _ A3 c3 _ _ P3.out.chip HDD.out BP.out AW.out).mono ?_
        rintro r w4 ⟨rfl, h1, h2⟩
        rw [TS.out] at h1
        rw [TE.out]
        have HNB : Hid ((trS s p i k e).nb = (clS s p i).nb) := (progS_geo _ _ _ _).1
        have P4 : Hid (PRep Qc w4 gp gb g (trS s p i k e) (clP s p i)) := P3.out.step h2 h1 HNB.out
        have H4 := Lib.hid (H3.out.kept h2 fun q => by have := LH.out _ (.inl q); omega)
        have K4 : Hid (Kept (PoolQ Qc gp gb) w w4) := K3.out.trans h2 fun _ _ f => .inl f
        clear h1 h2 d0 P3 H3 K3
        have d3 : w4.cell? ⟨gp, 3, none⟩ = some (.int .u64 ((clP s p i).last : Nat)) := P4.out.pool.cell 3
        have f3 := P4.out.pool.free 3
        have hgl := P4.out.pool.lt
        have e2 : w4.cell? ⟨w1.heap.size, 2, none⟩ = some (.int .u64 (m : Nat)) := H4.out.cell 2
        by_cases hE : trE s p i k e = 0
        · have HE := Lib.hid hE
          rw [hE]
          clear hE
          have EV : Hid (trP s p i k e = { (clP s p i) with bl := (clP s p i).bl.set i ⟨1, k, e, m⟩, last := m }) := by
            show _ = _
            unfold trP
            rw [HE.out, if_pos rfl, if_pos (.inl rfl), HMM.out, ← HL.out.2]
          have NBE : Hid ((trS s p i k e).nb = s.nb) := HNB.out.trans HG.out.1
          have hii : (i : Int) < (s.nb : Int) := by have := HI.out; omega
          have hnb : s.nb ≤ 64 := by rw [← NBE.out]; exact P4.out.chip.ok.nb2
          obtain ⟨w5, hw5⟩ : ∃ w5, w5 = w4.setCell ⟨gp, 3, none⟩ (.int .u64 (m : Nat)) := ⟨_, rfl⟩
          have P5 := Lib.hid (P4.out.setLast HKE.out.2.2 hw5)
          have H5 : Hid (Blk w5 w1.heap.size 34 [.int .u8 (k : Nat), .int .u32 (e : Nat), .int .u64 (m : Nat)]) := by
            rw [hw5]
            exact H4.out.kept (Kept.set1 _ _ _ _) fun q => by
              have h1 := LH.out gp (.inr (.inl rfl))
              omega
          have K5 : Hid (Kept (PoolQ Qc gp gb) w w5) := by rw [hw5]; exact K4.out.setCell (p := ⟨gp, 3, none⟩) (fun _ => .inr (.inl rfl)) _
          have HW5 := Lib.hid hw5
          clear hw5
          go_wp2_with fail
          rw [← HW5.out]
          clear HW5 d3 f3 hgl e2
          have d1 : w5.cell? ⟨gp, 1, none⟩ = some (.slice (some ⟨gb, 0, none⟩) s.nb s.nb) := by rw [← NBE.out]; exact P5.out.pool.cell 1
          have e0 : w5.cell? ⟨w1.heap.size, 0, none⟩ = some (.int .u8 (k : Nat)) := H5.out.cell 0
          have e1 : w5.cell? ⟨w1.heap.size, 1, none⟩ = some (.int .u32 (e : Nat)) := H5.out.cell 1
          have e2 : w5.cell? ⟨w1.heap.size, 2, none⟩ = some (.int .u64 (m : Nat)) := H5.out.cell 2
          go_still_tail 8, (by kernel_rfl)
          change wpList _ _ _ _ _ w5.drew
          have P6 : Hid (PRep Qc w5.drew gp gb g (trS s p i k e) { (clP s p i) with last := m }) := P5.out.new ((Kept.refl _ _).drew)
          have K6 : Hid (Kept (PoolQ Qc gp gb) w w5.drew) := K5.out.drew
          clear d1 e0 e1 e2 P5 K5 H5
          generalize w5.drew = w6 at *
          have q0 := P6.out.blks.free (i * 4)
          have q1 := P6.out.blks.free (i * 4 + 1)
          have q2 := P6.out.blks.free (i * 4 + 2)
          have q3 := P6.out.blks.free (i * 4 + 3)
          obtain ⟨b, hb⟩ := P6.out.get (i := i) (by rw [NBE.out]; exact HI.out)
          have r0 : w6.cell? ⟨gb, i * 4, none⟩ = some (.int .u8 (b.w : Nat)) := P6.out.bcell (j := 0) hb (by omega) rfl
          have r1 : w6.cell? ⟨gb, i * 4 + 1, none⟩ = some (.int .u8 (b.k : Nat)) := P6.out.bcell (j := 1) hb (by omega) rfl
          have r2 : w6.cell? ⟨gb, i * 4 + 2, none⟩ = some (.int .u32 (b.e : Nat)) := P6.out.bcell (j := 2) hb (by omega) rfl
          have r3 : w6.cell? ⟨gb, i * 4 + 3, none⟩ = some (.int .u64 (b.s : Nat)) := P6.out.bcell (j := 3) hb (by omega) rfl
          have hlt : i < ({ (clP s p i) with last := m } : PSt).bl.length := by rw [P6.out.len, NBE.out]; exact HI.out
          obtain ⟨w7, hw7⟩ : ∃ w7, w7 = (((w6.setCell ⟨gb, i * 4, none⟩ (.int .u8 ((1 : Nat) : Int))).setCell ⟨gb, i * 4 + 1, none⟩ (.int .u8 (k : Nat))).setCell ⟨gb, i * 4 + 2, none⟩ (.int .u32 (e : Nat))).setCell ⟨gb, i * 4 + 3, none⟩ (.int .u64 (m : Nat)) := ⟨_, rfl⟩
          obtain ⟨bs, ks⟩ := blk_store (b := ⟨1, k, e, m⟩) P6.out.blks hlt hw7
          have E7 : Hid (StepP Qc w gp gb g (trS s p i k e) (trP s p i k e) (trE s p i k e) (.returned (.int .i64 0)) w7) := by
            refine ⟨by rw [HE.out], ?_, K6.out.trans ks fun _ _ x => .inr (.inr x)⟩
            rw [EV.out]
            exact P6.out.put ks ⟨by show 1 ≤ 2; omega, HKE.out.1, HKE.out.2.1, HKE.out.2.2⟩ bs
          have HW7 := Lib.hid hw7
          clear hw7 bs ks hb hlt
          go_wp2
          go_ret
          have E8 := E7.out
          rw [HW7.out] at E8
          exact E8
        · by_cases hE9 : trE s p i k e = 9
          · have HE := Lib.hid hE9
            have EV : Hid (trP s p i k e = { (clP s p i) with last := m }) := by
              show _ = _
              unfold trP
              rw [HE.out, if_neg (by decide), if_pos (.inr rfl), HMM.out, ← HL.out.2]
            rw [hE9]
            clear hE hE9
            obtain ⟨w5, hw5⟩ : ∃ w5, w5 = w4.setCell ⟨gp, 3, none⟩ (.int .u64 (m : Nat)) := ⟨_, rfl⟩
            have E5 : Hid (StepP Qc w gp gb g (trS s p i k e) (trP s p i k e) (trE s p i k e) (.returned (.int .i64 9)) w5) := by
              refine ⟨by rw [HE.out], ?_, ?_⟩
              · rw [EV.out]; exact P4.out.setLast HKE.out.2.2 hw5
              · rw [hw5]; exact K4.out.setCell (p := ⟨gp, 3, none⟩) (fun _ => .inr (.inl rfl)) _
            have HW5 := Lib.hid hw5
            clear hw5
            go_wp2
            go_ret
            have E6 := E5.out
            rw [HW5.out] at E6
            exact E6
          · have EV : Hid (trP s p i k e = clP s p i) := by
              show _ = _
              unfold trP
              rw [if_neg hE, if_neg (fun h => h.elim hE hE9), ← HL.out.2, ← HL.out.1]
            have E5 : Hid (StepP Qc w gp gb g (trS s p i k e) (trP s p i k e) (trE s p i k e) (.returned (.int .i64 (trE s p i k e))) w4) := ⟨rfl, by rw [EV.out]; exact P4.out, K4.out⟩
            have q1 : (trE s p i k e == 0) = false := beq_eq_false_iff_ne.2 hE
            have q2 : (trE s p i k e == 9) = false := beq_eq_false_iff_ne.2 hE9
            clear TE TS
            generalize trE s p i k e = x at *
            clear hE hE9
            go_wp2
            go_ret
            exact E5.out
    · have E1 : tryS s p i k e = clS s p i := by unfold tryS; rw [if_neg hm, if_pos hc]
      have E2 : tryP s p i k e = clP s p i := by unfold tryP; rw [if_neg hm, if_pos hc]
      have E3 : tryE s p i k e = clE s p i := by unfold tryE; rw [if_neg hm, if_pos hc]
      rw [E1, E2, E3]
      have hdd0 : Hid (s.deeds < 4611686018427387904) := by show _ < _; omega
      have hq : (clE s p i == 0) = false := beq_eq_false_iff_ne.2 hc
      clear h hi hd E1 E2 E3 hm hc
      go_enter Tryz.func55, Tryz.ntmps55
      go_wp2_with fail
      refine (pClear_any _ _ _ _ _ _ _ _ HP.out HI.out hdd0.out).mono ?_
      rintro r w1 ⟨rfl, h1, h2⟩
      have R : Hid (StepP Qc w gp gb g (clS s p i) (clP s p i) (clE s p i) (.returned (.int .i64 (clE s p i))) w1) := ⟨rfl, h1, h2⟩
      clear h1 h2
      generalize clE s p i = x at *
      go_wp2
      go_ret
      exact R.out
end Go.Proofs.YtgfdiboaiifdnaaGreat
