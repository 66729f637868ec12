/-
  A pool's Last, Chip, Blanks, erase, clear.
-/
import Derived.Test.YtgfdiboaiifdnaaGreatGg
namespace Go.Proofs.YtgfdiboaiifdnaaGreat
open Go.ChangeShapes Go.WideShapes Go.ChangeAt Go.RowKit

/-- What a pool's calls may write. -/
def PoolQ (Qc : Nat → Prop) (gp gb b : Nat) : Prop := Qc b ∨ b = gp ∨ b = gb
theorem PRep.step {Qc : Nat → Prop} {w w' : World} {gp gb g : Nat} {s s' : CSt} {p : PSt} (h : PRep Qc w gp gb g s p) (hk : Kept Qc w w') (hc : NChip Qc w' g s') (hn : s'.nb = s.nb) : PRep Qc w' gp gb g s' p :=
  { chip := hc, pool := by rw [hn]; exact h.pool.kept hk h.np, blks := h.blks.kept hk h.nb, len := by rw [hn]; exact h.len, next := by rw [hn]; exact h.next, last := h.last, okb := h.okb, np := h.np, nb := h.nb }

def eraP (s : CSt) (p : PSt) (i : Nat) : PSt := if erasE s i = 0 then { p with bl := p.bl.set i ⟨0, 0, 0, 0⟩ } else p
def StepP (Qc : Nat → Prop) (w : World) (gp gb g : Nat) (s : CSt) (p : PSt) (er : Int) (e : Ending) (w' : World) : Prop := e = .returned (.int .i64 er) ∧ PRep Qc w' gp gb g s p ∧ Kept (PoolQ Qc gp gb) w w'

set_option maxRecDepth 100000 in
set_option maxHeartbeats 1600000 in
theorem pErase_any (Qc : Nat → Prop) (gp gb g : Nat) (s : CSt) (p : PSt) (i : Nat) (w : World) (h : PRep Qc w gp gb g s p) (hi : i < s.nb) (hd : s.deeds < 4611686018427387904) :
    Calls Tryz.prog 56 #[.pointer (some ⟨gp, 0, none⟩), .int .i64 (i : Nat)] w (StepP Qc w gp gb g (erasS s i) (eraP s p i) (erasE s i)) := by
  have HP := Lib.hid h
  have HD := Lib.hid hd
  have HI := Lib.hid hi
  have c0 : w.cell? ⟨gp, 0, none⟩ = some (.pointer (some ⟨g, 0, none⟩)) := h.pool.cell 0
  have HG := Lib.hid (erasS_geo s i).1
  have hii : (i : Int) < (s.nb : Int) := by omega
  have hnb := h.chip.ok.nb2
  have hlt : Hid (i < p.bl.length) := by rw [h.len]; exact hi
  clear h hd
  go_enter Tryz.func56, Tryz.ntmps56
  go_wp2_with fail
  refine (nErase_any Qc g s i _ HP.out.chip HD.out).mono ?_
  rintro e w1 ⟨rfl, h1, h2⟩
  have P1 := Lib.hid (HP.out.step h2 h1 HG.out)
  have K1 := Lib.hid h2
  clear h1 h2 c0
  by_cases hE : erasE s i = 0
  · have EV : Hid (eraP s p i = { p with bl := p.bl.set i ⟨0, 0, 0, 0⟩ }) := by show _ = _; unfold eraP; rw [if_pos hE]
    have HE := Lib.hid hE
    rw [hE]
    clear hE
    have d1 : w1.cell? ⟨gp, 1, none⟩ = some (.slice (some ⟨gb, 0, none⟩) s.nb s.nb) := by rw [← HG.out]; exact P1.out.pool.cell 1
    have q0 := P1.out.blks.free (i * 4)
    have q1 := P1.out.blks.free (i * 4 + 1)
    have q2 := P1.out.blks.free (i * 4 + 2)
    have q3 := P1.out.blks.free (i * 4 + 3)
    obtain ⟨b, hb⟩ := HP.out.get HI.out
    have r0 : w1.cell? ⟨gb, i * 4, none⟩ = some (.int .u8 (b.w : Nat)) := P1.out.bcell (j := 0) hb (by omega) rfl
    have r1 : w1.cell? ⟨gb, i * 4 + 1, none⟩ = some (.int .u8 (b.k : Nat)) := P1.out.bcell (j := 1) hb (by omega) rfl
    have r2 : w1.cell? ⟨gb, i * 4 + 2, none⟩ = some (.int .u32 (b.e : Nat)) := P1.out.bcell (j := 2) hb (by omega) rfl
    have r3 : w1.cell? ⟨gb, i * 4 + 3, none⟩ = some (.int .u64 (b.s : Nat)) := P1.out.bcell (j := 3) hb (by omega) rfl
    obtain ⟨w5, hw5⟩ : ∃ w5, w5 = (((w1.setCell ⟨gb, i * 4, none⟩ (.int .u8 ((0 : Nat) : Int))).setCell ⟨gb, i * 4 + 1, none⟩ (.int .u8 ((0 : Nat) : Int))).setCell ⟨gb, i * 4 + 2, none⟩ (.int .u32 ((0 : Nat) : Int))).setCell ⟨gb, i * 4 + 3, none⟩ (.int .u64 ((0 : Nat) : Int)) := ⟨_, rfl⟩
    obtain ⟨bs, ks⟩ := blk_store (b := ⟨0, 0, 0, 0⟩) P1.out.blks hlt.out hw5
    have E5 : Hid (StepP Qc w gp gb g (erasS s i) (eraP s p i) (erasE s i) (.returned (.int .i64 0)) w5) := by
      refine ⟨by rw [HE.out], ?_, (K1.out.mono (S' := PoolQ Qc gp gb) fun _ _ f => .inl f).trans ks fun _ _ x => .inr (.inr x)⟩
      rw [EV.out]
      exact P1.out.put ks ⟨by show 0 ≤ 2; omega, by show 0 < 256; omega, by show 0 < 4294967296; omega, by show 0 < 18446744073709551616; omega⟩ bs
    have HW5 := Lib.hid hw5
    clear hw5 bs ks hb
    go_wp2
    go_ret
    have E6 := E5.out
    rw [HW5.out] at E6
    exact E6
  · have EV : Hid (eraP s p i = p) := by show _ = _; unfold eraP; rw [if_neg hE]
    have hq : (erasE s i == 0) = false := beq_eq_false_iff_ne.2 hE
    have E5 : Hid (StepP Qc w gp gb g (erasS s i) (eraP s p i) (erasE s i) (.returned (.int .i64 (erasE s i))) w1) := by
      refine ⟨rfl, ?_, K1.out.mono fun _ _ f => .inl f⟩
      rw [EV.out]
      exact P1.out
    generalize erasE s i = x at *
    clear hE
    go_wp2
    go_ret
    exact E5.out

def clE (s : CSt) (p : PSt) (i : Nat) : Int := if isV s p i = 2 then erasE s i else 0
def clS (s : CSt) (p : PSt) (i : Nat) : CSt := if isV s p i = 2 then erasS s i else s
def clP (s : CSt) (p : PSt) (i : Nat) : PSt := if isV s p i = 2 then eraP s p i else p

set_option maxRecDepth 100000 in
set_option maxHeartbeats 1600000 in
theorem pClear_any (Qc : Nat → Prop) (gp gb g : Nat) (s : CSt) (p : PSt) (i : Nat) (w : World) (h : PRep Qc w gp gb g s p) (hi : i < s.nb) (hd : s.deeds < 4611686018427387904) :
    Calls Tryz.prog 69 #[.pointer (some ⟨gp, 0, none⟩), .int .i64 (i : Nat)] w (StepP Qc w gp gb g (clS s p i) (clP s p i) (clE s p i)) := by
  have HP := Lib.hid h
  have HI := Lib.hid hi
  have HD := Lib.hid hd
  have hle := isV_le h hi
  by_cases h2 : isV s p i = 2
  · have E1 : clS s p i = erasS s i := by unfold clS; rw [if_pos h2]
    have E2 : clP s p i = eraP s p i := by unfold clP; rw [if_pos h2]
    have E3 : clE s p i = erasE s i := by unfold clE; rw [if_pos h2]
    rw [E1, E2, E3]
    have H2 := Lib.hid h2
    clear h hi hd E1 E2 E3 h2 hle
    go_enter Tryz.func69, Tryz.ntmps69
    go_wp2_with fail
    refine (pIs_any _ _ _ _ _ _ _ _ HP.out HI.out).mono ?_
    rintro e w' ⟨rfl, rfl⟩
    rw [H2.out]
    go_wp2_with fail
    refine (pErase_any _ _ _ _ _ _ _ _ HP.out HI.out HD.out).mono ?_
    rintro e w' ⟨rfl, h1, h2⟩
    have R : Hid (StepP Qc w gp gb g (erasS s i) (eraP s p i) (erasE s i) (.returned (.int .i64 (erasE s i))) w') := ⟨rfl, h1, h2⟩
    clear h1 h2
    go_wp2
    go_ret
    exact R.out
  · have E1 : clS s p i = s := by unfold clS; rw [if_neg h2]
    have E2 : clP s p i = p := by unfold clP; rw [if_neg h2]
    have E3 : clE s p i = 0 := by unfold clE; rw [if_neg h2]
    rw [E1, E2, E3]
    have H2 : Hid (∀ v, isV s p i = v → v ≤ 3 ∧ v ≠ 2) := by rintro v rfl; exact ⟨hle, h2⟩
    obtain ⟨v, hv⟩ : ∃ v, isV s p i = v := ⟨_, rfl⟩
    have HV := Lib.hid hv
    obtain ⟨v1, v2⟩ := H2.out v hv
    clear h hi hd E1 E2 E3 h2 hle H2 hv
    obtain rfl | rfl | rfl : v = 0 ∨ v = 1 ∨ v = 3 := by omega
    all_goals
      go_enter Tryz.func69, Tryz.ntmps69
      go_wp2_with fail
      refine (pIs_any _ _ _ _ _ _ _ _ HP.out HI.out).mono ?_
      rintro e w' ⟨rfl, rfl⟩
      rw [HV.out]
      go_wp2
      go_ret
      exact ⟨rfl, HP.out, Kept.refl _ _⟩

set_option maxRecDepth 100000 in
set_option maxHeartbeats 800000 in
theorem pLast_any (Qc : Nat → Prop) (gp gb g : Nat) (s : CSt) (p : PSt) (w : World) (h : PRep Qc w gp gb g s p) :
    Calls Tryz.prog 31 #[.pointer (some ⟨gp, 0, none⟩)] w fun e w' => e = .returned (.int .u64 (p.last : Nat)) ∧ w = w' := by
  have HP := Lib.hid h
  have c3 : w.cell? ⟨gp, 3, none⟩ = some (.int .u64 (p.last : Nat)) := h.pool.cell 3
  clear h
  go_enter Tryz.func31, Tryz.ntmps31
  go_wp2_with fail
  refine (pNone_no _ _ _ _ _ _ _ HP.out).mono ?_
  rintro e w' ⟨rfl, rfl⟩
  go_wp2
  go_ret
  exact ⟨rfl, rfl⟩

set_option maxRecDepth 100000 in
set_option maxHeartbeats 800000 in
theorem pChip_any (Qc : Nat → Prop) (gp gb g : Nat) (s : CSt) (p : PSt) (w : World) (h : PRep Qc w gp gb g s p) :
    Calls Tryz.prog 33 #[.pointer (some ⟨gp, 0, none⟩)] w fun e w' => e = .returned (.pointer (some ⟨g, 0, none⟩)) ∧ w = w' := by
  have HP := Lib.hid h
  have c0 : w.cell? ⟨gp, 0, none⟩ = some (.pointer (some ⟨g, 0, none⟩)) := h.pool.cell 0
  clear h
  go_enter Tryz.func33, Tryz.ntmps33
  go_wp2_with fail
  refine (pNone_no _ _ _ _ _ _ _ HP.out).mono ?_
  rintro e w' ⟨rfl, rfl⟩
  go_wp2
  go_ret
  exact ⟨rfl, rfl⟩

/-- How many blocks below k can be taken. -/
def frN (s : CSt) (p : PSt) : Nat → Nat
  | 0 => 0
  | k + 1 => frN s p k + (if frV s p k = true then 1 else 0)
theorem frN_le (s : CSt) (p : PSt) : ∀ k, frN s p k ≤ k := by
  intro k
  induction k with
  | zero => exact Nat.le_refl _
  | succ k ih => simp only [frN]; split <;> omega

set_option maxRecDepth 100000 in
set_option maxHeartbeats 800000 in
theorem pBlanks_any (Qc : Nat → Prop) (gp gb g : Nat) (s : CSt) (p : PSt) (w : World) (h : PRep Qc w gp gb g s p) :
    Calls Tryz.prog 29 #[.pointer (some ⟨gp, 0, none⟩)] w fun e w' => e = .returned (.int .i64 (frN s p s.nb : Nat)) ∧ w = w' := by
  have HP := Lib.hid h
  have c1 : w.cell? ⟨gp, 1, none⟩ = some (.slice (some ⟨gb, 0, none⟩) s.nb s.nb) := h.pool.cell 1
  have hnb := h.chip.ok.nb2
  clear h
  go_enter Tryz.func29, Tryz.ntmps29
  go_wp2_with fail
  refine (pNone_no _ _ _ _ _ _ _ HP.out).mono ?_
  rintro e w' ⟨rfl, rfl⟩
  go_wp2_with fail
  go_loop [3, 4, 12] (fun n _ t => ∃ k : Nat, k ≤ s.nb ∧ t = .int .i64 k ∧ n = .int .i64 (frN s p k : Nat)) (fun _ _ t => s.nb - (intOf t).toNat)
  case atStart => exact ⟨0, Nat.zero_le _, rfl, rfl⟩
  case round =>
    obtain ⟨k, hk, rfl, rfl⟩ := hrel
    have hfl := frN_le s p k
    by_cases hlt : k < s.nb
    · have hlt2 := Lib.hid hlt
      by_cases hf : frV s p k = true
      · have HF := Lib.hid hf
        have E : Hid (frN s p (k + 1) = frN s p k + 1) := by show _ = _; simp only [frN]; rw [if_pos hf]
        clear hf
        go_wp2_with fail
        refine (pFree_any _ _ _ _ _ _ k _ HP.out hlt2.out).mono ?_
        rintro e w' ⟨rfl, rfl⟩
        rw [HF.out]
        generalize frN s p k = m at *
        go_wp2
        go_round
        case rel => exact ⟨k + 1, by omega, by go_num, by rw [E.out]; go_num⟩
        case measure => simp [intOf]; omega
      · have hf2 : frV s p k = false := by simpa using hf
        have HF := Lib.hid hf2
        have E : Hid (frN s p (k + 1) = frN s p k) := by show _ = _; simp only [frN]; rw [if_neg hf]; rfl
        clear hf hf2
        go_wp2_with fail
        refine (pFree_any _ _ _ _ _ _ k _ HP.out hlt2.out).mono ?_
        rintro e w' ⟨rfl, rfl⟩
        rw [HF.out]
        go_wp2
        go_round
        case rel => exact ⟨k + 1, by omega, by go_num, by rw [E.out]⟩
        case measure => simp [intOf]; omega
    · obtain rfl : k = s.nb := by omega
      go_wp2
      go_ret
      exact ⟨rfl, rfl⟩
end Go.Proofs.YtgfdiboaiifdnaaGreat
