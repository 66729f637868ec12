/-
  A pool's Take and Free.
-/
import Derived.Test.YtgfdiboaiifdnaaGreatGi
namespace Go.Proofs.YtgfdiboaiifdnaaGreat
open Go.ChangeShapes Go.WideShapes Go.ChangeAt Go.RowKit

theorem tryS_geo (s : CSt) (p : PSt) (i k e : Nat) : (tryS s p i k e).nb = s.nb := by
  unfold tryS
  split
  · rfl
  · split
    · exact (clS_geo s p i).1
    · exact ((progS_geo _ _ _ _).1).trans (clS_geo s p i).1
theorem tryS_deeds (s : CSt) (p : PSt) (i k e : Nat) : (tryS s p i k e).deeds ≤ s.deeds + 2 := by
  have h := clS_deeds s p i
  unfold tryS
  split
  · omega
  · split
    · omega
    · have := progS_deeds (clS s p i) i 0 (phL s.nz k e (p.last + 1))
      unfold trS
      omega

/-- What a take comes to, block by block. -/
structure TkR where
  b : Int
  e : Int
  s : CSt
  p : PSt
def takeGo (k e : Nat) : Nat → CSt → PSt → Nat → TkR
  | 0, s, p, _ => ⟨0, 11, s, p⟩
  | n + 1, s, p, i =>
    if frV s p i = true then
      (if tryE s p i k e = 0 then ⟨i, 0, tryS s p i k e, { tryP s p i k e with next := (i + 1) % s.nb }⟩
       else if tryE s p i k e = 9 then takeGo k e n (tryS s p i k e) { tryP s p i k e with bl := (tryP s p i k e).bl.set i (lookV (tryS s p i k e) i) } ((i + 1) % s.nb)
       else ⟨0, tryE s p i k e, tryS s p i k e, tryP s p i k e⟩)
    else takeGo k e n s p ((i + 1) % s.nb)
def takeR (k e : Nat) (s : CSt) (p : PSt) : TkR :=
  if ¬ ((1 ≤ k ∧ k ≤ 3) ∧ 1 ≤ e) then ⟨0, 2, s, p⟩ else if s.dead = true then ⟨0, 10, s, p⟩ else takeGo k e s.nb s p p.next
def TakeRP (Qc : Nat → Prop) (w : World) (gp gb g : Nat) (r : TkR) (e : Ending) (w' : World) : Prop :=
  e = .returned (.tuple #[.int .i64 r.b, .int .i64 r.e]) ∧ PRep Qc w' gp gb g r.s r.p ∧ Kept (PoolQ Qc gp gb) w w'

theorem ref00 (s : CSt) (ok : s.Ok) : readE s 0 0 = if s.dead = true then 10 else 0 := by
  unfold readE refE
  split
  · rfl
  · rw [if_pos ⟨⟨by omega, by have := ok.nb1; omega⟩, by omega, by have := ok.np1; omega⟩]

set_option maxRecDepth 100000 in
set_option maxHeartbeats 3200000 in
theorem pTake_go (Qc : Nat → Prop) (gp gb g : Nat) (s : CSt) (p : PSt) (k e : Nat) (w : World) (h : PRep Qc w gp gb g s p) (hd : s.deeds < 2305843009213693952) (hk : k < 256) (he : e < 4294967296) (hkk : 1 ≤ k ∧ k ≤ 3) (hee : 1 ≤ e) (hal : s.dead = false) :
    Calls Tryz.prog 34 #[.pointer (some ⟨gp, 0, none⟩), .int .u8 (k : Nat), .int .u32 (e : Nat)] w (TakeRP Qc w gp gb g (takeGo k e s.nb s p p.next)) := by
  have HP := Lib.hid h
  have HKK := Lib.hid (decide_eq_true hkk)
  have HA : Hid (readE s 0 0 = 0) := by show _ = _; rw [ref00 s h.chip.ok, hal]; rfl
  have HB := Lib.hid (And.intro hk he)
  have HD := Lib.hid hd
  have hnb := h.chip.ok.nb2
  have hnx := h.next
  have he2 : ((e : Int) == 0) = false := beq_eq_false_iff_ne.2 (by omega)
  have he3 : (e == 0) = false := beq_eq_false_iff_ne.2 (by omega)
  clear h hd hkk hal hk he hee
  go_enter Tryz.func34, Tryz.ntmps34
  go_wp2_with fail
  refine (pNone_no _ _ _ _ _ _ _ HP.out).mono ?_
  rintro r w' ⟨rfl, rfl⟩
  go_wp2_with fail
  refine (kind_any k _).mono ?_
  rintro r w' ⟨rfl, rfl⟩
  rw [HKK.out]
  have c0 : w.cell? ⟨gp, 0, none⟩ = some (.pointer (some ⟨g, 0, none⟩)) := HP.out.pool.cell 0
  go_wp2_with fail
  refine (nRead_any _ _ _ 0 0 _ HP.out.chip).mono ?_
  rintro r w1 ⟨A1, c1, rfl, h1, h2⟩
  have P1 := Lib.hid (HP.out.new h2)
  have K1 : Hid (Kept (PoolQ Qc gp gb) w w1) := h2.mono fun _ _ f => f.elim
  rw [HA.out]
  have d1 : w1.cell? ⟨gp, 1, none⟩ = some (.slice (some ⟨gb, 0, none⟩) s.nb s.nb) := P1.out.pool.cell 1
  have d2 : w1.cell? ⟨gp, 2, none⟩ = some (.int .i64 (p.next : Nat)) := P1.out.pool.cell 2
  clear h1 h2 c0
  generalize (readL s 0 0).length = rl at *
  go_wp2_with fail
  go_loopw [10, 11, 41] (fun ti _ tk wr => ∃ (j : Nat) (s' : CSt) (p' : PSt) (i : Nat), j ≤ s.nb ∧ i < s.nb ∧ ti = .int .i64 i ∧ tk = .int .i64 j ∧ Hid (takeGo k e (s.nb - j) s' p' i = takeGo k e s.nb s p p.next) ∧ Hid (PRep Qc wr gp gb g s' p') ∧ Hid (s'.nb = s.nb) ∧ Hid (s'.deeds ≤ s.deeds + 2 * j) ∧ Hid (Kept (PoolQ Qc gp gb) w wr)) (fun _ _ tk _ => s.nb - (intOf tk).toNat)
  case atStart => exact ⟨0, s, p, p.next, Nat.zero_le _, hnx, rfl, rfl, rfl, P1, rfl, Nat.le_refl _, K1⟩
  case round =>
    obtain ⟨j, s', p', i, hj, hi, rfl, rfl, VT, VP, VN, VD, VK⟩ := hrel
    clear P1 K1 d1 d2
    by_cases hlt : j < s.nb
    · have hi2 : Hid (i < s'.nb) := by rw [VN.out]; exact hi
      have hstep : Hid (s.nb - j = (s.nb - (j + 1)) + 1) := by show _ = _; omega
      have hnx2 : Hid ((i + 1) % s.nb < s.nb) := Nat.mod_lt _ (by omega)
      have hj1 : j + 1 ≤ s.nb := by omega
      by_cases hf : frV s' p' i = true
      · have HF := Lib.hid hf
        have HDT : Hid (s'.deeds < 4611686018427387903) := by have h1 := VD.out; have h2 := HD.out; show _ < _; omega
        go_wp2_with fail
        refine (pFree_any _ _ _ _ _ _ _ _ VP.out hi2.out).mono ?_
        rintro r w' ⟨rfl, rfl⟩
        rw [HF.out]
        go_wp2_with fail
        refine (pTry_any _ _ _ _ _ _ i k e _ VP.out hi2.out HDT.out HB.out.1 HB.out.2).mono ?_
        rintro r w2 ⟨rfl, h1, h2⟩
        have P2 := Lib.hid h1
        have K2 : Hid (Kept (PoolQ Qc gp gb) w w2) := VK.out.trans h2 fun _ _ f => f
        have NB2 : Hid ((tryS s' p' i k e).nb = s.nb) := (tryS_geo s' p' i k e).trans VN.out
        have DD2 : Hid ((tryS s' p' i k e).deeds ≤ s.deeds + 2 * (j + 1)) := by have h1 := tryS_deeds s' p' i k e; have h2 := VD.out; show _ ≤ _; omega
        clear h1 h2
        by_cases hE : tryE s' p' i k e = 0
        · have RV : Hid (takeGo k e s.nb s p p.next = ⟨i, 0, tryS s' p' i k e, { tryP s' p' i k e with next := (i + 1) % s.nb }⟩) := by
            show _ = _
            rw [← VT.out, hstep.out]
            simp only [takeGo]
            rw [if_pos hf, if_pos hE, VN.out]
          rw [hE]
          clear hE hf
          go_wp2_with fail
          refine (pBehind_any _ _ _ _ _ _ i _ P2.out (by rw [NB2.out]; exact hi)).mono ?_
          rintro r w' ⟨rfl, rfl⟩
          rw [NB2.out]
          generalize (i + 1) % s.nb = nx at *
          have d2 : w2.cell? ⟨gp, 2, none⟩ = some (.int .i64 ((tryP s' p' i k e).next : Nat)) := P2.out.pool.cell 2
          have f2 := P2.out.pool.free 2
          have hgl := P2.out.pool.lt
          obtain ⟨w3, hw3⟩ : ∃ w3, w3 = w2.setCell ⟨gp, 2, none⟩ (.int .i64 (nx : Nat)) := ⟨_, rfl⟩
          have E3 : Hid (TakeRP Qc w gp gb g (takeGo k e s.nb s p p.next) (.returned (.tuple #[.int .i64 (i : Nat), .int .i64 0])) w3) := by
            rw [RV.out]
            refine ⟨rfl, P2.out.setNext (by rw [NB2.out]; exact hnx2.out) hw3, ?_⟩
            rw [hw3]
            exact K2.out.setCell (p := ⟨gp, 2, none⟩) (fun _ => .inr (.inl rfl)) _
          have HW3 := Lib.hid hw3
          clear hw3
          go_wp2
          go_ret2
          have E4 := E3.out
          rw [HW3.out] at E4
          exact E4
        · by_cases hE9 : tryE s' p' i k e = 9
          · have RV : Hid (takeGo k e (s.nb - (j + 1)) (tryS s' p' i k e) { tryP s' p' i k e with bl := (tryP s' p' i k e).bl.set i (lookV (tryS s' p' i k e) i) } ((i + 1) % s.nb) = takeGo k e s.nb s p p.next) := by
              show _ = _
              rw [← VT.out, hstep.out]
              simp only [takeGo]
              rw [if_pos hf, if_neg hE, if_pos hE9, VN.out]
            rw [hE9]
            clear hE hE9 hf
            go_wp2_with fail
            refine (pLook_any _ _ _ _ _ _ i _ P2.out (by rw [NB2.out]; exact hi)).mono ?_
            rintro r w3 ⟨rfl, h1, h2⟩
            have P3 := Lib.hid h1
            have K3 : Hid (Kept (PoolQ Qc gp gb) w w3) := K2.out.trans h2 fun _ _ f => .inr (.inr f)
            clear h1 h2
            go_wp2_with fail
            refine (pBehind_any _ _ _ _ _ _ i _ P3.out (by rw [NB2.out]; exact hi)).mono ?_
            rintro r w' ⟨rfl, rfl⟩
            rw [NB2.out]
            generalize (i + 1) % s.nb = nx at *
            have hnx3 := hnx2.out
            go_wp2
            go_roundw
            case rel => exact ⟨j + 1, _, _, nx, hj1, hnx3, rfl, by go_num, RV, P3, NB2, DD2, K3⟩
            case measure => simp [intOf]; omega
          · have RV : Hid (takeGo k e s.nb s p p.next = ⟨0, tryE s' p' i k e, tryS s' p' i k e, tryP s' p' i k e⟩) := by
              show _ = _
              rw [← VT.out, hstep.out]
              simp only [takeGo]
              rw [if_pos hf, if_neg hE, if_neg hE9]
            have E3 : Hid (TakeRP Qc w gp gb g (takeGo k e s.nb s p p.next) (.returned (.tuple #[.int .i64 0, .int .i64 (tryE s' p' i k e)])) w2) := by
              rw [RV.out]
              exact ⟨rfl, P2.out, K2.out⟩
            have q1 : (tryE s' p' i k e == 0) = false := beq_eq_false_iff_ne.2 hE
            have q2 : (tryE s' p' i k e == 9) = false := beq_eq_false_iff_ne.2 hE9
            clear RV
            generalize tryE s' p' i k e = x at *
            clear hE hE9 hf
            go_wp2
            go_ret2
            exact E3.out
      · have hf2 : frV s' p' i = false := by simpa using hf
        have HF := Lib.hid hf2
        have RV : Hid (takeGo k e (s.nb - (j + 1)) s' p' ((i + 1) % s.nb) = takeGo k e s.nb s p p.next) := by
          show _ = _
          rw [← VT.out, hstep.out]
          simp only [takeGo]
          rw [if_neg hf, VN.out]
        have DD2 : Hid (s'.deeds ≤ s.deeds + 2 * (j + 1)) := by have h2 := VD.out; show _ ≤ _; omega
        clear hf hf2
        go_wp2_with fail
        refine (pFree_any _ _ _ _ _ _ _ _ VP.out hi2.out).mono ?_
        rintro r w' ⟨rfl, rfl⟩
        rw [HF.out]
        go_wp2_with fail
        refine (pBehind_any _ _ _ _ _ _ i _ VP.out hi2.out).mono ?_
        rintro r w' ⟨rfl, rfl⟩
        rw [VN.out]
        generalize (i + 1) % s.nb = nx at *
        have hnx3 := hnx2.out
        go_wp2
        go_roundw
        case rel => exact ⟨j + 1, _, _, nx, hj1, hnx3, rfl, by go_num, RV, VP, VN, DD2, VK⟩
        case measure => simp [intOf]; omega
    · have RV : Hid (takeGo k e s.nb s p p.next = ⟨0, 11, s', p'⟩) := by
        show _ = _
        rw [← VT.out, show s.nb - j = 0 by omega]
        rfl
      have E3 : Hid (TakeRP Qc w gp gb g (takeGo k e s.nb s p p.next) (.returned (.tuple #[.int .i64 0, .int .i64 11])) wr) := by
        rw [RV.out]
        exact ⟨rfl, VP.out, VK.out⟩
      go_wp2
      go_ret2
      exact E3.out
end Go.Proofs.YtgfdiboaiifdnaaGreat
