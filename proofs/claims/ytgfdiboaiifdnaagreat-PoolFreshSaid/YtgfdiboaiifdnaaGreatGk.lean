/-
  Take whatever is asked for; Free.
-/
import Derived.Test.YtgfdiboaiifdnaaGreatGj
namespace Go.Proofs.YtgfdiboaiifdnaaGreat
open Go.ChangeShapes Go.WideShapes Go.ChangeAt Go.RowKit

set_option maxRecDepth 100000 in
set_option maxHeartbeats 1600000 in
theorem pTake_any (Qc : Nat → Prop) (gp gb g : Nat) (s : CSt) (p : PSt) (k e : Nat) (w : World) (h : PRep Qc w gp gb g s p) (hd : s.deeds < 2305843009213693952) (hk : k < 256) (he : e < 4294967296) :
    Calls Tryz.prog 34 #[.pointer (some ⟨gp, 0, none⟩), .int .u8 (k : Nat), .int .u32 (e : Nat)] w (TakeRP Qc w gp gb g (takeR k e s p)) := by
  by_cases hkk : 1 ≤ k ∧ k ≤ 3
  · by_cases hee : 1 ≤ e
    · by_cases hal : s.dead = true
      · have E : takeR k e s p = ⟨0, 10, s, p⟩ := by unfold takeR; rw [if_neg (fun h => h ⟨hkk, hee⟩), if_pos hal]
        rw [E]
        have HP := Lib.hid h
        have HKK := Lib.hid (decide_eq_true hkk)
        have HA : Hid (readE s 0 0 = 10) := by show _ = _; rw [ref00 s h.chip.ok, hal]; rfl
        have he2 : ((e : Int) == 0) = false := beq_eq_false_iff_ne.2 (by omega)
        have he3 : (e == 0) = false := beq_eq_false_iff_ne.2 (by omega)
        have c0 : w.cell? ⟨gp, 0, none⟩ = some (.pointer (some ⟨g, 0, none⟩)) := h.pool.cell 0
        clear h hd hkk hal hk he hee E
        go_enter Tryz.func34, Tryz.ntmps34
        go_wp2_with fail
        refine (pNone_no _ _ _ _ _ _ _ HP.out).mono ?_
        rintro r w' ⟨rfl, rfl⟩
        go_wp2_with fail
        refine (kind_any k _).mono ?_
        rintro r w' ⟨rfl, rfl⟩
        rw [HKK.out]
        go_wp2_with fail
        refine (nRead_any _ _ _ 0 0 _ HP.out.chip).mono ?_
        rintro r w1 ⟨A1, c1, rfl, h1, h2⟩
        have E3 : Hid (TakeRP Qc w gp gb g ⟨0, 10, s, p⟩ (.returned (.tuple #[.int .i64 0, .int .i64 10])) w1) := ⟨rfl, HP.out.new h2, h2.mono fun _ _ f => f.elim⟩
        rw [HA.out]
        clear h1 h2
        go_wp2
        go_ret2
        exact E3.out
      · have E : takeR k e s p = takeGo k e s.nb s p p.next := by unfold takeR; rw [if_neg (fun h => h ⟨hkk, hee⟩), if_neg hal]
        rw [E]
        exact pTake_go Qc gp gb g s p k e w h hd hk he hkk hee (by simpa using hal)
    · have E : takeR k e s p = ⟨0, 2, s, p⟩ := by unfold takeR; rw [if_pos (fun h => hee h.2)]
      rw [E]
      have HP := Lib.hid h
      have HKK := Lib.hid (decide_eq_true hkk)
      obtain rfl : e = 0 := by omega
      clear h hd hkk hk he hee E
      go_enter Tryz.func34, Tryz.ntmps34
      go_wp2_with fail
      refine (pNone_no _ _ _ _ _ _ _ HP.out).mono ?_
      rintro r w' ⟨rfl, rfl⟩
      go_wp2_with fail
      refine (kind_any k _).mono ?_
      rintro r w' ⟨rfl, rfl⟩
      rw [HKK.out]
      go_wp2
      go_ret2
      exact ⟨rfl, HP.out, Kept.refl _ _⟩
  · have E : takeR k e s p = ⟨0, 2, s, p⟩ := by unfold takeR; rw [if_pos (fun h => hkk h.1)]
    rw [E]
    have HP := Lib.hid h
    have HKK := Lib.hid (decide_eq_false hkk)
    clear h hd hkk hk he E
    go_enter Tryz.func34, Tryz.ntmps34
    go_wp2_with fail
    refine (pNone_no _ _ _ _ _ _ _ HP.out).mono ?_
    rintro r w' ⟨rfl, rfl⟩
    go_wp2_with fail
    refine (kind_any k _).mono ?_
    rintro r w' ⟨rfl, rfl⟩
    rw [HKK.out]
    go_wp2
    go_ret2
    exact ⟨rfl, HP.out, Kept.refl _ _⟩

/-- What a free comes to. -/
def freeR (s : CSt) (p : PSt) (b : Int) : TkR :=
  if (0 ≤ b ∧ b < s.nb) ∧ isV s p b.toNat = 1 then
    (if erasE s b = 9 then ⟨0, 0, erasS s b, { eraP s p b.toNat with bl := (eraP s p b.toNat).bl.set b.toNat (lookV (erasS s b) b.toNat) }⟩ else ⟨0, erasE s b, erasS s b, eraP s p b.toNat⟩)
  else ⟨0, 12, s, p⟩
def FreeRP (Qc : Nat → Prop) (w : World) (gp gb g : Nat) (r : TkR) (e : Ending) (w' : World) : Prop :=
  e = .returned (.int .i64 r.e) ∧ PRep Qc w' gp gb g r.s r.p ∧ Kept (PoolQ Qc gp gb) w w'

set_option maxRecDepth 100000 in
set_option maxHeartbeats 1600000 in
theorem pFreeB_any (Qc : Nat → Prop) (gp gb g : Nat) (s : CSt) (p : PSt) (b : Int) (w : World) (h : PRep Qc w gp gb g s p) (hd : s.deeds < 4611686018427387904) :
    Calls Tryz.prog 35 #[.pointer (some ⟨gp, 0, none⟩), .int .i64 b] w (FreeRP Qc w gp gb g (freeR s p b)) := by
  have HP := Lib.hid h
  have HD := Lib.hid hd
  have c1 : w.cell? ⟨gp, 1, none⟩ = some (.slice (some ⟨gb, 0, none⟩) s.nb s.nb) := h.pool.cell 1
  have hnb := h.chip.ok.nb2
  by_cases hin : 0 ≤ b ∧ b < s.nb
  · obtain ⟨i, rfl, hi⟩ := nat_of hin
    have HI := Lib.hid hi
    have hle := isV_le h hi
    have j1 : decide ((i : Int) < 0) = false := decide_eq_false (by omega)
    have j2 : decide ((s.nb : Int) ≤ (i : Int)) = false := decide_eq_false (by omega)
    have j3 : decide (s.nb ≤ i) = false := decide_eq_false (by omega)
    by_cases hv : isV s p i = 1
    · have HV := Lib.hid hv
      by_cases hE9 : erasE s i = 9
      · have E : freeR s p i = ⟨0, 0, erasS s i, { eraP s p i with bl := (eraP s p i).bl.set i (lookV (erasS s i) i) }⟩ := by
          unfold freeR
          rw [Int.toNat_natCast, if_pos ⟨hin, hv⟩, if_pos hE9]
        rw [E]
        have HE := Lib.hid hE9
        have NB := Lib.hid (erasS_geo s i).1
        clear h hd hin hi hv hE9 E hle
        go_enter Tryz.func35, Tryz.ntmps35
        go_wp2_with fail
        refine (pNone_no _ _ _ _ _ _ _ HP.out).mono ?_
        rintro r w' ⟨rfl, rfl⟩
        go_wp2_with fail
        refine (pIs_any _ _ _ _ _ _ _ _ HP.out HI.out).mono ?_
        rintro r w' ⟨rfl, rfl⟩
        rw [HV.out]
        go_wp2_with fail
        refine (pErase_any _ _ _ _ _ _ _ _ HP.out HI.out HD.out).mono ?_
        rintro r w2 ⟨rfl, h1, h2⟩
        have P2 := Lib.hid h1
        have K2 := Lib.hid h2
        rw [HE.out]
        clear h1 h2 c1
        go_wp2_with fail
        refine (pLook_any _ _ _ _ _ _ i _ P2.out (by rw [NB.out]; exact HI.out)).mono ?_
        rintro r w3 ⟨rfl, h1, h2⟩
        have R : Hid (FreeRP Qc w gp gb g ⟨0, 0, erasS s i, { eraP s p i with bl := (eraP s p i).bl.set i (lookV (erasS s i) i) }⟩ (.returned (.int .i64 0)) w3) := ⟨rfl, h1, K2.out.trans h2 fun _ _ f => .inr (.inr f)⟩
        clear h1 h2
        go_wp2
        go_ret
        exact R.out
      · have E : freeR s p i = ⟨0, erasE s i, erasS s i, eraP s p i⟩ := by
          unfold freeR
          rw [Int.toNat_natCast, if_pos ⟨hin, hv⟩, if_neg hE9]
        rw [E]
        have q1 : (erasE s i == 9) = false := beq_eq_false_iff_ne.2 hE9
        clear h hd hin hi hv hE9 E hle
        go_enter Tryz.func35, Tryz.ntmps35
        go_wp2_with fail
        refine (pNone_no _ _ _ _ _ _ _ HP.out).mono ?_
        rintro r w' ⟨rfl, rfl⟩
        go_wp2_with fail
        refine (pIs_any _ _ _ _ _ _ _ _ HP.out HI.out).mono ?_
        rintro r w' ⟨rfl, rfl⟩
        rw [HV.out]
        go_wp2_with fail
        refine (pErase_any _ _ _ _ _ _ _ _ HP.out HI.out HD.out).mono ?_
        rintro r w2 ⟨rfl, h1, h2⟩
        have R : Hid (FreeRP Qc w gp gb g ⟨0, erasE s i, erasS s i, eraP s p i⟩ (.returned (.int .i64 (erasE s i))) w2) := ⟨rfl, h1, h2⟩
        clear h1 h2 c1
        generalize erasE s i = x at *
        go_wp2
        go_ret
        exact R.out
    · have E : freeR s p i = ⟨0, 12, s, p⟩ := by
        unfold freeR
        rw [Int.toNat_natCast, if_neg fun h => hv h.2]
      rw [E]
      obtain ⟨v, hvv⟩ : ∃ v, isV s p i = v := ⟨_, rfl⟩
      have HV := Lib.hid hvv
      rw [hvv] at hv hle
      clear h hd hin hi E hvv
      obtain rfl | rfl | rfl : v = 0 ∨ v = 2 ∨ v = 3 := by omega
      all_goals
        clear hv hle
        go_enter Tryz.func35, Tryz.ntmps35
        go_wp2_with fail
        refine (pNone_no _ _ _ _ _ _ _ HP.out).mono ?_
        rintro r w' ⟨rfl, rfl⟩
        go_wp2_with fail
        refine (pIs_any _ _ _ _ _ _ _ _ HP.out HI.out).mono ?_
        rintro r w' ⟨rfl, rfl⟩
        rw [HV.out]
        go_wp2
        go_ret
        exact ⟨rfl, HP.out, Kept.refl _ _⟩
  · have E : freeR s p b = ⟨0, 12, s, p⟩ := by
      unfold freeR
      rw [if_neg fun h => hin h.1]
    rw [E]
    clear h hd E
    rcases Int.lt_or_le b 0 with hb | hb
    · have j1 : decide (b < 0) = true := decide_eq_true hb
      clear hin
      go_enter Tryz.func35, Tryz.ntmps35
      go_wp2_with fail
      refine (pNone_no _ _ _ _ _ _ _ HP.out).mono ?_
      rintro r w' ⟨rfl, rfl⟩
      go_wp2
      go_ret
      exact ⟨rfl, HP.out, Kept.refl _ _⟩
    · have j1 : decide (b < 0) = false := decide_eq_false (by omega)
      have j2 : decide ((s.nb : Int) ≤ b) = true := decide_eq_true (by omega)
      clear hin
      go_enter Tryz.func35, Tryz.ntmps35
      go_wp2_with fail
      refine (pNone_no _ _ _ _ _ _ _ HP.out).mono ?_
      rintro r w' ⟨rfl, rfl⟩
      go_wp2
      go_ret
      exact ⟨rfl, HP.out, Kept.refl _ _⟩
end Go.Proofs.YtgfdiboaiifdnaaGreat
