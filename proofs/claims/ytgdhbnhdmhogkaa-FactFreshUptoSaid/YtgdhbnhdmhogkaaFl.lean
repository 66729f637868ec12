/-
  Bytes compared, whatever they are; a key comes back of its bytes.
-/
import Derived.Test.YtgdhbnhdmhogkaaFk
namespace Go.Proofs.Ytgdhbnhdmhogkaa
open Go.RowKit

theorem same_no (A B : Option Addr) (n m c d : Nat) (l k : List Nat) (w : World) (ha : Bts w A n l) (hb : Bts w B m k) (hn : n ≤ maxLen) (hne : l ≠ k) :
    Calls Try.prog 10 #[.slice A n c, .slice B m d] w (Quiet w false) := by
  unfold maxLen at hn
  by_cases hnm : n = m
  · subst hnm
    have Ha := Lib.hid ha
    have Hb := Lib.hid hb
    have Hne := Lib.hid hne
    clear ha hb hne
    go_enter Try.func10, Try.ntmps10
    go_wp2
    go_loopw [5] (fun i wr => ∃ j q : Nat, j ≤ n ∧ i = .int .i64 j ∧ wr = w.drewN q ∧ Hid (l.take j = k.take j)) (fun i _ => n - (intOf i).toNat)
    case atStart => exact ⟨0, 0, Nat.zero_le _, rfl, rfl, rfl⟩
    case round =>
      obtain ⟨j, q, hj, rfl, rfl, HT⟩ := hrel
      by_cases hlt : j < n
      · obtain ⟨g, o, x, rfl, hx, hxb, hc⟩ := Ha.out.at_ hlt
        obtain ⟨g', o', y, rfl, hy, hyb, hc'⟩ := Hb.out.at_ hlt
        have HX := Lib.hid hx
        have HY := Lib.hid hy
        clear hx hy
        by_cases hxy : x = y
        · subst hxy
          go_wp2
          go_quiet (fail)
          go_wp2
          go_roundw
          case rel =>
            refine ⟨j + 1, _, by omega, by go_num, rfl, ?_⟩
            have hl : j < l.length := (List.getElem?_eq_some_iff.1 HX.out).1
            have hk : j < k.length := (List.getElem?_eq_some_iff.1 HY.out).1
            rw [Hid, List.take_succ_eq_append_getElem hl, List.take_succ_eq_append_getElem hk, HT.out, (List.getElem?_eq_some_iff.1 HX.out).2, (List.getElem?_eq_some_iff.1 HY.out).2]
          case measure => simp [intOf]; omega
        · have hxy2 : ((x : Int) == (y : Int)) = false := beq_eq_false_iff_ne.2 (by omega)
          go_wp2
          go_quiet (fail)
          go_wp2
          go_ret
          exact ⟨q + nq, rfl, by simp [World.drewN, Nat.add_assoc]⟩
      · exfalso
        obtain rfl : j = n := by omega
        have := HT.out
        rw [List.take_of_length_le (by rw [Ha.out.1]; exact Nat.le_refl _), List.take_of_length_le (by rw [Hb.out.1]; exact Nat.le_refl _)] at this
        exact Hne.out this
  · clear ha hb hne
    go_enter Try.func10, Try.ntmps10
    go_wp2
    go_ret
    exact ⟨0, rfl, rfl⟩

theorem same_any (A B : Option Addr) (n m c d : Nat) (l k : List Nat) (w : World) (ha : Bts w A n l) (hb : Bts w B m k) (hn : n ≤ maxLen) :
    Calls Try.prog 10 #[.slice A n c, .slice B m d] w (Quiet w (decide (l = k))) := by
  by_cases h : l = k
  · subst h
    obtain rfl : n = m := by rw [← ha.1, ← hb.1]
    rw [decide_eq_true rfl]
    exact same_eq A B n c d l w ha hb hn
  · rw [decide_eq_false h]
    exact same_no A B n m c d l k w ha hb hn h

theorem take2 (a b : Nat) (r : List Nat) : takeE (a :: b :: r) 2 = 0 ∧ takeV (a :: b :: r) 2 = a + 256 * b ∧ takeL (a :: b :: r) 2 = r := by
  unfold takeE takeV takeL
  rw [if_pos sz2, if_pos sz2, if_pos sz2]
  have h2 : (2 : Int).toNat ≤ (a :: b :: r).length := by simp
  rw [if_pos h2, if_pos h2, if_pos h2]
  refine ⟨rfl, ?_, rfl⟩
  show leV [a, b] = _
  simp [leV]
theorem take1 (a : Nat) (r : List Nat) : takeE (a :: r) 1 = 0 ∧ takeV (a :: r) 1 = a ∧ takeL (a :: r) 1 = r := by
  unfold takeE takeV takeL
  rw [if_pos sz1, if_pos sz1, if_pos sz1]
  have h2 : (1 : Int).toNat ≤ (a :: r).length := by simp
  rw [if_pos h2, if_pos h2, if_pos h2]
  refine ⟨rfl, ?_, rfl⟩
  show leV [a] = _
  simp [leV]

/-- A key comes back of its bytes, whatever stands behind. -/
theorem key_back {k : KY} (h : mayK k = true) (r : List Nat) : gkE (keyB k ++ r) = 0 ∧ gkK (keyB k ++ r) = k ∧ tkR (keyB k ++ r) = r := by
  obtain ⟨h1, h2, h3, h4⟩ := may_parts h
  have hb : keyB k ++ r = k.i.toNat % 256 :: k.i.toNat / 256 % 256 :: k.t :: (restK k ++ r) := by unfold keyB; simp
  obtain ⟨a1, a2, a3⟩ := take2 (k.i.toNat % 256) (k.i.toNat / 256 % 256) (k.t :: (restK k ++ r))
  obtain ⟨b1, b2, b3⟩ := take1 k.t (restK k ++ r)
  rw [← hb] at a1 a2 a3
  have hv : takeV (keyB k ++ r) 2 = k.i.toNat := by rw [a2]; omega
  have hT : tkT (keyB k ++ r) = k.t := by unfold tkT; rw [a3, b2]
  have h3L : tk3 (keyB k ++ r) = restK k ++ r := by unfold tk3; rw [a3, b3]
  have key : tkE (keyB k ++ r) = 0 ∧ tkK (keyB k ++ r) = k ∧ tkR (keyB k ++ r) = r := by
    unfold tkE tkK tkR
    rw [hT, h3L, a3, b1, b3, a1, hv]
    simp only [ne_eq, not_true_eq_false, if_false]
    rcases h4 with ⟨t, n, c⟩ | ⟨t, n, c⟩ | ⟨t, n, c⟩
    · have e : restK k = [] := by unfold restK; rw [if_neg (by omega), if_neg (by omega)]
      rw [e]
      simp only [t]
      refine ⟨rfl, KY.ext_ (by simp; omega) (by simp [t]) ?_ (by simp [c]), rfl⟩
      simp only [show ¬ (1 : Nat) = 2 by omega, if_false]
      exact (empty_of n).symm ▸ rfl
    · have e : restK k = k.n.size :: nB k.n := by unfold restK; rw [if_pos t]
      have hl : k.n.size ≤ (nB k.n ++ r).length := by rw [List.length_append, nB_len]; omega
      have r1 : rwL (restK k ++ r) = nB k.n := by
        rw [e]
        simp only [List.cons_append, rwL]
        rw [if_pos hl]
        exact List.take_left' (nB_len _)
      have r2 : rwE (restK k ++ r) = 0 := by rw [e]; simp only [List.cons_append, rwE]; rw [if_pos hl]
      have r3 : rwR (restK k ++ r) = r := by
        rw [e]
        simp only [List.cons_append, rwR]
        rw [if_pos hl]
        exact List.drop_left' (nB_len _)
      rw [if_pos t, if_pos t, if_pos t, r1, r2, r3, strN_nB]
      refine ⟨rfl, KY.ext_ (by simp; omega) rfl rfl ?_, rfl⟩
      simp only [t]
      simp [c]
    · have e : restK k = [k.c.toNat] := by unfold restK; rw [if_neg (by omega), if_pos t]
      obtain ⟨c1, c2, c3⟩ := take1 k.c.toNat r
      have er : restK k ++ r = k.c.toNat :: r := by rw [e]; rfl
      rw [er]
      simp only [t, show ¬ (3 : Nat) = 2 by omega, if_false, if_true, c1, c2, c3]
      exact ⟨trivial, KY.ext_ (by simp; omega) t.symm (empty_of n).symm (by simp; omega), trivial⟩
  obtain ⟨k1, k2, k3⟩ := key
  have g1 : gkE (keyB k ++ r) = 0 := by unfold gkE; rw [k1, k2, if_neg (by simp), if_pos h]
  exact ⟨g1, by unfold gkK; rw [if_pos g1, k2], k3⟩
theorem pk_ok {k : KY} (h : pkE k = 0) : mayK k = true ∧ pkL k = keyB k := by
  unfold pkE at h
  split at h
  · rename_i hm
    exact ⟨hm, by unfold pkL; rw [if_pos hm]⟩
  · cases h
theorem pk_bad {k : KY} (h : ¬ pkE k = 0) : mayK k = false ∧ pkE k = 2 := by
  unfold pkE at h ⊢
  split at h
  · exact absurd rfl h
  · rename_i hm
    rw [if_neg hm]
    exact ⟨by simpa using hm, rfl⟩

/- The same two for as many bytes as a list may have. -/

set_option maxRecDepth 100000 in
theorem clone_big (A : Option Addr) (n c : Nat) (l : List Nat) (w : World) (ha : Bts w A n l) (hn : n ≤ 140737488355328) (hA : A = none → c = 0 ∧ n = 0) :
    Calls Try.prog 23 #[.slice A n c] w (RetL w l) := by
  obtain ⟨i0, hi, hz0, hz1, hz2⟩ := info_parts info_u8
  have hl := ha.1
  have hq := fun w a n c => Lib.run_eql_slice_nil (P := Try.prog) w 27 5 a n c 0 0 Try.underlying27
  rcases A with _ | a
  · obtain ⟨rfl, rfl⟩ := hA rfl
    obtain rfl : l = [] := List.eq_nil_of_length_eq_zero hl
    clear hA
    go_enter Try.func23, Try.ntmps23
    go_wp2
    go_ret
    exact ⟨none, 0, rfl, OwnB.nil _ _ _, Kept.refl _ _⟩
  · clear hA
    go_enter Try.func23, Try.ntmps23
    go_wp2_with (at_builtin; refine wpList_append_bytes _ rfl _ _ _ rfl 5 i0 Try.underlying27 hi hz0 hz1 hz2 w.heap.size (some ⟨w.heap.size, 0, none⟩) 0 0 [] rfl ?_ rfl (some a) n c l rfl ?_ ?_ ?_ ?_)
    · exact ⟨by simp, .inr ⟨_, [], rfl, Nat.le_refl _, Blk.madeB w 5 [], by simp, rfl, by simp⟩⟩
    · exact ha.new ((Kept.refl _ _).alloc _)
    · simp; omega
    · simp
    intro A2 c2 w2 hown hg _
    go_wp2
    go_ret
    subst hl
    exact ⟨A2, c2, by simp, by simpa using hown, ((Kept.refl _ _).alloc _).grown hg (by simp; omega)⟩
end Go.Proofs.Ytgdhbnhdmhogkaa
