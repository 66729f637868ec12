/-
  A key taken off of bytes: the reference's contract.
  Bytes compared, whatever they are; a key comes back of its bytes.
-/
import Derived.Test.YtbiihjdjbknibaaFj
import Derived.Test.YtbiihjdjbknibaaSb
namespace Go.Proofs.Ytbiihjdjbknibaa

section
set_option maxRecDepth 100000
open Go.RowKit
variable {Q : Nat → Prop}

end

section
set_option maxRecDepth 100000
open Go.RowKit

theorem take2 (a b : Nat) (r : List Nat) : takeE (a :: b :: r) 2 = 0 ∧ takeV (a :: b :: r) 2 = a + 256 * b ∧ takeL (a :: b :: r) 2 = r := by
  unfold takeE takeV takeL
  rw [if_pos sz2, if_pos sz2, if_pos sz2]
  have h2 : (2 : Int).toNat ≤ (a :: b :: r).length := by simp
  rw [if_pos h2, if_pos h2, if_pos h2]
  refine ⟨rfl, ?_, rfl⟩
  show leV [a, b] = _
  simp [leV]
theorem take1 (a : Nat) (r : List Nat) : takeE (a :: r) 1 = 0 ∧ takeV (a :: r) 1 = a ∧ takeL (a :: r) 1 = r := by
  unfold takeE takeV takeL
  rw [if_pos sz1, if_pos sz1, if_pos sz1]
  have h2 : (1 : Int).toNat ≤ (a :: r).length := by simp
  rw [if_pos h2, if_pos h2, if_pos h2]
  refine ⟨rfl, ?_, rfl⟩
  show leV [a] = _
  simp [leV]

/-- A key comes back of its bytes, whatever stands behind. -/
theorem key_back {k : KY} (h : mayK k = true) (r : List Nat) : gkE (keyB k ++ r) = 0 ∧ gkK (keyB k ++ r) = k ∧ tkR (keyB k ++ r) = r := by
  obtain ⟨h1, h2, h3, h4⟩ := may_parts h
  have hb : keyB k ++ r = k.i.toNat % 256 :: k.i.toNat / 256 % 256 :: k.t :: (restK k ++ r) := by unfold keyB; simp
  obtain ⟨a1, a2, a3⟩ := take2 (k.i.toNat % 256) (k.i.toNat / 256 % 256) (k.t :: (restK k ++ r))
  obtain ⟨b1, b2, b3⟩ := take1 k.t (restK k ++ r)
  rw [← hb] at a1 a2 a3
  have hv : takeV (keyB k ++ r) 2 = k.i.toNat := by rw [a2]; omega
  have hT : tkT (keyB k ++ r) = k.t := by unfold tkT; rw [a3, b2]
  have h3L : tk3 (keyB k ++ r) = restK k ++ r := by unfold tk3; rw [a3, b3]
  have key : tkE (keyB k ++ r) = 0 ∧ tkK (keyB k ++ r) = k ∧ tkR (keyB k ++ r) = r := by
    unfold tkE tkK tkR
    rw [hT, h3L, a3, b1, b3, a1, hv]
    simp only [ne_eq, not_true_eq_false, if_false]
    rcases h4 with ⟨t, n, c⟩ | ⟨t, n, c⟩ | ⟨t, n, c⟩
    · have e : restK k = [] := by unfold restK; rw [if_neg (by omega), if_neg (by omega)]
      rw [e]
      simp only [t]
      refine ⟨rfl, KY.ext_ (by simp; omega) (by simp [t]) ?_ (by simp [c]), rfl⟩
      simp only [show ¬ (1 : Nat) = 2 by omega, if_false]
      exact (empty_of n).symm ▸ rfl
    · have e : restK k = k.n.size :: nB k.n := by unfold restK; rw [if_pos t]
      have hl : k.n.size ≤ (nB k.n ++ r).length := by rw [List.length_append, nB_len]; omega
      have r1 : rwL (restK k ++ r) = nB k.n := by
        rw [e]
        simp only [List.cons_append, rwL]
        rw [if_pos hl]
        exact List.take_left' (nB_len _)
      have r2 : rwE (restK k ++ r) = 0 := by rw [e]; simp only [List.cons_append, rwE]; rw [if_pos hl]
      have r3 : rwR (restK k ++ r) = r := by
        rw [e]
        simp only [List.cons_append, rwR]
        rw [if_pos hl]
        exact List.drop_left' (nB_len _)
      rw [if_pos t, if_pos t, if_pos t, r1, r2, r3, strN_nB]
      refine ⟨rfl, KY.ext_ (by simp; omega) rfl rfl ?_, rfl⟩
      simp only [t]
      simp [c]
    · have e : restK k = [k.c.toNat] := by unfold restK; rw [if_neg (by omega), if_pos t]
      obtain ⟨c1, c2, c3⟩ := take1 k.c.toNat r
      have er : restK k ++ r = k.c.toNat :: r := by rw [e]; rfl
      rw [er]
      simp only [t, show ¬ (3 : Nat) = 2 by omega, if_false, if_true, c1, c2, c3]
      exact ⟨trivial, KY.ext_ (by simp; omega) t.symm (empty_of n).symm (by simp; omega), trivial⟩
  obtain ⟨k1, k2, k3⟩ := key
  have g1 : gkE (keyB k ++ r) = 0 := by unfold gkE; rw [k1, k2, if_neg (by simp), if_pos h]
  exact ⟨g1, by unfold gkK; rw [if_pos g1, k2], k3⟩
theorem pk_ok {k : KY} (h : pkE k = 0) : mayK k = true ∧ pkL k = keyB k := by
  unfold pkE at h
  split at h
  · rename_i hm
    exact ⟨hm, by unfold pkL; rw [if_pos hm]⟩
  · cases h
theorem pk_bad {k : KY} (h : ¬ pkE k = 0) : mayK k = false ∧ pkE k = 2 := by
  unfold pkE at h ⊢
  split at h
  · exact absurd rfl h
  · rename_i hm
    rw [if_neg hm]
    exact ⟨by simpa using hm, rfl⟩

/- The same two for as many bytes as a list may have. -/

set_option maxRecDepth 100000 in
theorem clone_big (A : Option Addr) (n c : Nat) (l : List Nat) (w : World) (ha : Bts w A n l) (hn : n ≤ 140737488355328) (hA : A = none → c = 0 ∧ n = 0) :
    Calls Try.prog 37 #[.slice A n c] w (RetL w l) := by
  obtain ⟨i0, hi, hz0, hz1, hz2⟩ := info_parts info_u8
  have hl := ha.1
  have hq := fun w a n c => Lib.run_eql_slice_nil (P := Try.prog) w 25 5 a n c 0 0 Try.underlying25
  rcases A with _ | a
  · obtain ⟨rfl, rfl⟩ := hA rfl
    obtain rfl : l = [] := List.eq_nil_of_length_eq_zero hl
    clear hA
    go_enter Try.func37, Try.ntmps37
    go_wp2
    go_ret
    exact ⟨none, 0, rfl, OwnB.nil _ _ _, Kept.refl _ _⟩
  · clear hA
    go_enter Try.func37, Try.ntmps37
    go_wp2_with (at_builtin; refine wpList_append_bytes _ rfl _ _ _ rfl 5 i0 Try.underlying25 hi hz0 hz1 hz2 w.heap.size (some ⟨w.heap.size, 0, none⟩) 0 0 [] rfl ?_ rfl (some a) n c l rfl ?_ ?_ ?_ ?_)
    · exact ⟨by simp, .inr ⟨_, [], rfl, Nat.le_refl _, Blk.madeB w 5 [], by simp, rfl, by simp⟩⟩
    · exact ha.new ((Kept.refl _ _).alloc _)
    · simp; omega
    · simp
    intro A2 c2 w2 hown hg _
    go_wp2
    go_ret
    subst hl
    exact ⟨A2, c2, by simp, by simpa using hown, ((Kept.refl _ _).alloc _).grown hg (by simp; omega)⟩

set_option maxRecDepth 100000 in
theorem new_big (A : Option Addr) (n c : Nat) (l : List Nat) (w : World) (ha : Bts w A n l) (hn : n ≤ 140737488355328) (hA : A = none → c = 0 ∧ n = 0) :
    Calls Try.prog 38 #[.slice A n c] w (NewP w l) := by
  have HA := Lib.hid hA
  clear hA
  go_enter Try.func38, Try.ntmps38
  go_wp2_with (go_at_call 37; refine (clone_big A n c l _ ha hn HA.out).mono ?_; rintro e w1 ⟨A1, c1, rfl, hown, hk⟩; have HO := Lib.hid hown; have HK := Lib.hid hk; clear hown hk)
  go_ret
  have hal : New w1 (w1.alloc (.cells #[.bool true, .slice A1 l.length c1] 92)) := (Kept.refl _ _).alloc _
  exact ⟨w1.heap.size, rfl, ⟨A1, c1, Blk.made w1 _ _, HO.out.bts.new hal, fun a h => ⟨(HO.out.at_ a h).2, (HO.out.at_ a h).1.kept hal (fun f => f)⟩, HO.out.le.1, HO.out.le.2⟩, HK.out.size, HK.out.new hal⟩

end

end Go.Proofs.Ytbiihjdjbknibaa
