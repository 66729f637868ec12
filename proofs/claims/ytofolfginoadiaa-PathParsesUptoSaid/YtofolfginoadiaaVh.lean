/-
  Contracts of layer 5: the reference's Join; Split of both sides.
-/
import Derived.Test.YtofolfginoadiaaVg
namespace Go.Proofs.Ytofolfginoadiaa
open Go.RowKit

set_option maxHeartbeats 2000000 in
theorem rjoin_any (A : Option Addr) (n c : Nat) (g : List (List UInt8)) (w : World) (ha : Txs w A n g) (hn : n ≤ maxLen) (hx : ∀ x ∈ g, x.length ≤ maxLen) :
    Calls Try.prog 15 #[.slice A n c] w (RetJ w g) := by
  unfold maxLen at hn
  have hg := ha.len
  have HX := Lib.hid hx
  clear hx
  go_enter Try.func15, Try.ntmps15
  go_wp2_with fail
  go_loopw [4] (fun i wr => ∃ k : Nat, k ≤ n ∧ i = .int .i64 k ∧ wr = w ∧ Hid ((g.take k).all nameL = true)) (fun i _ => n - (intOf i).toNat)
  case atStart => exact ⟨0, Nat.zero_le _, rfl, rfl, rfl⟩
  case round =>
    obtain ⟨k, hk, rfl, rfl, hall⟩ := hrel
    by_cases hlt : k < n
    · obtain ⟨b, o, x, rfl, hx, hc⟩ := ha.at_ hlt
      have HG := Lib.hid hx
      have hxm : (⟨x.toArray⟩ : ByteArray).size ≤ maxLen := by rw [Lib.size_eq]; exact HX.out x (List.mem_of_getElem? hx)
      clear ha hx
      cases hname : nameL x with
      | true =>
        go_wp2_with (go_at_call 12; refine (rname_any ⟨x.toArray⟩ _ hxm).mono ?_; rintro e w1 ⟨rfl, hw1⟩; subst w1; rw [hname])
        go_roundw
        case rel => exact ⟨k + 1, by omega, by go_num, by first | rfl | trivial, by rw [Hid, names_succ _ _ _ HG.out, hall.out, hname]; rfl⟩
        case measure => simp [intOf]; omega
      | false =>
        have H2 := Lib.hid (names_bad _ _ _ HG.out hname)
        go_wp2_with (go_at_call 12; refine (rname_any ⟨x.toArray⟩ _ hxm).mono ?_; rintro e w1 ⟨rfl, hw1⟩; subst w1; rw [hname])
        go_ret2
        exact RetJ.err rfl H2.out (by omega) rfl (Kept.refl _ _)
    · have e : k = n := by omega
      have HA : Hid (g.all nameL = true) := by
        have := hall.out
        rwa [e, List.take_of_length_le (by omega)] at this
      clear hall
      by_cases h6 : 6 < n
      · have d6 : decide ((6 : Int) < (n : Int)) = true := decide_eq_true (by omega)
        have H3 := Lib.hid (jE_many HA.out (by omega))
        clear ha
        go_wp2
        go_ret2
        exact RetJ.err rfl H3.out (by omega) rfl (Kept.refl _ _)
      · have d6 : decide ((6 : Int) < (n : Int)) = false := decide_eq_false (by omega)
        obtain ⟨hj1, hj2⟩ := jE_ok HA.out (by omega)
        have HJ1 := Lib.hid hj1
        have HJ2 := Lib.hid hj2
        clear hj1 hj2
        by_cases h0 : n = 0
        · have hg0 : g = [] := List.eq_nil_of_length_eq_zero (by omega)
          subst h0
          subst hg0
          clear ha
          go_wp2
          go_ret2
          refine ⟨?_, Kept.refl _ _⟩
          rw [HJ1.out, HJ2.out]
          rfl
        · have d0 : ((n : Int) == 0) = false := beq_eq_false_iff_ne.2 (by omega)
          have HT : Hid (jS g = Lib.joinTail [47] g) := by
            rw [Hid, HJ2.out, tail_join (by intro e; rw [e] at hg; simp at hg; omega)]
          generalize wr = wA at *
          go_wp2_with fail
          go_loopw [5, 6] (fun v i wr => ∃ (k : Nat) (T : List UInt8), k ≤ n ∧ v = .string ⟨T.toArray⟩ ∧ i = .int .i64 k ∧ wr = wA ∧ T.length ≤ 13 * k ∧ Hid (T = Lib.joinTail [47] (g.take k))) (fun _ i _ => n - (intOf i).toNat)
          case atStart => exact ⟨0, [], Nat.zero_le _, rfl, rfl, rfl, by simp, rfl⟩
          case round =>
            obtain ⟨k2, T, hk2, rfl, rfl, rfl, hT, HK⟩ := hrel
            by_cases hlt2 : k2 < n
            · obtain ⟨b, o, x, rfl, hx, hc⟩ := ha.at_ hlt2
              have HG := Lib.hid hx
              have hx12 : x.length ≤ 12 := (name_ne (List.all_eq_true.1 HA.out x (List.mem_of_getElem? hx))).2.1
              have hT1 : T.length + 1 ≤ 9223372036854775807 := by omega
              have hT2 : T.length + 1 + x.length ≤ 9223372036854775807 := by omega
              clear ha hx
              go_wp2
              go_roundw
              case rel =>
                refine ⟨k2 + 1, T ++ [47] ++ x, by omega, ?_, by go_num, by first | rfl | trivial, by simp; omega, ?_⟩
                · congr 1
                · rw [Hid, Lib.joinTail_take_succ _ _ _ _ HG.out, HK.out]
              case measure => simp [intOf]; omega
            · have e2 : k2 = n := by omega
              have HF : Hid (jS g = T) := by
                rw [Hid, HT.out, HK.out, e2, List.take_of_length_le (by omega)]
              clear ha HK
              go_wp2
              go_ret2
              refine ⟨?_, Kept.refl _ _⟩
              rw [HJ1.out, HF.out]
              rfl

/-- Names, a name, and an error. -/
def RetS (w : World) (l : List UInt8) (e : Ending) (w' : World) : Prop :=
  ∃ A c, e = .returned (.tuple #[.slice A (sD l).length c, .string ⟨(sN l).toArray⟩, .int .i64 ((sE l : Nat) : Int)]) ∧ Txs w' A (sD l).length (sD l) ∧ (sD l).length ≤ c ∧ New w w'

theorem split_bad {l : List UInt8} {x : Nat} (h : sE l = x) (hx : x ≠ 0) : sD l = [] ∧ sN l = [] := by
  unfold sD sN
  rw [if_neg (by rw [h]; exact hx), if_neg (by rw [h]; exact hx)]
  exact ⟨rfl, rfl⟩

theorem RetS.err {w w' : World} {l : List UInt8} {x : Nat} {y : Int} {e : Ending} (he : e = .returned (.tuple #[.slice none 0 0, .string ⟨#[]⟩, .int .i64 y])) (h : sE l = x) (hx : x ≠ 0) (hy : y = x) (hk : New w w') : RetS w l e w' := by
  obtain ⟨h1, h2⟩ := split_bad h hx
  unfold RetS
  rw [h1, h2, h]
  exact ⟨none, 0, by rw [he, hy]; rfl, Txs.nil _ _, Nat.le_refl _, hk⟩

theorem sE_of {l : List UInt8} {x : Nat} (h : pE l = x) (hx : x ≠ 0) : sE l = x := by
  unfold sE
  rw [if_neg (fun e => hx (by rw [← h]; exact e.1)), h]

theorem pN_bad {l : List UInt8} {x : Nat} (h : pE l = x) (hx : x ≠ 0) : pN l = [] := by
  unfold pN
  rw [if_neg (by rw [h]; exact hx)]

theorem sE_root {l : List UInt8} (h : pE l = 0) (hn : pN l = []) : sE l = 2 := by
  unfold sE
  rw [if_pos ⟨h, hn⟩]

theorem sE_ok {l : List UInt8} (h : pE l = 0) (hn : pN l ≠ []) : sE l = 0 ∧ sD l = (pN l).dropLast ∧ sN l = (pN l).getLastD [] := by
  have e : sE l = 0 := by unfold sE; rw [if_neg (fun e => hn e.2), h]
  exact ⟨e, by unfold sD; rw [if_pos e], by unfold sN; rw [if_pos e]⟩

set_option maxHeartbeats 2000000 in
theorem split_any (s : ByteArray) (w : World) (hs : s.size ≤ 1048576) :
    Calls Try.prog 16 #[.string s] w (RetS w s.data.toList) := by
  go_enter Try.func16, Try.ntmps16
  go_wp2_with fail
  refine (parse_any s _ hs).mono ?_
  rintro e w1 ⟨A, c, rfl, ho, hk⟩
  have HO := Lib.hid ho
  have HK := Lib.hid hk
  clear ho hk
  rcases pE_cases s.data.toList with h | h | h
  · have HE := Lib.hid h
    rw [h]
    clear h
    have hlen := pN_le s.data.toList
    by_cases h0 : (pN s.data.toList).length = 0
    · have HS := Lib.hid (sE_root HE.out (List.eq_nil_of_length_eq_zero h0))
      rw [h0]
      clear h0
      go_wp2
      go_ret3
      exact RetS.err rfl HS.out (by omega) rfl HK.out
    · obtain ⟨b, o, x, rfl, hx, hc⟩ := HO.out.txs.at_ (j := (pN s.data.toList).length - 1) (by omega)
      have hne : pN s.data.toList ≠ [] := fun e => h0 (by rw [e]; rfl)
      obtain ⟨s1, s2, s3⟩ := sE_ok HE.out hne
      have HT := HO.out.txs.take (k := (pN s.data.toList).length - 1) (by omega)
      have HT : Hid (Txs w1 (some ⟨b, o, none⟩) ((pN s.data.toList).length - 1) (sD s.data.toList)) := by
        rw [Hid, s2, List.dropLast_eq_take]; exact HT
      have HN : Hid (sN s.data.toList = x) := by
        rw [Hid, s3]
        have := List.getLast?_eq_getElem? (l := pN s.data.toList)
        rw [hx] at this
        rw [List.getLastD_eq_getLast?, this]
        rfl
      have HD : Hid ((sD s.data.toList).length = (pN s.data.toList).length - 1) := by rw [Hid, s2, List.length_dropLast]
      have HS := Lib.hid s1
      have hle := HO.out.le
      clear hne s1 s2 s3 hx
      unfold maxLen at hle
      generalize hnn : (pN s.data.toList).length = n at *
      clear hnn
      obtain ⟨m, rfl⟩ : ∃ m, n = m + 1 := ⟨n - 1, by omega⟩
      have em : m + 1 - 1 = m := rfl
      rw [em] at hc HT HD
      clear em HO h0
      go_wp2_with fail
      go_quiet (fail)
      go_wp2
      go_ret3
      exact ⟨some ⟨b, o, none⟩, m, by rw [HS.out, HN.out, HD.out]; rfl, by rw [HD.out]; first | exact HT.out | exact HT.out.drewN _, by rw [HD.out]; exact Nat.le_refl _, by first | exact HK.out | exact HK.out.drewN _⟩
  · have HS := Lib.hid (sE_of h (by omega))
    have HZ := Lib.hid (pN_bad h (by omega))
    rw [h, HZ.out]
    clear h
    go_wp2
    go_ret3
    exact RetS.err rfl HS.out (by omega) rfl HK.out
  · have HS := Lib.hid (sE_of h (by omega))
    have HZ := Lib.hid (pN_bad h (by omega))
    rw [h, HZ.out]
    clear h
    go_wp2
    go_ret3
    exact RetS.err rfl HS.out (by omega) rfl HK.out

set_option maxHeartbeats 2000000 in
theorem rsplit_any (s : ByteArray) (w : World) (hs : s.size ≤ 1048576) :
    Calls Try.prog 17 #[.string s] w (RetS w s.data.toList) := by
  go_enter Try.func17, Try.ntmps17
  go_wp2_with fail
  refine (rparse_any s _ hs).mono ?_
  rintro e w1 ⟨A, c, rfl, ho, hk⟩
  have HO := Lib.hid ho
  have HK := Lib.hid hk
  clear ho hk
  rcases pE_cases s.data.toList with h | h | h
  · have HE := Lib.hid h
    rw [h]
    clear h
    have hlen := pN_le s.data.toList
    by_cases h0 : (pN s.data.toList).length = 0
    · have HS := Lib.hid (sE_root HE.out (List.eq_nil_of_length_eq_zero h0))
      rw [h0]
      clear h0
      go_wp2
      go_ret3
      exact RetS.err rfl HS.out (by omega) rfl HK.out
    · obtain ⟨b, o, x, rfl, hx, hc⟩ := HO.out.txs.at_ (j := (pN s.data.toList).length - 1) (by omega)
      have hne : pN s.data.toList ≠ [] := fun e => h0 (by rw [e]; rfl)
      obtain ⟨s1, s2, s3⟩ := sE_ok HE.out hne
      have HT := HO.out.txs.take (k := (pN s.data.toList).length - 1) (by omega)
      have HT : Hid (Txs w1 (some ⟨b, o, none⟩) ((pN s.data.toList).length - 1) (sD s.data.toList)) := by
        rw [Hid, s2, List.dropLast_eq_take]; exact HT
      have HN : Hid (sN s.data.toList = x) := by
        rw [Hid, s3]
        have := List.getLast?_eq_getElem? (l := pN s.data.toList)
        rw [hx] at this
        rw [List.getLastD_eq_getLast?, this]
        rfl
      have HD : Hid ((sD s.data.toList).length = (pN s.data.toList).length - 1) := by rw [Hid, s2, List.length_dropLast]
      have HS := Lib.hid s1
      have hle := HO.out.le
      clear hne s1 s2 s3 hx
      unfold maxLen at hle
      generalize hnn : (pN s.data.toList).length = n at *
      clear hnn
      obtain ⟨m, rfl⟩ : ∃ m, n = m + 1 := ⟨n - 1, by omega⟩
      have em : m + 1 - 1 = m := rfl
      rw [em] at hc HT HD
      clear em HO h0
      go_wp2_with fail
      go_quiet (fail)
      go_wp2
      go_ret3
      exact ⟨some ⟨b, o, none⟩, _, by rw [HS.out, HN.out, HD.out]; rfl, by rw [HD.out]; first | exact HT.out | exact HT.out.drewN _, by rw [HD.out]; omega, by first | exact HK.out | exact HK.out.drewN _⟩
  · have HS := Lib.hid (sE_of h (by omega))
    have HZ := Lib.hid (pN_bad h (by omega))
    rw [h, HZ.out]
    clear h
    go_wp2
    go_ret3
    exact RetS.err rfl HS.out (by omega) rfl HK.out
  · have HS := Lib.hid (sE_of h (by omega))
    have HZ := Lib.hid (pN_bad h (by omega))
    rw [h, HZ.out]
    clear h
    go_wp2
    go_ret3
    exact RetS.err rfl HS.out (by omega) rfl HK.out
end Go.Proofs.Ytofolfginoadiaa
