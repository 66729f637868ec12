/-
  Contracts of layer 5: what is a name, on both sides.
-/
import Derived.Test.YtbiihjdjbknibaaRows
import Derived.Test.YtbiihjdjbknibaaVa
import Derived.WalkSpells
import Derived.Handy
import Derived.Deep.Matrix
import Derived.Deep.CutBlock
import Derived.Deep.DeepCutAuto
namespace Go.Proofs.Ytbiihjdjbknibaa
set_option maxRecDepth 100000
open Go.RowKit

/-- What a byte of a name may be, over numbers. -/
def okN (x : Nat) : Bool := decide (97 ≤ x ∧ x ≤ 122 ∨ 48 ≤ x ∧ x ≤ 57 ∨ x = 46 ∨ x = 45)

theorem okB_n (b : UInt8) : okB b = okN b.toNat := rfl

theorem isNameByte_any (x : Nat) (w : World) :
    Calls Try.prog 82 #[.int .u8 x] w fun e w' => e = .returned (.bool (okN x)) ∧ w' = w := by
  go_enter Try.func82, Try.ntmps82
  by_cases h1 : 97 ≤ x
  · by_cases h2 : x ≤ 122
    · have e : okN x = true := by unfold okN; simp; omega
      have d2 : decide ((x : Int) ≤ 122) = true := decide_eq_true (by omega)
      go_wp2
      go_ret
      exact ⟨by first | rfl | (rw [e]; rfl), rfl⟩
    · have d2 : decide ((x : Int) ≤ 122) = false := decide_eq_false (by omega)
      have d3 : decide ((x : Int) ≤ 57) = false := decide_eq_false (by omega)
      have d4 : ((x : Int) == 46) = false := beq_eq_false_iff_ne.2 (by omega)
      have d5 : ((x : Int) == 45) = false := beq_eq_false_iff_ne.2 (by omega)
      have e : okN x = false := by unfold okN; simp; omega
      have h3 : 48 ≤ x := by omega
      have h4 : ¬ x ≤ 57 := by omega
      have h5 : ¬ x = 46 := by omega
      have h6 : ¬ x = 45 := by omega
      go_wp2
      go_ret
      exact ⟨by first | rfl | (rw [e]; rfl), rfl⟩
  · by_cases h3 : 48 ≤ x
    · by_cases h4 : x ≤ 57
      · have e : okN x = true := by unfold okN; simp; omega
        go_wp2
        go_ret
        exact ⟨by first | rfl | (rw [e]; rfl), rfl⟩
      · have e : okN x = false := by unfold okN; simp; omega
        have h5 : ¬ x = 46 := by omega
        have h6 : ¬ x = 45 := by omega
        go_wp2
        go_ret
        exact ⟨by first | rfl | (rw [e]; rfl), rfl⟩
    · by_cases h5 : x = 46
      · subst h5
        go_wp2
        go_ret
        exact ⟨rfl, rfl⟩
      · by_cases h6 : x = 45
        · subst h6
          go_wp2
          go_ret
          exact ⟨rfl, rfl⟩
        · have e : okN x = false := by unfold okN; simp; omega
          go_wp2
          go_ret
          exact ⟨by first | rfl | (rw [e]; rfl), rfl⟩

theorem str_eq (s t : ByteArray) : (s.toList == t.toList) = decide (s.data.toList = t.data.toList) := by
  rw [Lib.toList_data, Lib.toList_data]
  by_cases h : s.data.toList = t.data.toList
  · rw [h]; simp
  · rw [beq_eq_false_iff_ne.2 h, decide_eq_false h]

theorem name_true {l : List UInt8} (h0 : 0 < l.length) (h1 : l.length ≤ 12) (h2 : l ≠ [46]) (h3 : l ≠ [46, 46]) (h : l.all okB = true) : nameL l = true := by
  unfold nameL; simp [h0, h1, h2, h3, h]
theorem name_false {l : List UInt8} (h : l.all okB = false) : nameL l = false := by
  unfold nameL; simp [h]

theorem of_list {s : ByteArray} {l : List UInt8} (h : s.data.toList = l) : s = ⟨l.toArray⟩ := by rw [← h, Lib.mk_data]

theorem at_list (s : ByteArray) (k : Nat) (h : k < s.size) : s.data.toList[k]? = some s[k] := by
  have h' : k < s.data.toList.length := by rw [← Lib.size_eq]; exact h
  rw [List.getElem?_eq_getElem h']
  rfl

theorem all_succ (l : List UInt8) (k : Nat) (b : UInt8) (h : l[k]? = some b) : (l.take (k + 1)).all okB = ((l.take k).all okB && okB b) := by
  rw [List.take_add_one, h]
  simp

theorem all_bad (l : List UInt8) (k : Nat) (b : UInt8) (h : l[k]? = some b) (hb : okB b = false) : l.all okB = false := by
  cases e : l.all okB with
  | false => rfl
  | true => rw [List.all_eq_true.1 e b (List.mem_of_getElem? h)] at hb; cases hb

set_option maxHeartbeats 800000 in
theorem name_any (s : ByteArray) (w : World) (hs : s.size ≤ maxLen) :
    Calls Try.prog 71 #[.string s] w fun e w' => e = .returned (.bool (nameL s.data.toList)) ∧ w' = w := by
  unfold maxLen at hs
  by_cases e0 : s.data.toList = []
  · obtain rfl := of_list e0
    clear e0 hs
    go_enter Try.func71, Try.ntmps71
    go_wp2
    go_ret
    exact ⟨rfl, rfl⟩
  by_cases e1 : s.data.toList = [46]
  · obtain rfl := of_list e1
    clear e0 e1 hs
    go_enter Try.func71, Try.ntmps71
    go_wp2
    go_ret
    exact ⟨rfl, rfl⟩
  by_cases e2 : s.data.toList = [46, 46]
  · obtain rfl := of_list e2
    clear e0 e1 e2 hs
    go_enter Try.func71, Try.ntmps71
    go_wp2
    go_ret
    exact ⟨rfl, rfl⟩
  have E0 := Lib.hid e0
  have E1 := Lib.hid e1
  have E2 := Lib.hid e2
  have hne : ¬ s.toList = [] := by rw [Lib.toList_data]; exact e0
  have hie : s.toList.isEmpty = false := by rw [Lib.toList_data]; cases h : s.data.toList with
    | nil => exact absurd h e0
    | cons _ _ => rfl
  have q1 : (s.toList == [46]) = false := by rw [Lib.toList_data]; exact beq_eq_false_iff_ne.2 e1
  have q2 : (s.toList == [46, 46]) = false := by rw [Lib.toList_data]; exact beq_eq_false_iff_ne.2 e2
  have q3 : ¬ s.toList = [46] := by rw [Lib.toList_data]; exact e1
  have q4 : ¬ s.toList = [46, 46] := by rw [Lib.toList_data]; exact e2
  clear e0 e1 e2
  by_cases h1 : s.size ≤ 12
  · have hgt : decide (12 < (s.size : Int)) = false := decide_eq_false (by omega)
    go_enter Try.func71, Try.ntmps71
    go_wp2_with fail
    clear hne hie q1 q2 q3 q4
    go_loopw [21] (fun i wr => ∃ k : Nat, k ≤ s.size ∧ i = .int .i64 k ∧ wr = w ∧ Hid ((s.data.toList.take k).all okB = true)) (fun i _ => s.size - (intOf i).toNat)
    case atStart => exact ⟨0, Nat.zero_le _, rfl, rfl, rfl⟩
    case round =>
      obtain ⟨k, hk, rfl, rfl, hall⟩ := hrel
      by_cases hlt : k < s.size
      · have HB := Lib.hid (at_list s k hlt)
        go_wp2_with fail
        refine (isNameByte_any _ _).mono ?_
        rintro e w1 ⟨rfl, rfl⟩
        cases hb : okN (s[k].toNat) with
        | true =>
          go_wp2
          go_roundw
          case rel => exact ⟨k + 1, by omega, by go_num, by first | rfl | trivial, by rw [Hid, all_succ _ _ _ HB.out, hall.out, okB_n, hb]; rfl⟩
          case measure => simp [intOf]; omega
        | false =>
          have hn := all_bad _ _ _ HB.out (by rw [okB_n, hb])
          go_wp2
          go_ret
          exact ⟨by first | rfl | (rw [name_false hn]; rfl), rfl⟩
      · have e : k = s.size := by omega
        have hn : nameL s.data.toList = true := by
          have hz := Lib.size_eq s
          have h0 : 0 < s.data.toList.length := List.length_pos_iff.2 E0.out
          refine name_true h0 (by omega) E1.out E2.out ?_
          have := hall.out
          rwa [e, hz, List.take_length] at this
        clear hall
        go_wp2
        go_ret
        exact ⟨by first | rfl | (rw [hn]; rfl), rfl⟩
  · have hgt : decide (12 < (s.size : Int)) = true := decide_eq_true (by omega)
    have hn : nameL s.data.toList = false := by
      have hz := Lib.size_eq s
      have : ¬ s.data.toList.length ≤ 12 := by omega
      unfold nameL
      rw [decide_eq_false (fun h => this h.2.1)]
      rfl
    go_enter Try.func71, Try.ntmps71
    go_wp2
    go_ret
    exact ⟨by first | rfl | (rw [hn]; rfl), rfl⟩

/-- How a byte stands to what a name may have. -/
def Six (x : Nat) (b1 b2 b3 b4 b5 b6 b : Bool) : Prop :=
  decide ((97 : Int) ≤ (x : Int)) = b1 ∧ decide ((x : Int) ≤ 122) = b2 ∧ decide ((48 : Int) ≤ (x : Int)) = b3 ∧ decide ((x : Int) ≤ 57) = b4 ∧ ((x : Int) == 46) = b5 ∧ ((x : Int) == 45) = b6 ∧ okN x = b

theorem six (x : Nat) : Six x true true true false false false true ∨ Six x true false true false false false false ∨ Six x false true true true false false true ∨ Six x false true true false false false false ∨
    Six x false true false true true false true ∨ Six x false true false true false true true ∨ Six x false true false true false false false := by
  simp only [Six, decide_eq_true_eq, decide_eq_false_iff_not, beq_iff_eq, beq_eq_false_iff_ne, ne_eq, okN]
  omega

set_option maxHeartbeats 1600000 in
theorem rname_any (s : ByteArray) (w : World) (hs : s.size ≤ maxLen) :
    Calls Try.prog 66 #[.string s] w fun e w' => e = .returned (.bool (nameL s.data.toList)) ∧ w' = w := by
  unfold maxLen at hs
  go_enter Try.func66, Try.ntmps66
  go_wp2_with fail
  go_loopw [3, 4] (fun i _ wr => ∃ k : Nat, k ≤ s.size ∧ i = .int .i64 k ∧ wr = w ∧ Hid ((s.data.toList.take k).all okB = true)) (fun i _ _ => s.size - (intOf i).toNat)
  case atStart => exact ⟨0, Nat.zero_le _, rfl, rfl, rfl⟩
  case round =>
    obtain ⟨k, hk, rfl, rfl, hall⟩ := hrel
    by_cases hlt : k < s.size
    · have HB := Lib.hid (at_list s k hlt)
      rcases six (s[k].toNat) with ⟨d1, d2, d3, d4, d5, d6, hb⟩ | ⟨d1, d2, d3, d4, d5, d6, hb⟩ | ⟨d1, d2, d3, d4, d5, d6, hb⟩ | ⟨d1, d2, d3, d4, d5, d6, hb⟩ | ⟨d1, d2, d3, d4, d5, d6, hb⟩ | ⟨d1, d2, d3, d4, d5, d6, hb⟩ | ⟨d1, d2, d3, d4, d5, d6, hb⟩
      all_goals have HO := Lib.hid hb
      all_goals clear hb
      all_goals first
        | (have hn := all_bad _ _ _ HB.out (by rw [okB_n, HO.out]); have hn2 := Lib.hid (name_false hn); clear hn; go_wp2; go_ret; exact ⟨by first | rfl | (rw [hn2.out]; rfl), rfl⟩)
        | (go_wp2
           go_roundw
           case rel => exact ⟨k + 1, by omega, by go_num, by first | rfl | trivial, by rw [Hid, all_succ _ _ _ HB.out, hall.out, okB_n, HO.out]; rfl⟩
           case measure => simp [intOf]; omega)
    · have e : k = s.size := by omega
      have hfull : s.data.toList.all okB = true := by
        have := hall.out
        rwa [e, Lib.size_eq s, List.take_length] at this
      clear hall
      by_cases e0 : s.data.toList = []
      · obtain rfl := of_list e0
        clear e0 hs hfull
        obtain rfl : k = 0 := e
        go_wp2
        go_ret
        exact ⟨rfl, rfl⟩
      by_cases e1 : s.data.toList = [46]
      · obtain rfl := of_list e1
        clear e0 e1 hs hfull
        obtain rfl : k = 1 := e
        go_wp2
        go_ret
        exact ⟨rfl, rfl⟩
      by_cases e2 : s.data.toList = [46, 46]
      · obtain rfl := of_list e2
        clear e0 e1 e2 hs hfull
        obtain rfl : k = 2 := e
        go_wp2
        go_ret
        exact ⟨rfl, rfl⟩
      have hz := Lib.size_eq s
      have hpos : 0 < s.size := by rw [hz]; exact List.length_pos_iff.2 e0
      have q1 : (s.toList == [46]) = false := by rw [Lib.toList_data]; exact beq_eq_false_iff_ne.2 e1
      have q2 : (s.toList == [46, 46]) = false := by rw [Lib.toList_data]; exact beq_eq_false_iff_ne.2 e2
      have q3 : ¬ s.toList = [46] := by rw [Lib.toList_data]; exact e1
      have q4 : ¬ s.toList = [46, 46] := by rw [Lib.toList_data]; exact e2
      by_cases h12 : s.size ≤ 12
      · have hn := Lib.hid (name_true (by omega) (by omega) e1 e2 hfull)
        have d12 : decide ((s.size : Int) ≤ 12) = true := decide_eq_true (by omega)
        clear hz hfull e0 e1 e2
        go_wp2
        go_ret
        exact ⟨by first | rfl | (rw [hn.out]; rfl), rfl⟩
      · have hn : nameL s.data.toList = false := by
          have : ¬ s.data.toList.length ≤ 12 := by omega
          unfold nameL
          rw [decide_eq_false (fun h => this h.2.1)]
          rfl
        have hn := Lib.hid hn
        have d12 : decide ((s.size : Int) ≤ 12) = false := decide_eq_false (by omega)
        clear hz hfull e0 e1 e2
        go_wp2
        go_ret
        exact ⟨by first | rfl | (rw [hn.out]; rfl), rfl⟩
end Go.Proofs.Ytbiihjdjbknibaa
