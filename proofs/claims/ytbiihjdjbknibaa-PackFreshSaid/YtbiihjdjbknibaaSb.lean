/-
  Contracts of layer 2's small functions and of the reference's: sizes, kinds, noughts, blank bytes, bytes that are the same.
-/
import Derived.Test.YtbiihjdjbknibaaSm
import Derived.Laws.BitsAllLaws
import Derived.Laws.BytesArg
namespace Go.Proofs.Ytbiihjdjbknibaa
set_option maxRecDepth 100000
open Go.ChangeShapes Go.WideShapes Go.ChangeAt Go.RowKit

/-- A value comes back, the world is as it was but for draws. -/
def RetV (w : World) (v : Value) (e : Ending) (w' : World) : Prop := ∃ d, e = .returned v ∧ w' = w.drewN d

theorem pg_ge (s : Int) : ∀ b, decide (isPg s) = b → (s < 128 ∨ 256 < s → b = false) ∧ (128 ≤ s ∧ s ≤ 256 → b = true) := by
  rintro b rfl
  constructor
  · intro h; exact decide_eq_false (by unfold isPg; omega)
  · intro h; exact decide_eq_true (by unfold isPg; omega)

theorem sIsSize_any (s : Int) (w : World) :
    Calls Try.prog 31 #[.int .i64 s] w fun e w' => e = .returned (.bool (decide (isPg s))) ∧ w = w' := by
  generalize hb : decide (isPg s) = b
  have H := Lib.hid (pg_ge s b hb)
  clear hb
  rcases Int.lt_or_le s 128 with h | h
  · obtain rfl := H.out.1 (.inl h)
    clear H
    go_enter Try.func31, Try.ntmps31
    go_wp2
    go_ret
    first | exact ⟨rfl, rfl⟩ | exact ⟨ret_bool (by simp; omega), rfl⟩
  · rcases Int.lt_or_le 256 s with h' | h'
    · obtain rfl := H.out.1 (.inr h')
      clear H
      go_enter Try.func31, Try.ntmps31
      go_wp2
      go_ret
      first | exact ⟨rfl, rfl⟩ | exact ⟨ret_bool (by simp; omega), rfl⟩
    · obtain rfl := H.out.2 ⟨h, h'⟩
      clear H
      go_enter Try.func31, Try.ntmps31
      go_wp2
      go_ret
      first | exact ⟨rfl, rfl⟩ | exact ⟨ret_bool (by simp; omega), rfl⟩

theorem rSize_any (s : Int) (w : World) :
    Calls Try.prog 47 #[.int .i64 s] w fun e w' => e = .returned (.bool (decide (isPg s))) ∧ w = w' := by
  generalize hb : decide (isPg s) = b
  have H := Lib.hid (pg_ge s b hb)
  clear hb
  rcases Int.lt_or_le s 128 with h | h
  · obtain rfl := H.out.1 (.inl h)
    clear H
    go_enter Try.func47, Try.ntmps47
    go_wp2
    go_ret
    first | exact ⟨rfl, rfl⟩ | exact ⟨ret_bool (by simp; omega), rfl⟩
  · rcases Int.lt_or_le 256 s with h' | h'
    · obtain rfl := H.out.1 (.inr h')
      clear H
      go_enter Try.func47, Try.ntmps47
      go_wp2
      go_ret
      first | exact ⟨rfl, rfl⟩ | exact ⟨ret_bool (by simp; omega), rfl⟩
    · obtain rfl := H.out.2 ⟨h, h'⟩
      clear H
      go_enter Try.func47, Try.ntmps47
      go_wp2
      go_ret
      first | exact ⟨rfl, rfl⟩ | exact ⟨ret_bool (by simp; omega), rfl⟩

theorem kd_ge (k : Nat) : ∀ b, decide (isKd k) = b → (k < 1 ∨ 7 < k → b = false) ∧ (1 ≤ k ∧ k ≤ 7 → b = true) := by
  rintro b rfl
  constructor
  · intro h; exact decide_eq_false (by unfold isKd; omega)
  · intro h; exact decide_eq_true (by unfold isKd; omega)

theorem sIsKind_any (k : Nat) (w : World) :
    Calls Try.prog 35 #[.int .u8 k] w fun e w' => e = .returned (.bool (decide (isKd k))) ∧ w = w' := by
  generalize hb : decide (isKd k) = b
  have H := Lib.hid (kd_ge k b hb)
  clear hb
  rcases Nat.lt_or_ge k 1 with h | h
  · obtain rfl := H.out.1 (.inl h)
    clear H
    go_enter Try.func35, Try.ntmps35
    go_wp2
    go_ret
    first | exact ⟨rfl, rfl⟩ | exact ⟨ret_bool (by simp; omega), rfl⟩
  · rcases Nat.lt_or_ge 7 k with h' | h'
    · obtain rfl := H.out.1 (.inr h')
      clear H
      go_enter Try.func35, Try.ntmps35
      go_wp2
      go_ret
      first | exact ⟨rfl, rfl⟩ | exact ⟨ret_bool (by simp; omega), rfl⟩
    · obtain rfl := H.out.2 ⟨h, h'⟩
      clear H
      go_enter Try.func35, Try.ntmps35
      go_wp2
      go_ret
      first | exact ⟨rfl, rfl⟩ | exact ⟨ret_bool (by simp; omega), rfl⟩

theorem sBody_any (s : Int) (w : World) :
    Calls Try.prog 36 #[.int .i64 s] w fun e w' => e = .returned (.int .i64 (pgBody s)) ∧ w = w' := by
  by_cases h : isPg s
  · have e1 : pgBody s = s - 5 := by unfold pgBody; rw [if_pos h]
    have e2 : decide (isPg s) = true := by simpa using h
    rw [e1]
    clear e1
    unfold isPg at h
    go_enter Try.func36, Try.ntmps36
    go_wp2_with (go_at_call 31; refine (sIsSize_any _ _).mono ?_; rintro e w' ⟨rfl, rfl⟩; rw [e2])
    go_ret
    exact ⟨rfl, rfl⟩
  · have e1 : pgBody s = 0 := by unfold pgBody; rw [if_neg h]
    have e2 : decide (isPg s) = false := by simpa using h
    rw [e1]
    clear e1 h
    go_enter Try.func36, Try.ntmps36
    go_wp2_with (go_at_call 31; refine (sIsSize_any _ _).mono ?_; rintro e w' ⟨rfl, rfl⟩; rw [e2])
    go_ret
    exact ⟨rfl, rfl⟩

set_option maxHeartbeats 400000 in
theorem sBlank_any (A : Option Addr) (n c : Nat) (l : List Nat) (w : World) (ha : Bts w A n l) (hn : n ≤ maxLen) :
    Calls Try.prog 32 #[.slice A n c] w fun e w' => e = .returned (.bool (blank l)) ∧ w = w' := by
  unfold maxLen at hn
  have Ha := Lib.hid ha
  clear ha
  generalize hb : blank l = bl
  have Hb := Lib.hid hb
  clear hb
  go_enter Try.func32, Try.ntmps32
  go_wp2
  go_loop [7] (fun i => ∃ k : Nat, k ≤ n ∧ i = .int .i64 k ∧ Hid (blank (l.take k) = true)) (fun i => n - (intOf i).toNat)
  case atStart => exact ⟨0, Nat.zero_le _, rfl, by simp [Hid, blank]⟩
  case round =>
    obtain ⟨k, hk, rfl, HB⟩ := hrel
    by_cases hlt : k < n
    · obtain ⟨g, o, x, rfl, hx, hxb, hc⟩ := Ha.out.at_ hlt
      have HX := Lib.hid hx
      clear hx
      by_cases h5 : x = 255
      · subst h5
        go_wp2
        go_round
        case rel => exact ⟨k + 1, by omega, by go_num, blank_take l k HX.out HB.out⟩
        case measure => simp [intOf]; omega
      · go_wp2
        go_ret
        exact ⟨ret_bool (by rw [← Hb.out, blank_no l k x HX.out h5]), rfl⟩
    · go_wp2
      go_ret
      refine ⟨ret_bool ?_, rfl⟩
      obtain rfl : k = n := by omega
      have := HB.out
      rw [List.take_of_length_le (by rw [Ha.out.1]; exact Nat.le_refl _)] at this
      rw [← Hb.out, this]

theorem wrap64_of {x : Int} (h1 : -9223372036854775808 ≤ x) (h2 : x ≤ 9223372036854775807) : wrap64 x = x := by
  simp only [wrap64]
  omega
theorem bit_value_all : ∀ (x : Fin 256) (j : Fin 8), bits BinOp.and IntKind.u8 (bits BinOp.xor IntKind.u8 (if IntKind.u8.signed = true then -1 else IntKind.u8.max) (x.val : Int) / 2 ^ j.val) 1 = ((1 - x.val / 2 ^ j.val % 2 : Nat) : Int) := by decide +kernel
theorem bit_value (x j : Nat) (hx : x < 256) (hj : j < 8) : bits BinOp.and IntKind.u8 (bits BinOp.xor IntKind.u8 (if IntKind.u8.signed = true then -1 else IntKind.u8.max) (x : Int) / 2 ^ j) 1 = ((1 - x / 2 ^ j % 2 : Nat) : Int) :=
  bit_value_all ⟨x, hx⟩ ⟨j, hj⟩

set_option maxHeartbeats 400000 in
theorem sNoughts_any (A : Option Addr) (n c : Nat) (l : List Nat) (w : World) (ha : Bts w A n l) (hn : n ≤ 140737488355328) :
    Calls Try.prog 34 #[.slice A n c] w fun e w' => e = .returned (.int .i64 (noughts l : Nat)) ∧ w = w' := by
  have Ha := Lib.hid ha
  clear ha
  go_enter Try.func34, Try.ntmps34
  go_wp2
  go_loop [3, 9] (fun v i => ∃ k m : Nat, k ≤ n ∧ i = .int .i64 k ∧ v = .int .i64 m ∧ m ≤ 8 * k ∧ Hid (m = noughts (l.take k))) (fun _ i => n - (intOf i).toNat)
  case atStart => exact ⟨0, 0, Nat.zero_le _, rfl, rfl, by omega, by simp [Hid, noughts]⟩
  case round =>
    obtain ⟨k, m, hk, rfl, rfl, hm, HM⟩ := hrel
    by_cases hlt : k < n
    · obtain ⟨g, o, x, rfl, hx, hxb, hc⟩ := Ha.out.at_ hlt
      have HX := Lib.hid hx
      clear hx
      go_wp2
      go_loop [3, 13] (fun v b => ∃ j : Nat, j ≤ 8 ∧ b = .int .i64 j ∧ v = .int .i64 ((m : Int) + (nzk x j : Nat))) (fun _ b => 8 - (intOf b).toNat)
      case atStart => exact ⟨0, by omega, rfl, by simp [nzk]⟩
      case round =>
        obtain ⟨j, hj, rfl, rfl⟩ := hrel
        have hz := nzk_le x j
        by_cases hj8 : j < 8
        · go_wp2
          have e : nzk x (j + 1) = nzk x j + (1 - x / 2 ^ j % 2) := rfl
          have hb1 : 1 - x / 2 ^ j % 2 ≤ 1 := by omega
          rw [bit_value x j hxb hj8]
          refine ⟨⟨j + 1, by omega, by go_num, ?_⟩, by simp [intOf]; omega⟩
          rw [e]
          generalize 1 - x / 2 ^ j % 2 = bb at *
          generalize nzk x j = s at *
          rw [wrap64_of (x := (bb : Int)) (by omega) (by omega), wrap64_of (by omega) (by omega)]
          congr 1
          omega
        · obtain rfl : j = 8 := by omega
          go_wp2
          go_round
          case rel => exact ⟨k + 1, m + nz x, by omega, by go_num, by rw [nz]; rfl, by have := nz_le x; omega, by rw [Hid, noughts_take l k x HX.out, HM.out]⟩
          case measure => simp [intOf]; omega
    · go_wp2
      go_ret
      refine ⟨?_, rfl⟩
      obtain rfl : k = n := by omega
      have := HM.out
      rw [List.take_of_length_le (by rw [Ha.out.1]; exact Nat.le_refl _)] at this
      rw [← this]
      rfl

set_option maxHeartbeats 400000 in
theorem rNoughts_any (A : Option Addr) (n c : Nat) (l : List Nat) (w : World) (ha : Bts w A n l) (hn : n ≤ 140737488355328) :
    Calls Try.prog 68 #[.slice A n c] w fun e w' => e = .returned (.int .i64 (noughts l : Nat)) ∧ w = w' := by
  have Ha := Lib.hid ha
  clear ha
  go_enter Try.func68, Try.ntmps68
  go_wp2
  go_loop [3, 4] (fun v i => ∃ k m : Nat, k ≤ n ∧ i = .int .i64 k ∧ v = .int .i64 m ∧ m ≤ 8 * k ∧ Hid (m = noughts (l.take k))) (fun _ i => n - (intOf i).toNat)
  case atStart => exact ⟨0, 0, Nat.zero_le _, rfl, rfl, by omega, by simp [Hid, noughts]⟩
  case round =>
    obtain ⟨k, m, hk, rfl, rfl, hm, HM⟩ := hrel
    by_cases hlt : k < n
    · obtain ⟨g, o, x, rfl, hx, hxb, hc⟩ := Ha.out.at_ hlt
      have HX := Lib.hid hx
      clear hx
      go_wp2
      go_loop [3, 5] (fun v b => ∃ j kk s : Nat, j ≤ 8 ∧ b = .int .i64 kk ∧ Hid (kk = 2 ^ j ∧ s = nzk x j) ∧ s ≤ j ∧ v = .int .i64 ((m : Int) + s)) (fun _ b => 256 - (intOf b).toNat)
      case atStart => exact ⟨0, 1, 0, by omega, rfl, ⟨rfl, rfl⟩, by omega, by simp⟩
      case round =>
        obtain ⟨j, kk, s, hj, rfl, HJ, hs, rfl⟩ := hrel
        by_cases hj8 : j < 8
        · have hjj : j = 0 ∨ j = 1 ∨ j = 2 ∨ j = 3 ∨ j = 4 ∨ j = 5 ∨ j = 6 ∨ j = 7 := by omega
          have he : nzk x (j + 1) = s + (1 - x / 2 ^ j % 2) := by rw [HJ.out.2]; rfl
          obtain ⟨s2, hs2⟩ : ∃ s2, s2 = nzk x (j + 1) := ⟨_, rfl⟩
          have HS2 := Lib.hid hs2
          rw [← hs2] at he
          have hkk := HJ.out.1
          clear hs2 HJ hj hj8
          rcases hjj with hq | hq | hq | hq | hq | hq | hq | hq
          all_goals
            rw [hq] at hkk he
            simp only [Nat.reducePow, Nat.div_one] at hkk he
            subst hkk
            go_wp2
          all_goals
            rename_i hbit
            refine ⟨⟨j + 1, 2 ^ (j + 1), s2, by omega, by rw [hq]; rfl, ⟨rfl, HS2.out⟩, by omega, ?_⟩, by simp [intOf]⟩
            first
              | (have hb2 := eq_of_beq hbit; congr 1; omega)
              | (have hb2 := ne_of_beq_false hbit; congr 1; omega)
        · obtain rfl : j = 8 := by omega
          obtain ⟨rfl, rfl⟩ := HJ.out
          clear HJ
          go_wp2
          go_round
          case rel => exact ⟨k + 1, m + nz x, by omega, by go_num, by rw [nz]; rfl, by have := nz_le x; omega, by rw [Hid, noughts_take l k x HX.out, HM.out]⟩
          case measure => simp [intOf]; omega
    · go_wp2
      go_ret
      refine ⟨?_, rfl⟩
      obtain rfl : k = n := by omega
      have := HM.out
      rw [List.take_of_length_le (by rw [Ha.out.1]; exact Nat.le_refl _)] at this
      rw [← this]
      rfl

/-- The same bytes: yes or no. -/
theorem same_no (A B : Option Addr) (n m c d : Nat) (l k : List Nat) (w : World) (ha : Bts w A n l) (hb : Bts w B m k) (hn : n ≤ maxLen) (hne : l ≠ k) :
    Calls Try.prog 14 #[.slice A n c, .slice B m d] w (Quiet w false) := by
  unfold maxLen at hn
  by_cases hnm : n = m
  · subst hnm
    have Ha := Lib.hid ha
    have Hb := Lib.hid hb
    have Hne := Lib.hid hne
    clear ha hb hne
    go_enter Try.func14, Try.ntmps14
    go_wp2
    go_loopw [5] (fun i wr => ∃ j q : Nat, j ≤ n ∧ i = .int .i64 j ∧ wr = w.drewN q ∧ Hid (l.take j = k.take j)) (fun i _ => n - (intOf i).toNat)
    case atStart => exact ⟨0, 0, Nat.zero_le _, rfl, rfl, rfl⟩
    case round =>
      obtain ⟨j, q, hj, rfl, rfl, HT⟩ := hrel
      by_cases hlt : j < n
      · obtain ⟨g, o, x, rfl, hx, hxb, hc⟩ := Ha.out.at_ hlt
        obtain ⟨g', o', y, rfl, hy, hyb, hc'⟩ := Hb.out.at_ hlt
        have HX := Lib.hid hx
        have HY := Lib.hid hy
        clear hx hy
        by_cases hxy : x = y
        · subst hxy
          go_wp2
          go_quiet (fail)
          go_wp2
          go_roundw
          case rel =>
            refine ⟨j + 1, _, by omega, by go_num, rfl, ?_⟩
            have hl : j < l.length := (List.getElem?_eq_some_iff.1 HX.out).1
            have hk : j < k.length := (List.getElem?_eq_some_iff.1 HY.out).1
            rw [Hid, List.take_succ_eq_append_getElem hl, List.take_succ_eq_append_getElem hk, HT.out, (List.getElem?_eq_some_iff.1 HX.out).2, (List.getElem?_eq_some_iff.1 HY.out).2]
          case measure => simp [intOf]; omega
        · have hxy2 : ((x : Int) == (y : Int)) = false := beq_eq_false_iff_ne.2 (by omega)
          go_wp2
          go_quiet (fail)
          go_wp2
          go_ret
          exact ⟨q + nq, rfl, by simp [World.drewN, Nat.add_assoc]⟩
      · exfalso
        obtain rfl : j = n := by omega
        have := HT.out
        rw [List.take_of_length_le (by rw [Ha.out.1]; exact Nat.le_refl _), List.take_of_length_le (by rw [Hb.out.1]; exact Nat.le_refl _)] at this
        exact Hne.out this
  · clear ha hb hne
    go_enter Try.func14, Try.ntmps14
    go_wp2
    go_ret
    exact ⟨0, rfl, rfl⟩

theorem same_any (A B : Option Addr) (n m c d : Nat) (l k : List Nat) (w : World) (ha : Bts w A n l) (hb : Bts w B m k) (hn : n ≤ maxLen) :
    Calls Try.prog 14 #[.slice A n c, .slice B m d] w (Quiet w (decide (l = k))) := by
  by_cases h : l = k
  · subst h
    obtain rfl : n = m := by rw [← ha.1, ← hb.1]
    rw [decide_eq_true rfl]
    exact same_eq A B n c d l w ha hb hn
  · rw [decide_eq_false h]
    exact same_no A B n m c d l k w ha hb hn h
end Go.Proofs.Ytbiihjdjbknibaa
