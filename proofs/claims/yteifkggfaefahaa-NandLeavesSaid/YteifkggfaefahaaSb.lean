/-
  Contracts of layer 2's small functions and of the reference's: sizes, kinds, noughts, blank bytes, bytes that are the same.
-/
import Derived.Test.YteifkggfaefahaaSm
import Derived.Laws.BitsAllLaws
import Derived.Laws.BytesArg
namespace Go.Proofs.Yteifkggfaefahaa
open Go.ChangeShapes Go.WideShapes Go.ChangeAt Go.RowKit

/-- A value comes back, the world is as it was but for draws. -/
def RetV (w : World) (v : Value) (e : Ending) (w' : World) : Prop := ∃ d, e = .returned v ∧ w' = w.drewN d

theorem pg_ge (s : Int) : ∀ b, decide (isPg s) = b → (s < 128 ∨ 256 < s → b = false) ∧ (128 ≤ s ∧ s ≤ 256 → b = true) := by
  rintro b rfl
  constructor
  · intro h; exact decide_eq_false (by unfold isPg; omega)
  · intro h; exact decide_eq_true (by unfold isPg; omega)

theorem kd_ge (k : Nat) : ∀ b, decide (isKd k) = b → (k < 1 ∨ 7 < k → b = false) ∧ (1 ≤ k ∧ k ≤ 7 → b = true) := by
  rintro b rfl
  constructor
  · intro h; exact decide_eq_false (by unfold isKd; omega)
  · intro h; exact decide_eq_true (by unfold isKd; omega)

set_option maxHeartbeats 400000 in
theorem sBlank_any (A : Option Addr) (n c : Nat) (l : List Nat) (w : World) (ha : Bts w A n l) (hn : n ≤ maxLen) :
    Calls Try.prog 64 #[.slice A n c] w fun e w' => e = .returned (.bool (blank l)) ∧ w = w' := by
  unfold maxLen at hn
  have Ha := Lib.hid ha
  clear ha
  generalize hb : blank l = bl
  have Hb := Lib.hid hb
  clear hb
  go_enter Try.func64, Try.ntmps64
  go_wp2
  go_loop [7] (fun i => ∃ k : Nat, k ≤ n ∧ i = .int .i64 k ∧ Hid (blank (l.take k) = true)) (fun i => n - (intOf i).toNat)
  case atStart => exact ⟨0, Nat.zero_le _, rfl, by simp [Hid, blank]⟩
  case round =>
    obtain ⟨k, hk, rfl, HB⟩ := hrel
    by_cases hlt : k < n
    · obtain ⟨g, o, x, rfl, hx, hxb, hc⟩ := Ha.out.at_ hlt
      have HX := Lib.hid hx
      clear hx
      by_cases h5 : x = 255
      · subst h5
        go_wp2
        go_round
        case rel => exact ⟨k + 1, by omega, by go_num, blank_take l k HX.out HB.out⟩
        case measure => simp [intOf]; omega
      · go_wp2
        go_ret
        exact ⟨ret_bool (by rw [← Hb.out, blank_no l k x HX.out h5]), rfl⟩
    · go_wp2
      go_ret
      refine ⟨ret_bool ?_, rfl⟩
      obtain rfl : k = n := by omega
      have := HB.out
      rw [List.take_of_length_le (by rw [Ha.out.1]; exact Nat.le_refl _)] at this
      rw [← Hb.out, this]

theorem wrap64_of {x : Int} (h1 : -9223372036854775808 ≤ x) (h2 : x ≤ 9223372036854775807) : wrap64 x = x := by
  simp only [wrap64]
  omega
theorem bit_value_all : ∀ (x : Fin 256) (j : Fin 8), bits BinOp.and IntKind.u8 (bits BinOp.xor IntKind.u8 (if IntKind.u8.signed = true then -1 else IntKind.u8.max) (x.val : Int) / 2 ^ j.val) 1 = ((1 - x.val / 2 ^ j.val % 2 : Nat) : Int) := by decide +kernel
theorem bit_value (x j : Nat) (hx : x < 256) (hj : j < 8) : bits BinOp.and IntKind.u8 (bits BinOp.xor IntKind.u8 (if IntKind.u8.signed = true then -1 else IntKind.u8.max) (x : Int) / 2 ^ j) 1 = ((1 - x / 2 ^ j % 2 : Nat) : Int) :=
  bit_value_all ⟨x, hx⟩ ⟨j, hj⟩

set_option maxHeartbeats 400000 in
theorem rNoughts_any (A : Option Addr) (n c : Nat) (l : List Nat) (w : World) (ha : Bts w A n l) (hn : n ≤ 140737488355328) :
    Calls Try.prog 68 #[.slice A n c] w fun e w' => e = .returned (.int .i64 (noughts l : Nat)) ∧ w = w' := by
  have Ha := Lib.hid ha
  clear ha
  go_enter Try.func68, Try.ntmps68
  go_wp2
  go_loop [3, 4] (fun v i => ∃ k m : Nat, k ≤ n ∧ i = .int .i64 k ∧ v = .int .i64 m ∧ m ≤ 8 * k ∧ Hid (m = noughts (l.take k))) (fun _ i => n - (intOf i).toNat)
  case atStart => exact ⟨0, 0, Nat.zero_le _, rfl, rfl, by omega, by simp [Hid, noughts]⟩
  case round =>
    obtain ⟨k, m, hk, rfl, rfl, hm, HM⟩ := hrel
    by_cases hlt : k < n
    · obtain ⟨g, o, x, rfl, hx, hxb, hc⟩ := Ha.out.at_ hlt
      have HX := Lib.hid hx
      clear hx
      go_wp2
      go_loop [3, 5] (fun v b => ∃ j kk s : Nat, j ≤ 8 ∧ b = .int .i64 kk ∧ Hid (kk = 2 ^ j ∧ s = nzk x j) ∧ s ≤ j ∧ v = .int .i64 ((m : Int) + s)) (fun _ b => 256 - (intOf b).toNat)
      case atStart => exact ⟨0, 1, 0, by omega, rfl, ⟨rfl, rfl⟩, by omega, by simp⟩
      case round =>
        obtain ⟨j, kk, s, hj, rfl, HJ, hs, rfl⟩ := hrel
        by_cases hj8 : j < 8
        · have hjj : j = 0 ∨ j = 1 ∨ j = 2 ∨ j = 3 ∨ j = 4 ∨ j = 5 ∨ j = 6 ∨ j = 7 := by omega
          have he : nzk x (j + 1) = s + (1 - x / 2 ^ j % 2) := by rw [HJ.out.2]; rfl
          obtain ⟨s2, hs2⟩ : ∃ s2, s2 = nzk x (j + 1) := ⟨_, rfl⟩
          have HS2 := Lib.hid hs2
          rw [← hs2] at he
          have hkk := HJ.out.1
          clear hs2 HJ hj hj8
          rcases hjj with hq | hq | hq | hq | hq | hq | hq | hq
          all_goals
            rw [hq] at hkk he
            simp only [Nat.reducePow, Nat.div_one] at hkk he
            subst hkk
            go_wp2
          all_goals
            rename_i hbit
            refine ⟨⟨j + 1, 2 ^ (j + 1), s2, by omega, by rw [hq]; rfl, ⟨rfl, HS2.out⟩, by omega, ?_⟩, by simp [intOf]⟩
            first
              | (have hb2 := eq_of_beq hbit; congr 1; omega)
              | (have hb2 := ne_of_beq_false hbit; congr 1; omega)
        · obtain rfl : j = 8 := by omega
          obtain ⟨rfl, rfl⟩ := HJ.out
          clear HJ
          go_wp2
          go_round
          case rel => exact ⟨k + 1, m + nz x, by omega, by go_num, by rw [nz]; rfl, by have := nz_le x; omega, by rw [Hid, noughts_take l k x HX.out, HM.out]⟩
          case measure => simp [intOf]; omega
    · go_wp2
      go_ret
      refine ⟨?_, rfl⟩
      obtain rfl : k = n := by omega
      have := HM.out
      rw [List.take_of_length_le (by rw [Ha.out.1]; exact Nat.le_refl _)] at this
      rw [← this]
      rfl

theorem rBlank_any (A : Option Addr) (n c : Nat) (l : List Nat) (w : World) (ha : Bts w A n l) (hn : n ≤ 140737488355328) :
    Calls Try.prog 55 #[.slice A n c] w fun e w' => e = .returned (.bool (blank l)) ∧ w = w' := by
  have hb := blank_eq l ha.2.1
  generalize blank l = b at hb ⊢
  have Hb := Lib.hid hb
  have Ha := Lib.hid ha
  clear ha hb
  go_enter Try.func55, Try.ntmps55
  go_wp2_with fail
  refine (rNoughts_any A n c l _ Ha.out hn).mono ?_
  rintro e w' ⟨rfl, rfl⟩
  go_wp2
  go_ret
  exact ⟨ret_bool (by rw [Hb.out, Bool.eq_iff_iff]; simp), rfl⟩

/-- The same bytes: yes or no. -/
theorem same_no (A B : Option Addr) (n m c d : Nat) (l k : List Nat) (w : World) (ha : Bts w A n l) (hb : Bts w B m k) (hn : n ≤ maxLen) (hne : l ≠ k) :
    Calls Try.prog 20 #[.slice A n c, .slice B m d] w (Quiet w false) := by
  unfold maxLen at hn
  by_cases hnm : n = m
  · subst hnm
    have Ha := Lib.hid ha
    have Hb := Lib.hid hb
    have Hne := Lib.hid hne
    clear ha hb hne
    go_enter Try.func20, Try.ntmps20
    go_wp2
    go_loopw [5] (fun i wr => ∃ j q : Nat, j ≤ n ∧ i = .int .i64 j ∧ wr = w.drewN q ∧ Hid (l.take j = k.take j)) (fun i _ => n - (intOf i).toNat)
    case atStart => exact ⟨0, 0, Nat.zero_le _, rfl, rfl, rfl⟩
    case round =>
      obtain ⟨j, q, hj, rfl, rfl, HT⟩ := hrel
      by_cases hlt : j < n
      · obtain ⟨g, o, x, rfl, hx, hxb, hc⟩ := Ha.out.at_ hlt
        obtain ⟨g', o', y, rfl, hy, hyb, hc'⟩ := Hb.out.at_ hlt
        have HX := Lib.hid hx
        have HY := Lib.hid hy
        clear hx hy
        by_cases hxy : x = y
        · subst hxy
          go_wp2
          go_quiet (fail)
          go_wp2
          go_roundw
          case rel =>
            refine ⟨j + 1, _, by omega, by go_num, rfl, ?_⟩
            have hl : j < l.length := (List.getElem?_eq_some_iff.1 HX.out).1
            have hk : j < k.length := (List.getElem?_eq_some_iff.1 HY.out).1
            rw [Hid, List.take_succ_eq_append_getElem hl, List.take_succ_eq_append_getElem hk, HT.out, (List.getElem?_eq_some_iff.1 HX.out).2, (List.getElem?_eq_some_iff.1 HY.out).2]
          case measure => simp [intOf]; omega
        · have hxy2 : ((x : Int) == (y : Int)) = false := beq_eq_false_iff_ne.2 (by omega)
          go_wp2
          go_quiet (fail)
          go_wp2
          go_ret
          exact ⟨q + nq, rfl, by simp [World.drewN, Nat.add_assoc]⟩
      · exfalso
        obtain rfl : j = n := by omega
        have := HT.out
        rw [List.take_of_length_le (by rw [Ha.out.1]; exact Nat.le_refl _), List.take_of_length_le (by rw [Hb.out.1]; exact Nat.le_refl _)] at this
        exact Hne.out this
  · clear ha hb hne
    go_enter Try.func20, Try.ntmps20
    go_wp2
    go_ret
    exact ⟨0, rfl, rfl⟩

theorem same_any (A B : Option Addr) (n m c d : Nat) (l k : List Nat) (w : World) (ha : Bts w A n l) (hb : Bts w B m k) (hn : n ≤ maxLen) :
    Calls Try.prog 20 #[.slice A n c, .slice B m d] w (Quiet w (decide (l = k))) := by
  by_cases h : l = k
  · subst h
    obtain rfl : n = m := by rw [← ha.1, ← hb.1]
    rw [decide_eq_true rfl]
    exact same_eq A B n c d l w ha hb hn
  · rw [decide_eq_false h]
    exact same_no A B n m c d l k w ha hb hn h
end Go.Proofs.Yteifkggfaefahaa
