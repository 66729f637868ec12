/-
  Contracts: bytes that are equal, bytes that are less: layer 2's and the reference's.
-/
import Derived.Test.YteifkggfaefahaaSb
import Derived.Lib.Bytes
namespace Go.Proofs.Yteifkggfaefahaa
open Go.ChangeShapes Go.WideShapes Go.ChangeAt Go.RowKit

def strOf (l : List Nat) : ByteArray := strOfNums (l.map Int.ofNat)
theorem strOf_nil : strOf [] = ByteArray.empty := by first | rfl | (apply ByteArray.ext; rfl)
theorem strOf_toList (l : List Nat) : (strOf l).toList = l.map UInt8.ofNat := by
  rw [strOf, Lib.strOfNums_toList]
  simp [Lib.bytesOf]
theorem ofNat_inj : ∀ (l k : List Nat), IsBytes l → IsBytes k → l.map UInt8.ofNat = k.map UInt8.ofNat → l = k
  | [], [], _, _, _ => rfl
  | x :: l, y :: k, hl, hk, h => by
    simp only [List.map_cons, List.cons.injEq] at h
    have e := congrArg UInt8.toNat h.1
    have h1 := hl.cons.1
    have h2 := hk.cons.1
    simp only [UInt8.toNat_ofNat'] at e
    rw [ofNat_inj l k hl.cons.2 hk.cons.2 h.2]
    have : x = y := by omega
    rw [this]
  | [], _ :: _, _, _, h => by simp at h
  | _ :: _, [], _, _, h => by simp at h
theorem strOf_beq (l k : List Nat) (hl : IsBytes l) (hk : IsBytes k) : ((strOf l).toList == (strOf k).toList) = decide (l = k) := by
  rw [strOf_toList, strOf_toList, Bool.eq_iff_iff]
  simp only [beq_iff_eq, decide_eq_true_iff]
  exact ⟨ofNat_inj l k hl hk, fun h => by rw [h]⟩

theorem conv_bts (A : Option Addr) (n c : Nat) (l : List Nat) (w : World) (h : Bts w A n l) : (convert 30 9 (.slice A n c)).run Try.prog w = .ok (.string (strOf l)) w := by
  rcases Nat.eq_zero_or_pos n with h0 | h0
  · subst h0
    obtain rfl : l = [] := List.eq_nil_of_length_eq_zero h.1
    rcases A with _ | a
    · rw [strOf_nil]
      exact run_convert_bytes_nil w _ _ Try.underlying30 Try.underlying5 _ _ _ Try.underlying9
    · have hl : (loadCells a 0).run Try.prog w = .ok (([] : List Int).map (Value.int .u8)).toArray w := by simpa using run_loadCells_list (P := Try.prog) w a [] (by simp)
      rw [run_convert_bytes_string w _ _ _ _ _ _ Try.underlying30 Try.underlying5 Try.underlying9, run_bytesToString w _ 0 c [] hl, strOf_nil]
      rfl
  · obtain ⟨g, o, rfl, hc⟩ := h.2.2 h0
    refine run_convert_bytes_arg w _ _ Try.underlying30 Try.underlying5 g o n c (l.map Int.ofNat) (by simpa using h.1) (fun i hi => ?_) _ Try.underlying9
    have hl : i < l.length := by rw [h.1]; exact hi
    rw [hc i l[i] (List.getElem?_eq_getElem hl)]
    simp [List.getD, List.getElem?_eq_getElem hl]

theorem equal_any (A B : Option Addr) (n m c d : Nat) (l k : List Nat) (w : World) (ha : Bts w A n l) (hb : Bts w B m k) :
    Calls Try.prog 53 #[.slice A n c, .slice B m d] w fun e w' => e = .returned (.bool (decide (l = k))) ∧ w = w' := by
  have h1 := conv_bts A n c l w ha
  have h2 := conv_bts B m d k w hb
  have He := Lib.hid (strOf_beq l k ha.2.1 hb.2.1)
  generalize decide (l = k) = b at He ⊢
  clear ha hb
  generalize strOf l = s1 at *
  generalize strOf k = s2 at *
  go_enter Try.func53, Try.ntmps53
  go_wp2
  go_ret
  exact ⟨ret_bool He.out, rfl⟩

theorem unders_all (l k : List Nat) (n : Nat) (hl : l.length = n) (hk : k.length = n) (h : ∀ t x y : Nat, t < n → l[t]? = some x → k[t]? = some y → under x y = true) : less l k = !(decide (l = k)) := by
  have := (unders_iff l k (by omega)).2 fun t x y hx hy => h t x y (by rw [← hl]; exact (List.getElem?_eq_some_iff.1 hx).1) hx hy
  simp [less, this]
theorem unders_next {l k : List Nat} {j x y : Nat} (h : ∀ t x y : Nat, t < j → l[t]? = some x → k[t]? = some y → under x y = true) (hx : l[j]? = some x) (hy : k[j]? = some y) (hu : under x y = true) :
    ∀ t x y : Nat, t < j + 1 → l[t]? = some x → k[t]? = some y → under x y = true := by
  intro t u v ht hu' hv
  rcases Nat.lt_or_ge t j with h' | h'
  · exact h t u v h' hu' hv
  · obtain rfl : t = j := by omega
    rw [hx] at hu'; rw [hy] at hv
    injection hu' with hu'; injection hv with hv
    subst hu' hv
    exact hu
theorem less_no (l k : List Nat) (j x y : Nat) (hx : l[j]? = some x) (hy : k[j]? = some y) (h : under x y = false) : less l k = false := by simp [less, unders_no l k j x y hx hy h]

set_option maxHeartbeats 400000 in
theorem sLess_eq (A B : Option Addr) (n c d : Nat) (l k : List Nat) (w : World) (ha : Bts w A n l) (hb : Bts w B n k) (hn : n ≤ maxLen) :
    Calls Try.prog 26 #[.slice A n c, .slice B n d] w (Quiet w (less l k)) := by
  unfold maxLen at hn
  have Ha := Lib.hid ha
  have Hb := Lib.hid hb
  clear ha hb
  generalize hL : less l k = L
  have HL := Lib.hid hL
  clear hL
  go_enter Try.func26, Try.ntmps26
  go_wp2
  go_loopw [13] (fun i wr => ∃ j q : Nat, j ≤ n ∧ i = .int .i64 j ∧ wr = w.drewN q ∧ Hid (∀ t x y : Nat, t < j → l[t]? = some x → k[t]? = some y → under x y = true)) (fun i _ => n - (intOf i).toNat)
  case atStart => exact ⟨0, 0, Nat.zero_le _, rfl, rfl, fun t x y h => absurd h (by omega)⟩
  case round =>
    obtain ⟨j, q, hj, rfl, rfl, HU⟩ := hrel
    by_cases hlt : j < n
    · obtain ⟨g, o, x, rfl, hx, hxb, hc⟩ := Ha.out.at_ hlt
      obtain ⟨g', o', y, rfl, hy, hyb, hc'⟩ := Hb.out.at_ hlt
      have HX := Lib.hid hx
      have HY := Lib.hid hy
      have hbit := u8_andNot_nat y x hyb hxb
      clear hx hy
      by_cases hu : under x y = true
      · have hq : (bits .andNot .u8 (y : Int) (x : Int) == 0) = true := by
          rw [hbit]; unfold under at hu; have := eq_of_beq hu; rw [this]; rfl
        clear hbit
        go_wp2
        go_quiet (fail)
        go_wp2
        go_roundw
        case rel => exact ⟨j + 1, _, by omega, by go_num, rfl, unders_next HU.out HX.out HY.out hu⟩
        case measure => simp [intOf]; omega
      · have hq : (bits .andNot .u8 (y : Int) (x : Int) == 0) = false := by
          rw [hbit]
          have h2 : ¬ (y &&& (255 - x)) = 0 := fun h => hu (by unfold under; rw [h]; rfl)
          exact beq_eq_false_iff_ne.2 (by omega)
        have hu2 : under x y = false := by simpa using hu
        clear hbit hu
        go_wp2
        go_quiet (fail)
        go_wp2
        go_ret
        exact ⟨q + nq, ret_bool (by rw [← HL.out, less_no l k j x y HX.out HY.out hu2]), by simp [World.drewN, Nat.add_assoc]⟩
    · obtain rfl : j = n := by omega
      go_wp2_with (go_at_call 53; refine (equal_any A B _ _ c d l k _ (Ha.out.drewN q) (Hb.out.drewN q)).mono ?_; rintro e w' ⟨rfl, rfl⟩)
      go_ret
      exact ⟨q, ret_bool (by rw [← HL.out, unders_all l k j Ha.out.1 Hb.out.1 HU.out]), rfl⟩

theorem sLess_any (A B : Option Addr) (n m c d : Nat) (l k : List Nat) (w : World) (ha : Bts w A n l) (hb : Bts w B m k) (hn : n ≤ maxLen) :
    Calls Try.prog 26 #[.slice A n c, .slice B m d] w (Quiet w (less l k)) := by
  by_cases hnm : n = m
  · subst hnm
    exact sLess_eq A B n c d l k w ha hb hn
  · rw [less_length l k (by rw [ha.1, hb.1]; exact hnm)]
    clear ha hb
    unfold maxLen at hn
    go_enter Try.func26, Try.ntmps26
    go_wp2
    go_ret
    exact ⟨0, rfl, rfl⟩
end Go.Proofs.Yteifkggfaefahaa
