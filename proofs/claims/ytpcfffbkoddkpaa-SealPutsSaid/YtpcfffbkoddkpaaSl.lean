/-
  The contract of the reference's Less.
-/
import Derived.Test.YtpcfffbkoddkpaaSj
namespace Go.Proofs.Ytpcfffbkoddkpaa
open Go.ChangeShapes Go.WideShapes Go.ChangeAt Go.RowKit

theorem take_same (l k : List Nat) (j x y : Nat) (hx : l[j]? = some x) (hy : k[j]? = some y) : (decide (l.take j = k.take j) && (((x : Int) == (y : Int)) : Bool)) = decide (l.take (j + 1) = k.take (j + 1)) := by
  have hl : j < l.length := (List.getElem?_eq_some_iff.1 hx).1
  have hk : j < k.length := (List.getElem?_eq_some_iff.1 hy).1
  rw [List.take_succ_eq_append_getElem hl, List.take_succ_eq_append_getElem hk, (List.getElem?_eq_some_iff.1 hx).2, (List.getElem?_eq_some_iff.1 hy).2, Bool.eq_iff_iff]
  simp only [Bool.and_eq_true, decide_eq_true_eq, beq_iff_eq]
  constructor
  · rintro ⟨h1, h2⟩
    rw [h1, show x = y from by omega]
  · intro h
    have := List.append_inj h (by rw [List.length_take, List.length_take]; omega)
    refine ⟨this.1, ?_⟩
    have h2 := this.2
    simp at h2
    omega

theorem pow_small (t kk : Nat) (h : kk = 2 ^ t) (ht : t < 8) : 1 ≤ kk ∧ kk ≤ 128 := by
  have h8 : t = 0 ∨ t = 1 ∨ t = 2 ∨ t = 3 ∨ t = 4 ∨ t = 5 ∨ t = 6 ∨ t = 7 := by omega
  rcases h8 with rfl | rfl | rfl | rfl | rfl | rfl | rfl | rfl <;> simp at h <;> omega
def clean (y x t : Nat) : Prop := ∀ s, s < t → ¬ (y / 2 ^ s % 2 = 1 ∧ x / 2 ^ s % 2 = 0)
theorem bits_next {y x t : Nat} (h : clean y x t) (hf : ¬ (y / 2 ^ t % 2 = 1 ∧ x / 2 ^ t % 2 = 0)) : clean y x (t + 1) := by
  intro s hs
  rcases Nat.lt_or_ge s t with h' | h'
  · exact h s h'
  · obtain rfl : s = t := by omega
    exact hf
set_option maxHeartbeats 1000000 in
theorem rLess_eq (A B : Option Addr) (n c d : Nat) (l k : List Nat) (w : World) (ha : Bts w A n l) (hb : Bts w B n k) (hn : n ≤ maxLen) :
    Calls Try.prog 24 #[.slice A n c, .slice B n d] w (Quiet w (less l k)) := by
  unfold maxLen at hn
  have Ha := Lib.hid ha
  have Hb := Lib.hid hb
  clear ha hb
  generalize hL : less l k = L
  have HL := Lib.hid hL
  clear hL
  go_enter Try.func24, Try.ntmps24
  go_wp2
  go_loopw [5, 6] (fun s i wr => ∃ (j q : Nat) (b : Bool), j ≤ n ∧ i = .int .i64 j ∧ s = .bool b ∧ Hid (b = decide (l.take j = k.take j)) ∧ wr = w.drewN q ∧ Hid (∀ t x y : Nat, t < j → l[t]? = some x → k[t]? = some y → under x y = true)) (fun _ i _ => n - (intOf i).toNat)
  case atStart => exact ⟨0, 0, true, Nat.zero_le _, rfl, rfl, by simp [Hid], rfl, fun t x y h => absurd h (by omega)⟩
  case round =>
    obtain ⟨j, q, b, hj, rfl, rfl, HS, rfl, HU⟩ := hrel
    by_cases hlt : j < n
    · obtain ⟨g, o, x, rfl, hx, hxb, hc⟩ := Ha.out.at_ hlt
      obtain ⟨g', o', y, rfl, hy, hyb, hc'⟩ := Hb.out.at_ hlt
      have HX := Lib.hid hx
      have HY := Lib.hid hy
      clear hx hy
      obtain ⟨b2, hb2⟩ : ∃ b2, b2 = decide (l.take (j + 1) = k.take (j + 1)) := ⟨_, rfl⟩
      have HB2 := Lib.hid hb2
      have hbb : (b && (((x : Int) == (y : Int)) : Bool)) = b2 := by rw [hb2, HS.out]; exact take_same l k j x y HX.out HY.out
      clear hb2 HS
      go_wp2
      cases b
      · obtain rfl : b2 = false := by rw [← hbb]; rfl
        clear hbb
        go_quiet (fail)
        go_wp2
        go_loop [7] (fun v => ∃ t kk : Nat, t ≤ 8 ∧ v = .int .i64 kk ∧ Hid (kk = 2 ^ t) ∧ clean y x t) (fun v => 256 - (intOf v).toNat)
        case atStart => exact ⟨0, 1, by omega, rfl, rfl, fun s h => absurd h (by omega)⟩
        case round =>
          obtain ⟨t, kk, ht, rfl, HK, HN⟩ := hrel
          by_cases ht8 : t < 8
          · obtain ⟨hk1, hk2⟩ := pow_small t kk HK.out ht8
            obtain ⟨vy, hvy⟩ : ∃ v, v = y / kk := ⟨_, rfl⟩
            obtain ⟨vx, hvx⟩ : ∃ v, v = x / kk := ⟨_, rfl⟩
            have dy : (y : Int) / (kk : Int) = (vy : Int) := by rw [hvy]; exact (Int.natCast_ediv y kk).symm
            have dx : (x : Int) / (kk : Int) = (vx : Int) := by rw [hvx]; exact (Int.natCast_ediv x kk).symm
            have by_ : vy < 256 := by rw [hvy]; exact Nat.lt_of_le_of_lt (Nat.div_le_self _ _) hyb
            have bx_ : vx < 256 := by rw [hvx]; exact Nat.lt_of_le_of_lt (Nat.div_le_self _ _) hxb
            have HVY := Lib.hid (show vy = y / 2 ^ t from by rw [hvy, HK.out])
            have HVX := Lib.hid (show vx = x / 2 ^ t from by rw [hvx, HK.out])
            have HK2 := Lib.hid (show 2 * kk = 2 ^ (t + 1) from by rw [HK.out, Nat.pow_succ]; omega)
            clear hvy hvx HK
            by_cases h1 : vy % 2 = 1
            · by_cases h2 : vx % 2 = 0
              · have HF := Lib.hid (under_bit x y t hxb hyb ht8 (by rw [← HVY.out]; exact h1) (by rw [← HVX.out]; exact h2))
                have e1 : ((vy : Int) % 2 == 1) = true := beq_iff_eq.2 (by omega)
                have e2 : ((vx : Int) % 2 == 0) = true := beq_iff_eq.2 (by omega)
                go_wp2
                go_ret
                exact ⟨q + nq, ret_bool (by rw [← HL.out, less_no l k j x y HX.out HY.out HF.out]), by simp [World.drewN]⟩
              · have e1 : ((vy : Int) % 2 == 1) = true := beq_iff_eq.2 (by omega)
                have e2 : ((vx : Int) % 2 == 0) = false := beq_eq_false_iff_ne.2 (by omega)
                have HF : Hid (¬ (y / 2 ^ t % 2 = 1 ∧ x / 2 ^ t % 2 = 0)) := fun h => h2 (by rw [HVX.out]; exact h.2)
                go_wp2
                go_round
                case rel => exact ⟨t + 1, by omega, 2 * kk, by omega, HK2, bits_next HN HF.out⟩
                case measure => simp [intOf]; omega
            · have e1 : ((vy : Int) % 2 == 1) = false := beq_eq_false_iff_ne.2 (by omega)
              have HF : Hid (¬ (y / 2 ^ t % 2 = 1 ∧ x / 2 ^ t % 2 = 0)) := fun h => h1 (by rw [HVY.out]; exact h.1)
              go_wp2
              go_round
              case rel => exact ⟨t + 1, by omega, 2 * kk, by omega, HK2, bits_next HN HF.out⟩
              case measure => simp [intOf]; omega
          · obtain rfl : t = 8 := by omega
            obtain rfl : kk = 256 := HK.out
            have hu := under_yes x y hxb hyb HN
            clear HK HN
            go_wp2
            go_roundw
            case rel => exact ⟨j + 1, q + nq, false, by omega, by go_num, rfl, HB2, by simp [World.drewN], unders_next HU.out HX.out HY.out hu⟩
            case measure => simp [intOf]; omega
      · rw [Bool.true_and] at hbb
        go_quiet (fail)
        go_wp2
        go_loop [7] (fun v => ∃ t kk : Nat, t ≤ 8 ∧ v = .int .i64 kk ∧ Hid (kk = 2 ^ t) ∧ clean y x t) (fun v => 256 - (intOf v).toNat)
        case atStart => exact ⟨0, 1, by omega, rfl, rfl, fun s h => absurd h (by omega)⟩
        case round =>
          obtain ⟨t, kk, ht, rfl, HK, HN⟩ := hrel
          by_cases ht8 : t < 8
          · obtain ⟨hk1, hk2⟩ := pow_small t kk HK.out ht8
            obtain ⟨vy, hvy⟩ : ∃ v, v = y / kk := ⟨_, rfl⟩
            obtain ⟨vx, hvx⟩ : ∃ v, v = x / kk := ⟨_, rfl⟩
            have dy : (y : Int) / (kk : Int) = (vy : Int) := by rw [hvy]; exact (Int.natCast_ediv y kk).symm
            have dx : (x : Int) / (kk : Int) = (vx : Int) := by rw [hvx]; exact (Int.natCast_ediv x kk).symm
            have by_ : vy < 256 := by rw [hvy]; exact Nat.lt_of_le_of_lt (Nat.div_le_self _ _) hyb
            have bx_ : vx < 256 := by rw [hvx]; exact Nat.lt_of_le_of_lt (Nat.div_le_self _ _) hxb
            have HVY := Lib.hid (show vy = y / 2 ^ t from by rw [hvy, HK.out])
            have HVX := Lib.hid (show vx = x / 2 ^ t from by rw [hvx, HK.out])
            have HK2 := Lib.hid (show 2 * kk = 2 ^ (t + 1) from by rw [HK.out, Nat.pow_succ]; omega)
            clear hvy hvx HK
            by_cases h1 : vy % 2 = 1
            · by_cases h2 : vx % 2 = 0
              · have HF := Lib.hid (under_bit x y t hxb hyb ht8 (by rw [← HVY.out]; exact h1) (by rw [← HVX.out]; exact h2))
                have e1 : ((vy : Int) % 2 == 1) = true := beq_iff_eq.2 (by omega)
                have e2 : ((vx : Int) % 2 == 0) = true := beq_iff_eq.2 (by omega)
                go_wp2
                go_ret
                exact ⟨q + nq, ret_bool (by rw [← HL.out, less_no l k j x y HX.out HY.out HF.out]), by simp [World.drewN]⟩
              · have e1 : ((vy : Int) % 2 == 1) = true := beq_iff_eq.2 (by omega)
                have e2 : ((vx : Int) % 2 == 0) = false := beq_eq_false_iff_ne.2 (by omega)
                have HF : Hid (¬ (y / 2 ^ t % 2 = 1 ∧ x / 2 ^ t % 2 = 0)) := fun h => h2 (by rw [HVX.out]; exact h.2)
                go_wp2
                go_round
                case rel => exact ⟨t + 1, by omega, 2 * kk, by omega, HK2, bits_next HN HF.out⟩
                case measure => simp [intOf]; omega
            · have e1 : ((vy : Int) % 2 == 1) = false := beq_eq_false_iff_ne.2 (by omega)
              have HF : Hid (¬ (y / 2 ^ t % 2 = 1 ∧ x / 2 ^ t % 2 = 0)) := fun h => h1 (by rw [HVY.out]; exact h.1)
              go_wp2
              go_round
              case rel => exact ⟨t + 1, by omega, 2 * kk, by omega, HK2, bits_next HN HF.out⟩
              case measure => simp [intOf]; omega
          · obtain rfl : t = 8 := by omega
            obtain rfl : kk = 256 := HK.out
            have hu := under_yes x y hxb hyb HN
            clear HK HN
            go_wp2
            go_roundw
            case rel => exact ⟨j + 1, q + nq, b2, by omega, by go_num, rfl, HB2, by simp [World.drewN], unders_next HU.out HX.out HY.out hu⟩
            case measure => simp [intOf]; omega
    · obtain rfl : j = n := by omega
      have hs := HS.out
      rw [List.take_of_length_le (by rw [Ha.out.1]; exact Nat.le_refl _), List.take_of_length_le (by rw [Hb.out.1]; exact Nat.le_refl _)] at hs
      have HS2 := Lib.hid hs
      clear hs
      go_wp2
      go_ret
      exact ⟨q, ret_bool (by rw [← HL.out, unders_all l k j Ha.out.1 Hb.out.1 HU.out, HS2.out]), rfl⟩

theorem rLess_any (A B : Option Addr) (n m c d : Nat) (l k : List Nat) (w : World) (ha : Bts w A n l) (hb : Bts w B m k) (hn : n ≤ maxLen) :
    Calls Try.prog 24 #[.slice A n c, .slice B m d] w (Quiet w (less l k)) := by
  by_cases hnm : n = m
  · subst hnm
    exact rLess_eq A B n c d l k w ha hb hn
  · rw [less_length l k (by rw [ha.1, hb.1]; exact hnm)]
    clear ha hb
    unfold maxLen at hn
    go_enter Try.func24, Try.ntmps24
    go_wp2
    go_ret
    exact ⟨0, rfl, rfl⟩
theorem rLess_k {w0 wc : World} (A B : Option Addr) (n m c d : Nat) (l k : List Nat) (K : Hid (New w0 wc)) (ha : Hid (Bts w0 A n l)) (hb : Hid (Bts w0 B m k)) (hn : n ≤ 140737488351232) (b : Bool) (h : less l k = b) :
    Calls Try.prog 24 #[.slice A n c, .slice B m d] wc fun e w' => e = .returned (.bool b) ∧ Hid (New w0 w') := by
  subst h
  refine (rLess_any A B n m c d l k wc (ha.out.new K.out) (hb.out.new K.out) (by unfold maxLen; omega)).mono ?_
  rintro e w' ⟨q, rfl, rfl⟩
  exact ⟨rfl, K.out.drewN q⟩
theorem rNoughts_v (A : Option Addr) (n c : Nat) (l : List Nat) (w : World) (ha : Bts w A n l) (hn : n ≤ 140737488355328) (no : Nat) (h : noughts l = no) :
    Calls Try.prog 20 #[.slice A n c] w fun e w' => e = .returned (.int .i64 no) ∧ w = w' := by subst h; exact rNoughts_any A n c l w ha hn
theorem rBlank_v (A : Option Addr) (n c : Nat) (l : List Nat) (w : World) (ha : Bts w A n l) (hn : n ≤ 140737488355328) (b : Bool) (h : blank l = b) :
    Calls Try.prog 22 #[.slice A n c] w fun e w' => e = .returned (.bool b) ∧ w = w' := by subst h; exact rBlank_any A n c l w ha hn
end Go.Proofs.Ytpcfffbkoddkpaa
