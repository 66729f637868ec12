/-
  Contracts: values of nodes and of entries, on both sides; what values say, on both sides.
-/
import Derived.Test.YtgjipcoobadipaaFl
import Derived.BigRegion
namespace Go.Proofs.Ytgjipcoobadipaa
open Go.RowKit

/-- What a node may be. -/
def nodOk (k : Nat) (l z : Int) : Bool := decide ((k = 1 ∨ k = 2) ∧ 0 ≤ l ∧ l ≤ 255 ∧ 0 ≤ z ∧ z ≤ 65535)
def nvL (k : Nat) (l z : Int) : List Nat := if nodOk k l z = true then [k, l.toNat, z.toNat % 256, z.toNat / 256] else []
def nvE (k : Nat) (l z : Int) : Int := if nodOk k l z = true then 0 else 2
def evL (i : Int) : List Nat := if 1 ≤ i ∧ i ≤ 65535 then [i.toNat % 256, i.toNat / 256] else []
def evE (i : Int) : Int := if 1 ≤ i ∧ i ≤ 65535 then 0 else 2

theorem uN_nat (x : Nat) (h : x < 18446744073709551616) : uN (x : Int) = x := by unfold uN; rw [IntKind.wrap_u64]; omega
theorem uN_neg {x : Int} (h : x < 0) (h2 : -9223372036854775808 ≤ x) : 9223372036854775808 ≤ uN x := by unfold uN; rw [IntKind.wrap_u64]; omega
theorem uN_pos {x : Int} (h : 0 ≤ x) (h2 : x ≤ 9223372036854775807) : uN x = x.toNat := by unfold uN; rw [IntKind.wrap_u64]; omega

theorem fit_iff {x : Int} (h1 : -9223372036854775808 ≤ x) (h2 : x ≤ 9223372036854775807) {s : Nat} (hs : s ≤ 2) : fOk (x, s) = decide (0 ≤ x ∧ x < 256 ^ s) := by
  have hp : (256 : Nat) ^ s ≤ 65536 := by
    have : s = 0 ∨ s = 1 ∨ s = 2 := by omega
    rcases this with rfl | rfl | rfl <;> decide
  unfold fOk fitB
  rw [decide_eq_decide]
  show uN x < 256 ^ s ↔ _
  have hc : ((256 : Int) ^ s) = ((256 ^ s : Nat) : Int) := by rw [Int.natCast_pow]; rfl
  rw [hc]
  generalize 256 ^ s = p at *
  by_cases h : 0 ≤ x
  · rw [uN_pos h h2]; omega
  · have := uN_neg (by omega : x < 0) h1
    omega

theorem lay_node {k : Nat} {l z : Int} (hk : k = 1 ∨ k = 2) (l1 : -9223372036854775808 ≤ l ∧ l ≤ 9223372036854775807) (z1 : -9223372036854775808 ≤ z ∧ z ≤ 9223372036854775807) :
    layL [((k : Nat), 1), (l, 1), (z, 2)] = nvL k l z ∧ layE [((k : Nat), 1), (l, 1), (z, 2)] = nvE k l z := by
  have f1 : fOk (((k : Nat) : Int), 1) = true := by rw [fit_iff (by omega) (by omega) (by omega)]; simp; omega
  have f2 := fit_iff l1.1 l1.2 (s := 1) (by omega)
  have f3 := fit_iff z1.1 z1.2 (s := 2) (by omega)
  by_cases h : 0 ≤ l ∧ l ≤ 255 ∧ 0 ≤ z ∧ z ≤ 65535
  · have hn : nodOk k l z = true := decide_eq_true ⟨hk, h⟩
    have e2 : fOk (l, 1) = true := by rw [f2, decide_eq_true_eq]; omega
    have e3 : fOk (z, 2) = true := by rw [f3, decide_eq_true_eq]; omega
    have u1 : uN ((k : Nat) : Int) = k := uN_nat k (by omega)
    have u2 : uN l = l.toNat := uN_pos h.1 l1.2
    have u3 : uN z = z.toNat := uN_pos h.2.2.1 z1.2
    unfold layL layE nvL nvE
    rw [if_pos hn, if_pos hn]
    have hall : [(((k : Nat) : Int), 1), (l, 1), (z, 2)].all fOk = true := by simp only [List.all_cons, List.all_nil, f1, e2, e3]; rfl
    rw [if_pos hall, if_pos hall]
    refine ⟨?_, rfl⟩
    simp only [layB, List.flatMap_cons, List.flatMap_nil, u1, u2, u3, leB, List.range_succ, List.range_zero]
    simp
    omega
  · have hn : ¬ nodOk k l z = true := by unfold nodOk; rw [decide_eq_true_eq]; exact fun hh => h hh.2
    have hall : ¬ [(((k : Nat) : Int), 1), (l, 1), (z, 2)].all fOk = true := by
      simp only [List.all_cons, List.all_nil, f1, f2, f3, Bool.true_and, Bool.and_true, Bool.and_eq_true, decide_eq_true_eq]
      omega
    unfold layL layE nvL nvE
    rw [if_neg hn, if_neg hn, if_neg hall, if_neg hall]
    exact ⟨rfl, rfl⟩
theorem lay_entry {i : Int} (h : 1 ≤ i ∧ i ≤ 65535) : layL [(i, 2)] = evL i ∧ layE [(i, 2)] = evE i := by
  have f := fit_iff (x := i) (by omega) (by omega) (s := 2) (by omega)
  have e : fOk (i, 2) = true := by rw [f, decide_eq_true_eq]; omega
  have u : uN i = i.toNat := uN_pos (by omega) (by omega)
  have hall : [(i, 2)].all fOk = true := by simp only [List.all_cons, List.all_nil, e]; rfl
  unfold layL layE evL evE
  rw [if_pos hall, if_pos hall, if_pos h, if_pos h]
  refine ⟨?_, rfl⟩
  simp only [layB, List.flatMap_cons, List.flatMap_nil, u, leB, List.range_succ, List.range_zero]
  simp
  omega

set_option maxRecDepth 100000 in
set_option maxHeartbeats 1600000 in
theorem nodeValue_any (k : Nat) (l z : Int) (w : World) (hk8 : k < 256) (l1 : -9223372036854775808 ≤ l ∧ l ≤ 9223372036854775807) (z1 : -9223372036854775808 ≤ z ∧ z ≤ 9223372036854775807) :
    Calls Try.prog 26 #[.agg #[.int .u8 (k : Nat), .int .i64 l, .int .i64 z]] w (RetB w (nvL k l z) (nvE k l z)) := by
  by_cases hk : k = 1 ∨ k = 2
  · obtain ⟨e1, e2⟩ := lay_node hk l1 z1
    have HL := Lib.hid e1
    have HE := Lib.hid e2
    have HK : Hid (decide (k = 1 ∨ k = 2) = true) := decide_eq_true hk
    clear hk e1 e2 l1 z1
    go_enter Try.func26, Try.ntmps26
    go_wp2_with fail
    refine (isKind_any k _).mono ?_
    rw [HK.out]
    rintro e w1 ⟨rfl, rfl⟩
    go_wp2_with fail
    refine (lay_any (w.heap.size + 1) 3 [((k : Nat), 1), (l, 1), (z, 2)] _ (by
      have := Blk.made (w.alloc (.cells #[.int .u8 (k : Nat), .int .i64 l, .int .i64 z] 44)) 75 #[.int .i64 (k : Nat), .int .i64 1, .int .i64 l, .int .i64 1, .int .i64 z, .int .i64 2]
      rw [World.size_alloc] at this
      exact this) rfl (by omega) (by intro f hf; simp only [List.mem_cons, List.not_mem_nil, or_false] at hf; rcases hf with rfl | rfl | rfl <;> simp [isSz])).mono ?_
    rw [HL.out, HE.out]
    rintro e w2 ⟨A2, c2, rfl, o2, k2⟩
    have R : Hid (RetB w (nvL k l z) (nvE k l z) (.returned (.tuple #[.slice A2 (nvL k l z).length c2, .int .i64 (nvE k l z)])) w2) :=
      ⟨A2, c2, rfl, o2.mono (by simp; omega), (((Kept.refl _ _).alloc _).alloc _).new k2⟩
    clear o2 k2 HL HE
    go_wp2
    go_ret2
    exact R.out
  · have HR : Hid (nvL k l z = [] ∧ nvE k l z = 2) := by
      have hn : ¬ nodOk k l z = true := by unfold nodOk; rw [decide_eq_true_eq]; exact fun hh => hk hh.1
      unfold nvL nvE
      rw [Hid, if_neg hn, if_neg hn]
      exact ⟨rfl, rfl⟩
    have HK : Hid (decide (k = 1 ∨ k = 2) = false) := decide_eq_false hk
    rw [HR.out.1, HR.out.2]
    clear hk l1 z1
    go_enter Try.func26, Try.ntmps26
    go_wp2_with fail
    refine (isKind_any k _).mono ?_
    rw [HK.out]
    rintro e w1 ⟨rfl, rfl⟩
    go_wp2
    go_ret2
    exact RetB.nil _ _ _ ((Kept.refl _ _).alloc _)

set_option maxRecDepth 100000 in
set_option maxHeartbeats 1600000 in
theorem entryValue_any (i : Int) (w : World) :
    Calls Try.prog 28 #[.int .i64 i] w (RetB w (evL i) (evE i)) := by
  by_cases hk : 1 ≤ i ∧ i ≤ 65535
  · obtain ⟨e1, e2⟩ := lay_entry hk
    have HL := Lib.hid e1
    have HE := Lib.hid e2
    have HK : Hid (decide (1 ≤ i ∧ i ≤ 65535) = true) := decide_eq_true hk
    clear hk e1 e2
    go_enter Try.func28, Try.ntmps28
    go_wp2_with fail
    refine (isIno_any i _).mono ?_
    rw [HK.out]
    rintro e w1 ⟨rfl, rfl⟩
    go_wp2_with fail
    refine (lay_any w.heap.size 1 [(i, 2)] _ (Blk.made w 75 #[.int .i64 i, .int .i64 2]) rfl (by omega) (by intro f hf; simp only [List.mem_cons, List.not_mem_nil, or_false] at hf; subst hf; simp [isSz])).mono ?_
    rw [HL.out, HE.out]
    rintro e w2 ⟨A2, c2, rfl, o2, k2⟩
    have R : Hid (RetB w (evL i) (evE i) (.returned (.tuple #[.slice A2 (evL i).length c2, .int .i64 (evE i)])) w2) :=
      ⟨A2, c2, rfl, o2.mono (by simp), ((Kept.refl _ _).alloc _).new k2⟩
    clear o2 k2 HL HE
    go_wp2
    go_ret2
    exact R.out
  · have HR : Hid (evL i = [] ∧ evE i = 2) := by
      unfold evL evE
      rw [Hid, if_neg hk, if_neg hk]
      exact ⟨rfl, rfl⟩
    have HK : Hid (decide (1 ≤ i ∧ i ≤ 65535) = false) := decide_eq_false hk
    rw [HR.out.1, HR.out.2]
    clear hk
    go_enter Try.func28, Try.ntmps28
    go_wp2_with fail
    refine (isIno_any i _).mono ?_
    rw [HK.out]
    rintro e w1 ⟨rfl, rfl⟩
    go_wp2
    go_ret2
    exact RetB.nil _ _ _ (Kept.refl _ _)

set_option maxRecDepth 100000 in
set_option maxHeartbeats 1600000 in
theorem rentryValue_any (i : Int) (w : World) :
    Calls Try.prog 29 #[.int .i64 i] w (RetB w (evL i) (evE i)) := by
  by_cases h1 : 1 ≤ i
  · have e1 : decide (i < 1) = false := decide_eq_false (by omega)
    by_cases h2 : i ≤ 65535
    · have e2 : decide (65535 < i) = false := decide_eq_false (by omega)
      obtain ⟨m, rfl⟩ : ∃ m : Nat, i = m := ⟨i.toNat, by omega⟩
      have R : Hid (RetB w (evL m) (evE m) (.returned (.tuple #[.slice (some ⟨w.heap.size, 0, none⟩) 2 2, .int .i64 0])) (w.alloc (.cells #[.int .u8 ((m : Int) % 256), .int .u8 ((m : Int) / 256)] 5))) := by
        have hL : evL m = [m % 256, m / 256] := by unfold evL; rw [if_pos ⟨h1, h2⟩, Int.toNat_natCast]
        have hE : evE m = 0 := by unfold evE; rw [if_pos ⟨h1, h2⟩]
        rw [hL, hE]
        refine ⟨_, 2, rfl, OwnB.of_blk (sp := []) ?_ (Nat.le_refl _) (by intro x hx; simp only [List.append_nil, List.mem_cons, List.not_mem_nil, or_false] at hx; omega) rfl (by unfold maxLen; omega), (Kept.refl _ _).alloc _⟩
        exact Blk.made w 5 #[.int .u8 ((m : Int) % 256), .int .u8 ((m : Int) / 256)]
      have q1 : (0 : Int) ≤ (m : Int) / 256 := by omega
      have q2 : (m : Int) / 256 ≤ 255 := by omega
      go_enter Try.func29, Try.ntmps29
      go_wp2
      go_ret2
      exact R.out
    · have e2 : decide (65535 < i) = true := decide_eq_true (by omega)
      have HR : Hid (evL i = [] ∧ evE i = 2) := by
        unfold evL evE
        rw [Hid, if_neg (fun h => h2 h.2), if_neg (fun h => h2 h.2)]
        exact ⟨rfl, rfl⟩
      rw [HR.out.1, HR.out.2]
      go_enter Try.func29, Try.ntmps29
      go_wp2
      go_ret2
      exact RetB.nil _ _ _ (Kept.refl _ _)
  · have e1 : decide (i < 1) = true := decide_eq_true (by omega)
    have HR : Hid (evL i = [] ∧ evE i = 2) := by
      unfold evL evE
      rw [Hid, if_neg (fun h => h1 h.1), if_neg (fun h => h1 h.1)]
      exact ⟨rfl, rfl⟩
    rw [HR.out.1, HR.out.2]
    go_enter Try.func29, Try.ntmps29
    go_wp2
    go_ret2
    exact RetB.nil _ _ _ (Kept.refl _ _)

set_option maxRecDepth 100000 in
set_option maxHeartbeats 3200000 in
theorem rnodeValue_any (k : Nat) (l z : Int) (w : World) (hk8 : k < 256) :
    Calls Try.prog 27 #[.agg #[.int .u8 (k : Nat), .int .i64 l, .int .i64 z]] w (RetB w (nvL k l z) (nvE k l z)) := by
  by_cases hok : (k = 1 ∨ k = 2) ∧ 0 ≤ l ∧ l ≤ 255 ∧ 0 ≤ z ∧ z ≤ 65535
  · obtain ⟨hk, hl0, hl1, hz0, hz1⟩ := hok
    have hn : nodOk k l z = true := decide_eq_true ⟨hk, hl0, hl1, hz0, hz1⟩
    obtain ⟨a, rfl⟩ : ∃ a : Nat, l = a := ⟨l.toNat, by omega⟩
    obtain ⟨m, rfl⟩ : ∃ m : Nat, z = m := ⟨z.toNat, by omega⟩
    have R : Hid (∀ u, New w u → RetB w (nvL k a m) (nvE k a m) (.returned (.tuple #[.slice (some ⟨u.heap.size, 0, none⟩) 4 4, .int .i64 0])) (u.alloc (.cells #[.int .u8 (k : Nat), .int .u8 (a : Nat), .int .u8 ((m : Int) % 256), .int .u8 ((m : Int) / 256)] 5))) := by
      intro u hu
      have hL : nvL k a m = [k, a, m % 256, m / 256] := by unfold nvL; rw [if_pos hn, Int.toNat_natCast, Int.toNat_natCast]
      have hE : nvE k a m = 0 := by unfold nvE; rw [if_pos hn]
      rw [hL, hE]
      refine ⟨_, 4, rfl, OwnB.of_blk (sp := []) ?_ hu.size (by intro x hx; simp only [List.append_nil, List.mem_cons, List.not_mem_nil, or_false] at hx; omega) rfl (by unfold maxLen; omega), hu.alloc _⟩
      exact Blk.made u 5 #[.int .u8 (k : Nat), .int .u8 (a : Nat), .int .u8 ((m : Int) % 256), .int .u8 ((m : Int) / 256)]
    have RX := Lib.hid (R.out (w.alloc (.cells #[.int .u8 (k : Nat), .int .i64 (a : Nat), .int .i64 (m : Nat)] 44)) ((Kept.refl _ _).alloc _))
    have q1 : (0 : Int) ≤ (m : Int) / 256 := by omega
    have q2 : (m : Int) / 256 ≤ 255 := by omega
    have e1 : decide ((a : Int) < 0) = false := decide_eq_false (by omega)
    have e2 : decide ((255 : Int) < (a : Int)) = false := decide_eq_false (by omega)
    have e3 : decide ((m : Int) < 0) = false := decide_eq_false (by omega)
    have e4 : decide ((65535 : Int) < (m : Int)) = false := decide_eq_false (by omega)
    clear R hn
    rcases hk with rfl | rfl
    · go_enter Try.func27, Try.ntmps27
      go_wp2
      go_ret2
      have := RX.out
      simpa using this
    · go_enter Try.func27, Try.ntmps27
      go_wp2
      go_ret2
      have := RX.out
      simpa using this
  · have HR : Hid (nvL k l z = [] ∧ nvE k l z = 2) := by
      have hn : ¬ nodOk k l z = true := by unfold nodOk; rw [decide_eq_true_eq]; exact hok
      unfold nvL nvE
      rw [Hid, if_neg hn, if_neg hn]
      exact ⟨rfl, rfl⟩
    rw [HR.out.1, HR.out.2]
    clear HR
    by_cases k1 : k = 1 ∨ k = 2
    · have hx : l < 0 ∨ 0 ≤ l ∧ (255 < l ∨ l ≤ 255 ∧ (z < 0 ∨ 0 ≤ z ∧ 65535 < z)) := by omega
      have hkk : ((k : Int) != 1) = false ∨ ((k : Int) != 1) = true ∧ ((k : Int) != 2) = false := by
        rcases k1 with rfl | rfl
        · exact .inl rfl
        · exact .inr ⟨rfl, rfl⟩
      clear hok k1
      rcases hkk with d1 | ⟨d1, d2⟩
      all_goals rcases hx with h | ⟨h0, h | ⟨h1, h | ⟨h2, h⟩⟩⟩
      all_goals first
        | have e1 : decide (l < 0) = true := decide_eq_true h
          go_enter Try.func27, Try.ntmps27
          go_wp2
          go_ret2
          exact RetB.nil _ _ _ ((Kept.refl _ _).alloc _)
        | have e1 : decide (l < 0) = false := decide_eq_false (by omega)
          have e2 : decide (255 < l) = true := decide_eq_true h
          go_enter Try.func27, Try.ntmps27
          go_wp2
          go_ret2
          exact RetB.nil _ _ _ ((Kept.refl _ _).alloc _)
        | have e1 : decide (l < 0) = false := decide_eq_false (by omega)
          have e2 : decide (255 < l) = false := decide_eq_false (by omega)
          have e3 : decide (z < 0) = true := decide_eq_true h
          go_enter Try.func27, Try.ntmps27
          go_wp2
          go_ret2
          exact RetB.nil _ _ _ ((Kept.refl _ _).alloc _)
        | have e1 : decide (l < 0) = false := decide_eq_false (by omega)
          have e2 : decide (255 < l) = false := decide_eq_false (by omega)
          have e3 : decide (z < 0) = false := decide_eq_false (by omega)
          have e4 : decide (65535 < z) = true := decide_eq_true h
          go_enter Try.func27, Try.ntmps27
          go_wp2
          go_ret2
          exact RetB.nil _ _ _ ((Kept.refl _ _).alloc _)
    · have d1 : ((k : Int) != 1) = true := bne_iff_ne.2 (by omega)
      have d2 : ((k : Int) != 2) = true := bne_iff_ne.2 (by omega)
      clear hok k1
      go_enter Try.func27, Try.ntmps27
      go_wp2
      go_ret2
      exact RetB.nil _ _ _ ((Kept.refl _ _).alloc _)
end Go.Proofs.Ytgjipcoobadipaa
