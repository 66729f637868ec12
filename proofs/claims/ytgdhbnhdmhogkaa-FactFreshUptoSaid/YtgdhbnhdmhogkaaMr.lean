/-
  The library's rotation of changes.
-/
import Derived.Test.YtgdhbnhdmhogkaaMq
namespace Go.Proofs.Ytgdhbnhdmhogkaa
open Go.ChangeShapes Go.WideShapes Go.ChangeAt Go.RowKit

set_option maxRecDepth 100000 in
set_option maxHeartbeats 6400000 in
theorem rot_any (g n c a m b : Nat) (P U V S : List CE) (sp : List Value) (f : Value) (w : World) (hb : Blk w g 45 (ces (P ++ (U ++ (V ++ S))) ++ sp)) (ha : P.length = a) (hU : a + U.length = m) (hV : m + V.length = b) (h1 : a < m) (h2 : m < b) (hbn : b ≤ n) (hn : n ≤ 140737488351232) :
    Calls Try.prog 56 #[.slice (some ⟨g, 0, none⟩) n c, .int .i64 (a : Nat), .int .i64 (m : Nat), .int .i64 (b : Nat), f] w (RwcP w g sp (P ++ (V ++ (U ++ S)))) := by
  have HB := Lib.hid hb
  have HP := Lib.hid ha
  have HU := Lib.hid hU
  have HV := Lib.hid hV
  clear hb ha hU hV
  go_enter Try.func56, Try.ntmps56
  go_wp2_with fail
  go_loopw [10, 11] (fun ti tj wr => ∃ (i j : Nat) (A' U' V' B' : List CE), 0 < i ∧ 0 < j ∧ i ≤ m ∧ m + j ≤ n ∧ ti = .int .i64 i ∧ tj = .int .i64 j ∧ Hid (U'.length = i ∧ V'.length = j ∧ A'.length + i = m) ∧ Hid (A' ++ (V' ++ (U' ++ B')) = P ++ (V ++ (U ++ S))) ∧ Hid (Blk wr g 45 (ces (A' ++ (U' ++ (V' ++ B'))) ++ sp)) ∧ Hid (Kept (· = g) w wr)) (fun ti tj _ => (intOf ti).toNat + (intOf tj).toNat)
  case atStart =>
    have := HU.out
    have := HV.out
    have := HP.out
    exact ⟨m - a, b - m, P, U, V, S, by omega, by omega, by omega, by omega, by congr 1; omega, by congr 1; omega, ⟨by omega, by omega, by omega⟩, rfl, HB, Kept.refl _ _⟩
  case round =>
    obtain ⟨i, j, A', U', V', B', hi, hj, him, hjn, rfl, rfl, VL, VE, VB, VK⟩ := hrel
    have i1 : IntKind.i64.wrap ((m : Int) - (i : Int)) = ((m - i : Nat) : Int) := by rw [IntKind.wrap_i64]; omega
    have hmi : ∃ s : Nat, s + i = m := ⟨m - i, by omega⟩
    obtain ⟨s, hs⟩ := hmi
    have i2 : (m : Int) - (i : Int) = (s : Int) := by omega
    have HS := Lib.hid hs
    clear i1
    rcases Nat.lt_trichotomy i j with hij | hij | hij
    · obtain ⟨d, hd⟩ : ∃ d : Nat, d + i = j := ⟨j - i, by omega⟩
      obtain ⟨t, ht⟩ : ∃ t : Nat, t = s + i + d := ⟨_, rfl⟩
      have hd0 : 0 < d := by omega
      have q1 : ¬ i = j := by omega
      have q2 : ¬ j < i := by omega
      have e1 : V'.take d ++ V'.drop d = V' := List.take_append_drop _ _
      have l1 : (V'.take d).length = d := by rw [List.length_take, VL.out.2.1]; omega
      have l2 : (V'.drop d).length = i := by rw [List.length_drop, VL.out.2.1]; omega
      have SW := Lib.hid (swapR_any g n c s t i A' U' (V'.take d) (V'.drop d) B' sp f wr (by have := VB.out; rw [← e1] at this; simpa only [List.append_assoc, Hid] using this) (by have := VL.out.2.2; omega) VL.out.1 l2 (by rw [l1, ht]) (by omega) hn)
      have E1 : Hid (A' ++ (V'.take d ++ (V'.drop d ++ (U' ++ B'))) = P ++ (V ++ (U ++ S))) := by
        have := VE.out
        rw [← e1] at this
        simpa only [List.append_assoc, Hid] using this
      have LL : Hid ((V'.drop d).length = i ∧ (V'.take d).length = d ∧ A'.length + i = m) := ⟨l2, l1, VL.out.2.2⟩
      have q3 : (m : Int) + (j : Int) - (i : Int) = (t : Int) := by omega
      have q4 : (j : Int) - (i : Int) = (d : Int) := by omega
      have hdn : m + d ≤ n := by omega
      have hdj : i + d < i + j := by omega
      have HDJ := Lib.hid hdj
      clear e1 l1 l2 hd hs VB VE VL ht hdj
      go_wp2_with fail
      refine SW.out.mono ?_
      rintro e w2 ⟨rfl, hb2, hk2⟩
      have HB2 := Lib.hid hb2
      have HK2 : Hid (Kept (· = g) w w2) := VK.out.trans hk2 fun _ _ h => h
      clear hb2 hk2 SW VK
      go_wp2
      go_roundw
      case rel => exact ⟨i, d, A', V'.drop d, V'.take d, U' ++ B', hi, hd0, him, hdn, by go_num, by first | rfl | (rw [q4]) | go_num, LL, E1, HB2, HK2⟩
      case measure => have := HDJ.out; simp [intOf]; omega
    · subst hij
      have SW := Lib.hid (swapR_any g n c s m i A' U' [] V' B' sp f wr VB.out (by have := VL.out.2.2; omega) VL.out.1 VL.out.2.1 (by rw [List.length_nil]; omega) (by omega) hn)
      have HE : Hid (∀ w2, RwcP wr g sp (A' ++ (V' ++ ([] ++ (U' ++ B')))) (.returned (.tuple #[])) w2 → RwcP w g sp (P ++ (V ++ (U ++ S))) (.returned (.tuple #[])) w2) := fun w2 h => by
        obtain ⟨_, h1, h2⟩ := h
        rw [List.nil_append, VE.out] at h1
        exact ⟨rfl, h1, VK.out.trans h2 fun _ _ h => h⟩
      clear hs VB VE VL VK
      go_wp2_with fail
      refine SW.out.mono ?_
      rintro e w2 ⟨rfl, hb2, hk2⟩
      have E9 := Lib.hid (HE.out w2 ⟨rfl, hb2, hk2⟩)
      clear hb2 hk2 SW HE
      go_wp2
      go_end0
      exact E9.out
    · obtain ⟨d, hd⟩ : ∃ d : Nat, d + j = i := ⟨i - j, by omega⟩
      have hd0 : 0 < d := by omega
      have q1 : ¬ i = j := by omega
      have q2 : j < i := hij
      have e1 : U'.take j ++ U'.drop j = U' := List.take_append_drop _ _
      have l1 : (U'.take j).length = j := by rw [List.length_take, VL.out.1]; omega
      have l2 : (U'.drop j).length = d := by rw [List.length_drop, VL.out.1]; omega
      have SW := Lib.hid (swapR_any g n c s m j A' (U'.take j) (U'.drop j) V' B' sp f wr (by have := VB.out; rw [← e1] at this; simpa only [List.append_assoc, Hid] using this) (by have := VL.out.2.2; omega) l1 VL.out.2.1 (by rw [l2]; omega) (by omega) hn)
      have E1 : Hid ((A' ++ V') ++ (U'.take j ++ (U'.drop j ++ B')) = P ++ (V ++ (U ++ S))) := by
        have := VE.out
        rw [← e1] at this
        simpa only [List.append_assoc, Hid] using this
      have LL : Hid ((U'.drop j).length = d ∧ (U'.take j).length = j ∧ (A' ++ V').length + d = m) := ⟨l2, l1, by rw [List.length_append, VL.out.2.1]; have := VL.out.2.2; omega⟩
      have q4 : (i : Int) - (j : Int) = (d : Int) := by omega
      have hdm : d ≤ m := by omega
      have HDJ : Hid (d + j < i + j) := by show _ < _; omega
      clear e1 l1 l2 hd hs VB VE VL
      go_wp2_with fail
      refine SW.out.mono ?_
      rintro e w2 ⟨rfl, hb2, hk2⟩
      have HB2 : Hid (Blk w2 g 45 (ces ((A' ++ V') ++ (U'.drop j ++ (U'.take j ++ B'))) ++ sp)) := by rw [Hid, List.append_assoc A']; exact hb2
      have HK2 : Hid (Kept (· = g) w w2) := VK.out.trans hk2 fun _ _ h => h
      clear hb2 hk2 SW VK
      go_wp2
      go_roundw
      case rel => exact ⟨d, j, A' ++ V', U'.drop j, U'.take j, B', hd0, hj, hdm, hjn, by first | rfl | (rw [q4]) | go_num, rfl, LL, E1, HB2, HK2⟩
      case measure => have := HDJ.out; simp [intOf]; omega
end Go.Proofs.Ytgdhbnhdmhogkaa
