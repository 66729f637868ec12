/-
  SortStableFunc of a short list of taken blocks.
-/
import Derived.Test.YtgfdiboaiifdnaaGreatGm
namespace Go.Proofs.YtgfdiboaiifdnaaGreat
open Go.ChangeShapes Go.WideShapes Go.ChangeAt Go.RowKit

set_option maxRecDepth 100000 in
set_option maxHeartbeats 1600000 in
theorem stable_any (gt n c : Nat) (l : List TK) (junk : List Value) (w : World) (hb : Blk w gt 36 (tRow l junk)) (hl : l.length = n) (hn : n ≤ 19) (hc : n ≤ c) :
    Calls Tryz.prog 49 #[.slice (some ⟨gt, 0, none⟩) n c, .int .i64 (n : Nat), .func (.func 22) #[] #[]] w (SortP w gt (insG l (n - 1)) junk) := by
  have HB := Lib.hid hb
  have HL := Lib.hid hl
  have HN : Hid (n ≤ 64 ∧ n ≤ c) := ⟨by omega, hc⟩
  have j1 : decide ((20 : Int) ≤ (n : Int)) = false := decide_eq_false (by omega)
  have j2 : decide ((20 : Int) < (n : Int)) = false := decide_eq_false (by omega)
  clear hb hl
  go_enter Tryz.func49, Tryz.ntmps49
  go_wp2_with fail
  refine wp_loop_rounds 1 ?_
  rw [rounds_succ]
  go_wp2_with fail
  refine (insSort_any gt n c l junk _ HB.out HL.out HN.out.1 HN.out.2).mono ?_
  rintro r w2 ⟨rfl, h1, h2⟩
  have R : Hid (SortP w gt (insG l (n - 1)) junk (.returned (.tuple #[])) w2) := ⟨rfl, h1, h2⟩
  clear h1 h2
  go_wp2_with fail
  refine wp_loop_rounds 1 ?_
  rw [rounds_succ]
  go_wp2
  go_end0
  exact R.out

set_option maxRecDepth 100000 in
set_option maxHeartbeats 1600000 in
theorem sortStable_any (gt n c : Nat) (l : List TK) (junk : List Value) (w : World) (hb : Blk w gt 36 (tRow l junk)) (hl : l.length = n) (hn : n ≤ 19) (hc : n ≤ c) :
    Calls Tryz.prog 21 #[.slice (some ⟨gt, 0, none⟩) n c, .func (.func 22) #[] #[]] w (SortP w gt (insG l (n - 1)) junk) := by
  have HB := Lib.hid hb
  have HL := Lib.hid hl
  have HN : Hid (n ≤ 19 ∧ n ≤ c) := ⟨hn, hc⟩
  clear hb hl
  go_enter Tryz.func21, Tryz.ntmps21
  go_wp2_with fail
  refine (stable_any gt n c l junk _ HB.out HL.out HN.out.1 HN.out.2).mono ?_
  rintro r w2 ⟨rfl, h1, h2⟩
  have R : Hid (SortP w gt (insG l (n - 1)) junk (.returned (.tuple #[])) w2) := ⟨rfl, h1, h2⟩
  clear h1 h2
  go_wp2
  go_end0
  exact R.out

set_option maxRecDepth 100000 in
set_option maxHeartbeats 1600000 in
/-- Of no list nothing is sorted. -/
theorem sortStable_nil (w : World) :
    Calls Tryz.prog 21 #[.slice none 0 0, .func (.func 22) #[] #[]] w fun e w' => e = .returned (.tuple #[]) ∧ w = w' := by
  go_enter Tryz.func21, Tryz.ntmps21
  go_wp2_with (first | go_in)
  refine wp_loop_rounds 1 ?_
  rw [rounds_succ]
  go_wp2_with (first | go_in)
  refine wp_loop_rounds 1 ?_
  rw [rounds_succ]
  go_wp2_with (first | go_in)
  refine wp_loop_rounds 1 ?_
  rw [rounds_succ]
  go_wp2
  go_end0
  exact ⟨rfl, rfl⟩
end Go.Proofs.YtgfdiboaiifdnaaGreat
