/-
  No pool (nil, or a zero one), and the scan of no chip: all is refused, or nothing.
-/
import Derived.Test.YtgfdiboaiifdnaaGr
import Derived.Test.YtgfdiboaiifdnaaNr
namespace Go.Proofs.Ytgfdiboaiifdnaa
open Go.RowKit

/-- Whatever was written anew, this is no pool. -/
def NonePool (w : World) (v : Value) : Prop := ∀ w', New w w' → Calls Try.prog 33 #[v] w' fun e w'' => e = .returned (.bool true) ∧ w' = w''

theorem NonePool.nil (w : World) : NonePool w (.pointer none) := fun w' _ => pNone_nil w'
theorem NonePool.zero (w : World) (g : Nat) (c0 : w.cell? ⟨g, 0, none⟩ = some (.pointer none)) : NonePool w (.pointer (some ⟨g, 0, none⟩)) := fun w' h => pNone_zero g w' (h.cell c0 fun f => f)
theorem NonePool.new {w w' : World} {v : Value} (h : NonePool w v) (hk : New w w') : NonePool w' v := fun w2 h2 => h w2 (hk.new h2)

theorem qTake (v : Value) (k e : Int) (w : World) (h : Hid (NonePool w v)) :
    Calls Try.prog 13 #[v, .int .u8 k, .int .u32 e] w fun e w' => e = .returned (.tuple #[.int .i64 0, .int .i64 1]) ∧ w = w' := by
  go_enter Try.func13, Try.ntmps13
  go_wp2_with fail
  refine (h.out _ (Kept.refl _ _)).mono ?_
  rintro e w' ⟨rfl, rfl⟩
  go_wp2
  go_ret2
  exact ⟨rfl, rfl⟩

theorem qFree (v : Value) (b : Int) (w : World) (h : Hid (NonePool w v)) :
    Calls Try.prog 17 #[v, .int .i64 b] w fun e w' => e = .returned (.int .i64 1) ∧ w = w' := by
  go_enter Try.func17, Try.ntmps17
  go_wp2_with fail
  refine (h.out _ (Kept.refl _ _)).mono ?_
  rintro e w' ⟨rfl, rfl⟩
  go_wp2
  go_ret
  exact ⟨rfl, rfl⟩

theorem qTaken (v : Value) (w : World) (h : Hid (NonePool w v)) :
    Calls Try.prog 12 #[v] w fun e w' => e = .returned (.slice none 0 0) ∧ w = w' := by
  go_enter Try.func12, Try.ntmps12
  go_wp2_with fail
  refine (h.out _ (Kept.refl _ _)).mono ?_
  rintro e w' ⟨rfl, rfl⟩
  go_wp2
  go_ret
  exact ⟨rfl, rfl⟩

theorem qBlanks (v : Value) (w : World) (h : Hid (NonePool w v)) :
    Calls Try.prog 14 #[v] w fun e w' => e = .returned (.int .i64 0) ∧ w = w' := by
  go_enter Try.func14, Try.ntmps14
  go_wp2_with fail
  refine (h.out _ (Kept.refl _ _)).mono ?_
  rintro e w' ⟨rfl, rfl⟩
  go_wp2
  go_ret
  exact ⟨rfl, rfl⟩

theorem qLast (v : Value) (w : World) (h : Hid (NonePool w v)) :
    Calls Try.prog 15 #[v] w fun e w' => e = .returned (.int .u64 0) ∧ w = w' := by
  go_enter Try.func15, Try.ntmps15
  go_wp2_with fail
  refine (h.out _ (Kept.refl _ _)).mono ?_
  rintro e w' ⟨rfl, rfl⟩
  go_wp2
  go_ret
  exact ⟨rfl, rfl⟩

theorem qChip (v : Value) (w : World) (h : Hid (NonePool w v)) :
    Calls Try.prog 19 #[v] w fun e w' => e = .returned (.pointer none) ∧ w = w' := by
  go_enter Try.func19, Try.ntmps19
  go_wp2_with fail
  refine (h.out _ (Kept.refl _ _)).mono ?_
  rintro e w' ⟨rfl, rfl⟩
  go_wp2
  go_ret
  exact ⟨rfl, rfl⟩

theorem zScan (v : Value) (w : World) (h : Hid (NoneAt w v)) :
    Calls Try.prog 11 #[v] w fun e w' => e = .returned (.tuple #[.pointer none, .int .i64 1]) ∧ w = w' := by
  go_enter Try.func11, Try.ntmps11
  go_wp2_with fail
  refine (zRead v 0 0 _ h).mono ?_
  rintro e w' ⟨rfl, rfl⟩
  go_wp2
  go_ret2
  exact ⟨rfl, rfl⟩

/-- All that the statement asks of what is none. -/
theorem none_all (v : Value) (b k e : Int) (w : World) (h : Hid (NonePool w v)) : Hid (∀ w', New w w' →
    Calls Try.prog 13 #[v, .int .u8 k, .int .u32 e] w' (fun e w2 => e = .returned (.tuple #[.int .i64 0, .int .i64 1]) ∧ w' = w2) ∧
    Calls Try.prog 17 #[v, .int .i64 b] w' (fun e w2 => e = .returned (.int .i64 1) ∧ w' = w2) ∧
    Calls Try.prog 12 #[v] w' (fun e w2 => e = .returned (.slice none 0 0) ∧ w' = w2) ∧
    Calls Try.prog 14 #[v] w' (fun e w2 => e = .returned (.int .i64 0) ∧ w' = w2) ∧
    Calls Try.prog 15 #[v] w' (fun e w2 => e = .returned (.int .u64 0) ∧ w' = w2) ∧
    Calls Try.prog 19 #[v] w' (fun e w2 => e = .returned (.pointer none) ∧ w' = w2)) := fun w' hk =>
  have h' := Lib.hid (h.out.new hk)
  ⟨qTake v k e w' h', qFree v b w' h', qTaken v w' h', qBlanks v w' h', qLast v w' h', qChip v w' h'⟩
end Go.Proofs.Ytgfdiboaiifdnaa
