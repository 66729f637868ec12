/-
  Contracts of no chip: nil, or a zero one.
-/
import Derived.Test.YtgfdiboaiifdnaaGreatNq
namespace Go.Proofs.YtgfdiboaiifdnaaGreat
open Go.ChangeShapes Go.WideShapes Go.ChangeAt Go.RowKit

/-- No chip is behind v. -/
def NoneAt (w : World) (v : Value) : Prop := ∀ w', New w w' → Calls Tryz.prog 17 #[v] w' fun e w'' => e = .returned (.bool true) ∧ w' = w''

theorem NoneAt.nil (w : World) : NoneAt w (.pointer none) := fun w' _ => cNone_nil w'
theorem NoneAt.zero (w : World) (g : Nat) (c8 : w.cell? ⟨g, 8, none⟩ = some Value.nilFunc) : NoneAt w (.pointer (some ⟨g, 0, none⟩)) := fun w' h => cNone_zero g w' (h.cell c8 fun f => f)
theorem NoneAt.new {w w' : World} {v : Value} (h : NoneAt w v) (hk : New w w') : NoneAt w' v := fun w2 h2 => h w2 (hk.new h2)

theorem zRefuses (v : Value) (b p : Int) (w : World) (h : Hid (NoneAt w v)) :
    Calls Tryz.prog 42 #[v, .int .i64 b, .int .i64 p] w fun e w' => e = .returned (.int .i64 1) ∧ w = w' := by
  go_enter Tryz.func42, Tryz.ntmps42
  go_wp2_with fail
  refine (h.out _ (Kept.refl _ _)).mono ?_
  rintro e w' ⟨rfl, rfl⟩
  go_wp2
  go_ret
  exact ⟨rfl, rfl⟩

theorem zRead (v : Value) (b p : Int) (w : World) (h : Hid (NoneAt w v)) :
    Calls Tryz.prog 24 #[v, .int .i64 b, .int .i64 p] w fun e w' => e = .returned (.tuple #[.slice none 0 0, .int .i64 1]) ∧ w = w' := by
  go_enter Tryz.func24, Tryz.ntmps24
  go_wp2_with fail
  refine (zRefuses v b p _ h).mono ?_
  rintro e w' ⟨rfl, rfl⟩
  go_wp2
  go_ret2
  exact ⟨rfl, rfl⟩

theorem zProg (v : Value) (b p : Int) (A : Option Addr) (n c : Nat) (w : World) (h : Hid (NoneAt w v)) :
    Calls Tryz.prog 13 #[v, .int .i64 b, .int .i64 p, .slice A n c] w fun e w' => e = .returned (.int .i64 1) ∧ w = w' := by
  go_enter Tryz.func13, Tryz.ntmps13
  go_wp2_with fail
  refine (zRefuses v b p _ h).mono ?_
  rintro e w' ⟨rfl, rfl⟩
  go_wp2
  go_ret
  exact ⟨rfl, rfl⟩

theorem zErase (v : Value) (b : Int) (w : World) (h : Hid (NoneAt w v)) :
    Calls Tryz.prog 71 #[v, .int .i64 b] w fun e w' => e = .returned (.int .i64 1) ∧ w = w' := by
  go_enter Tryz.func71, Tryz.ntmps71
  go_wp2_with fail
  refine (zRefuses v b 0 _ h).mono ?_
  rintro e w' ⟨rfl, rfl⟩
  go_wp2
  go_ret
  exact ⟨rfl, rfl⟩

theorem zHits (v : Value) (A : Option Addr) (n c : Nat) (w : World) (h : Hid (NoneAt w v)) :
    Calls Tryz.prog 12 #[v, .slice A n c] w fun e w' => e = .returned (.int .i64 1) ∧ w = w' := by
  go_enter Tryz.func12, Tryz.ntmps12
  go_wp2_with fail
  refine (h.out _ (Kept.refl _ _)).mono ?_
  rintro e w' ⟨rfl, rfl⟩
  go_wp2
  go_ret
  exact ⟨rfl, rfl⟩

theorem zPower (v : Value) (w : World) (h : Hid (NoneAt w v)) :
    Calls Tryz.prog 15 #[v] w fun e w' => e = .returned (.tuple #[.pointer none, .int .i64 1]) ∧ w = w' := by
  go_enter Tryz.func15, Tryz.ntmps15
  go_wp2_with fail
  refine (h.out _ (Kept.refl _ _)).mono ?_
  rintro e w' ⟨rfl, rfl⟩
  go_wp2
  go_ret2
  exact ⟨rfl, rfl⟩

theorem zBad (v : Value) (b : Int) (w : World) (h : Hid (NoneAt w v)) :
    Calls Tryz.prog 48 #[v, .int .i64 b] w fun e w' => e = .returned (.bool false) ∧ w = w' := by
  go_enter Tryz.func48, Tryz.ntmps48
  go_wp2_with fail
  refine (h.out _ (Kept.refl _ _)).mono ?_
  rintro e w' ⟨rfl, rfl⟩
  go_wp2
  go_ret
  exact ⟨rfl, rfl⟩

theorem zBytes (v : Value) (w : World) (h : Hid (NoneAt w v)) :
    Calls Tryz.prog 5 #[v] w fun e w' => e = .returned (.slice none 0 0) ∧ w = w' := by
  go_enter Tryz.func5, Tryz.ntmps5
  go_wp2_with fail
  refine (h.out _ (Kept.refl _ _)).mono ?_
  rintro e w' ⟨rfl, rfl⟩
  go_wp2
  go_ret
  exact ⟨rfl, rfl⟩

theorem zGeo (v : Value) (w : World) (h : Hid (NoneAt w v)) :
    Calls Tryz.prog 25 #[v] w fun e w' => e = .returned (.agg #[.int .i64 0, .int .i64 0, .int .i64 0, .int .i64 0]) ∧ New w w' := by
  go_enter Tryz.func25, Tryz.ntmps25
  go_wp2_with fail
  refine (h.out _ ((Kept.refl _ _).alloc _)).mono ?_
  rintro e w' ⟨rfl, rfl⟩
  go_wp2
  exact bodyPost_ret (v := .agg #[.int .i64 0, .int .i64 0, .int .i64 0, .int .i64 0]) (by simp [results, Tryz.results25, go_sem]) rfl ⟨rfl, (Kept.refl _ _).alloc _⟩
end Go.Proofs.YtgfdiboaiifdnaaGreat
