/-
  Contracts of no chip: nil, or a zero one.
-/
import Derived.Test.YteifkggfaefahaaNq
namespace Go.Proofs.Yteifkggfaefahaa
open Go.ChangeShapes Go.WideShapes Go.ChangeAt Go.RowKit

/-- No chip is behind v. -/
def NoneAt (w : World) (v : Value) : Prop := ∀ w', New w w' → Calls Try.prog 43 #[v] w' fun e w'' => e = .returned (.bool true) ∧ w' = w''

theorem NoneAt.nil (w : World) : NoneAt w (.pointer none) := fun w' _ => cNone_nil w'
theorem NoneAt.zero (w : World) (g : Nat) (c8 : w.cell? ⟨g, 8, none⟩ = some Value.nilFunc) : NoneAt w (.pointer (some ⟨g, 0, none⟩)) := fun w' h => cNone_zero g w' (h.cell c8 fun f => f)
theorem NoneAt.new {w w' : World} {v : Value} (h : NoneAt w v) (hk : New w w') : NoneAt w' v := fun w2 h2 => h w2 (hk.new h2)

theorem zRefuses (v : Value) (b p : Int) (w : World) (h : Hid (NoneAt w v)) :
    Calls Try.prog 44 #[v, .int .i64 b, .int .i64 p] w fun e w' => e = .returned (.int .i64 1) ∧ w = w' := by
  go_enter Try.func44, Try.ntmps44
  go_wp2_with fail
  refine (h.out _ (Kept.refl _ _)).mono ?_
  rintro e w' ⟨rfl, rfl⟩
  go_wp2
  go_ret
  exact ⟨rfl, rfl⟩

theorem zRead (v : Value) (b p : Int) (w : World) (h : Hid (NoneAt w v)) :
    Calls Try.prog 22 #[v, .int .i64 b, .int .i64 p] w fun e w' => e = .returned (.tuple #[.slice none 0 0, .int .i64 1]) ∧ w = w' := by
  go_enter Try.func22, Try.ntmps22
  go_wp2_with fail
  refine (zRefuses v b p _ h).mono ?_
  rintro e w' ⟨rfl, rfl⟩
  go_wp2
  go_ret2
  exact ⟨rfl, rfl⟩

theorem zProg (v : Value) (b p : Int) (A : Option Addr) (n c : Nat) (w : World) (h : Hid (NoneAt w v)) :
    Calls Try.prog 17 #[v, .int .i64 b, .int .i64 p, .slice A n c] w fun e w' => e = .returned (.int .i64 1) ∧ w = w' := by
  go_enter Try.func17, Try.ntmps17
  go_wp2_with fail
  refine (zRefuses v b p _ h).mono ?_
  rintro e w' ⟨rfl, rfl⟩
  go_wp2
  go_ret
  exact ⟨rfl, rfl⟩

theorem zErase (v : Value) (b : Int) (w : World) (h : Hid (NoneAt w v)) :
    Calls Try.prog 19 #[v, .int .i64 b] w fun e w' => e = .returned (.int .i64 1) ∧ w = w' := by
  go_enter Try.func19, Try.ntmps19
  go_wp2_with fail
  refine (zRefuses v b 0 _ h).mono ?_
  rintro e w' ⟨rfl, rfl⟩
  go_wp2
  go_ret
  exact ⟨rfl, rfl⟩

theorem zHits (v : Value) (A : Option Addr) (n c : Nat) (w : World) (h : Hid (NoneAt w v)) :
    Calls Try.prog 23 #[v, .slice A n c] w fun e w' => e = .returned (.int .i64 1) ∧ w = w' := by
  go_enter Try.func23, Try.ntmps23
  go_wp2_with fail
  refine (h.out _ (Kept.refl _ _)).mono ?_
  rintro e w' ⟨rfl, rfl⟩
  go_wp2
  go_ret
  exact ⟨rfl, rfl⟩

theorem zPower (v : Value) (w : World) (h : Hid (NoneAt w v)) :
    Calls Try.prog 25 #[v] w fun e w' => e = .returned (.tuple #[.pointer none, .int .i64 1]) ∧ w = w' := by
  go_enter Try.func25, Try.ntmps25
  go_wp2_with fail
  refine (h.out _ (Kept.refl _ _)).mono ?_
  rintro e w' ⟨rfl, rfl⟩
  go_wp2
  go_ret2
  exact ⟨rfl, rfl⟩

theorem zBad (v : Value) (b : Int) (w : World) (h : Hid (NoneAt w v)) :
    Calls Try.prog 24 #[v, .int .i64 b] w fun e w' => e = .returned (.bool false) ∧ w = w' := by
  go_enter Try.func24, Try.ntmps24
  go_wp2_with fail
  refine (h.out _ (Kept.refl _ _)).mono ?_
  rintro e w' ⟨rfl, rfl⟩
  go_wp2
  go_ret
  exact ⟨rfl, rfl⟩

theorem zDeeds (v : Value) (w : World) (h : Hid (NoneAt w v)) :
    Calls Try.prog 27 #[v] w fun e w' => e = .returned (.int .i64 0) ∧ w = w' := by
  go_enter Try.func27, Try.ntmps27
  go_wp2_with fail
  refine (h.out _ (Kept.refl _ _)).mono ?_
  rintro e w' ⟨rfl, rfl⟩
  go_wp2
  go_ret
  exact ⟨rfl, rfl⟩

theorem zBytes (v : Value) (w : World) (h : Hid (NoneAt w v)) :
    Calls Try.prog 16 #[v] w fun e w' => e = .returned (.slice none 0 0) ∧ w = w' := by
  go_enter Try.func16, Try.ntmps16
  go_wp2_with fail
  refine (h.out _ (Kept.refl _ _)).mono ?_
  rintro e w' ⟨rfl, rfl⟩
  go_wp2
  go_ret
  exact ⟨rfl, rfl⟩

theorem zGeo (v : Value) (w : World) (h : Hid (NoneAt w v)) :
    Calls Try.prog 33 #[v] w fun e w' => e = .returned (.agg #[.int .i64 0, .int .i64 0, .int .i64 0, .int .i64 0]) ∧ New w w' := by
  go_enter Try.func33, Try.ntmps33
  go_wp2_with fail
  refine (h.out _ ((Kept.refl _ _).alloc _)).mono ?_
  rintro e w' ⟨rfl, rfl⟩
  go_wp2
  exact bodyPost_ret (v := .agg #[.int .i64 0, .int .i64 0, .int .i64 0, .int .i64 0]) (by simp [results, Try.results33, go_sem]) rfl ⟨rfl, (Kept.refl _ _).alloc _⟩
end Go.Proofs.Yteifkggfaefahaa
