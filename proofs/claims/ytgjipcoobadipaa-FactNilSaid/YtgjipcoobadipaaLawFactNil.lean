/-
  FactNil: of no reader, and of a zero one, it is refused; for each bool.
-/
import Derived.Test.YtgjipcoobadipaaFj
namespace Go.Proofs.Ytgjipcoobadipaa.factNil
open Go.ChangeShapes Go.WideShapes Go.ChangeAt Go.RowKit

theorem own : ownKnob Try.prog.godebug = none := by kernel_rfl
theorem laidOut : laidOutB Try.prog = true := by kernel_rfl

set_option maxRecDepth 100000 in
set_option maxHeartbeats 3200000 in
theorem walk (b : Bool) (w : World) : Calls Try.prog 11 #[.bool b] w (True1 w) := by
  cases b
  · go_enter Try.func11, Try.ntmps11
    go_wp2_with (first
      | (go_at_call 19; refine (works6_any _).mono ?_; rintro e w9 ⟨rfl, k9⟩; have K9 := Lib.hid (Kept.new (a := w) (S := fun _ => False) (by repeat (first | exact Kept.refl _ _ | refine Kept.alloc ?_ _ | refine Kept.setCell ?_ (fun h => absurd h (by simp)) _ | refine Kept.setCell ?_ (fun h => absurd h (by simp; omega)) _)) k9); clear k9)
      | go_in)
    go_ret
    exact ⟨rfl, K9.out⟩
  · go_enter Try.func11, Try.ntmps11
    go_wp2_with (first
      | (go_at_call 19; refine (works6_any _).mono ?_; rintro e w9 ⟨rfl, k9⟩; have K9 := Lib.hid (Kept.new (a := w) (S := fun _ => False) (by repeat (first | exact Kept.refl _ _ | refine Kept.alloc ?_ _ | refine Kept.setCell ?_ (fun h => absurd h (by simp)) _ | refine Kept.setCell ?_ (fun h => absurd h (by simp; omega)) _)) k9); clear k9)
      | go_in)
    go_ret
    exact ⟨rfl, K9.out⟩

set_option maxRecDepth 100000 in
theorem lifted (os : Os) (started : os.Started) (H : Type) (enc : TypeId × Value → H) :
    ReturnsInHanded {} Try.checked os 11 .any (Rows.factNilSpec.pre6 enc Try.prog Try.f11 Rows.factNilRow.domain false) (Rows.factNilSpec.post enc Try.prog Try.f11 false true false false) := by
  refine lift_new (C := Try.checked) (s := Rows.factNilSpec) (tb := 4) own started (by kernel_rfl) Try.func11
    (ChangeSpec.witness6 (enc := enc) (C := Try.checked) false ⟨#[], #[.bool false], []⟩ 8 (by kernel_rfl) (by kernel_rfl) (by kernel_rfl) (by kernel_rfl))
    rfl (by kernel_rfl) Try.underlying4 ?_ laidOut (of_decide_eq_true (by kernel_rfl)) ?_
  · intro ds hd
    match ds, hd with
    | [d0], _ => exact ⟨rfl, rfl, rfl⟩
  · intro W base args ds hA
    have hA : Args enc Try.prog W base Try.f11.params.toList args.toList ds := hA
    rw [Try.params11] at hA
    obtain ⟨v0, vs0, d0, ds0, p0, hargs, rfl, a0, hA⟩ := hA.cons_
    obtain ⟨rfl, rfl⟩ := hA.nil_
    obtain rfl : args = #[v0] := by cases args; simp_all
    obtain ⟨x0, rfl⟩ := a0.bool_ Try.underlying4
    exact walk x0 W 

theorem over : Rows.factNilRow.holds Try.pinned (OpenSpec.ofChange Rows.factNilSpec) :=
  OpenClaim.holds_of_wide 11 Try.f11 rfl rfl rfl rfl rfl rfl rfl ⟨rfl, rfl, rfl, rfl, rfl⟩ rfl rfl rfl rfl rfl (by kernel_rfl) Try.func11 (by kernel_rfl)
    (of_decide_eq_true (by kernel_rfl)) (by unfold Func.isWrapper; first | (rw [if_pos (by decide +kernel)]; kernel_rfl) | (rw [if_neg (by decide +kernel)]; exact ⟨rfl, rfl⟩))
    (fun os started H enc _ => lifted os started H enc)

theorem proved : Rows.FactNilSaid := over
end Go.Proofs.Ytgjipcoobadipaa.factNil
