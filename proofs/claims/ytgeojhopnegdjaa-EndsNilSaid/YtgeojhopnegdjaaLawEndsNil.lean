/-
  EndsNil: of no reader, and of a zero one, all is refused, or nothing; for every size and both kinds of reader.
-/
import Derived.Test.YtgeojhopnegdjaaEe
namespace Go.Proofs.Ytgeojhopnegdjaa.endsNil
open Go.ChangeShapes Go.WideShapes Go.ChangeAt Go.RowKit

theorem own : ownKnob Try.prog.godebug = none := by kernel_rfl
theorem laidOut : laidOutB Try.prog = true := by kernel_rfl

set_option maxHeartbeats 400000 in
theorem walk (s : Int) (z : Bool) (w : World) : Calls Try.prog 8 #[.int .i64 s, .bool z] w (True1 w) := by
  cases z
  · go_enter Try.func8, Try.ntmps8
    go_wp2_with (first | (go_at_call 14; refine (works_any _).mono ?_; rintro e w1 ⟨rfl, hk⟩) | go_in)
    go_ret
    exact ⟨rfl, hk⟩
  · go_enter Try.func8, Try.ntmps8
    go_wp2_with (first | (go_at_call 14; refine (works_any _).mono ?_; rintro e w1 ⟨rfl, hk⟩) | go_in)
    go_ret
    exact ⟨rfl, ((Kept.refl _ _).alloc _).new hk⟩

set_option maxRecDepth 100000 in
theorem lifted (os : Os) (started : os.Started) (H : Type) (enc : TypeId × Value → H) :
    ReturnsInHanded {} Try.checked os 8 .any (Rows.endsNilSpec.pre6 enc Try.prog Try.f8 Rows.endsNilRow.domain false) (Rows.endsNilSpec.post enc Try.prog Try.f8 false true false false) := by
  refine lift_new (C := Try.checked) (s := Rows.endsNilSpec) (tb := 4) own started (by kernel_rfl) Try.func8
    (ChangeSpec.witness6 (enc := enc) (C := Try.checked) false ⟨#[], #[.int .i64 0, .bool false], []⟩ 8 (by kernel_rfl) (by kernel_rfl) (by kernel_rfl) (by kernel_rfl))
    rfl (by kernel_rfl) Try.underlying4 ?_ laidOut (of_decide_eq_true (by kernel_rfl)) ?_
  · intro ds hd
    match ds, hd with
    | [d0, d1], _ => exact ⟨rfl, rfl, rfl⟩
  · intro W base args ds hA
    have hA : Args enc Try.prog W base Try.f8.params.toList args.toList ds := hA
    rw [Try.params8] at hA
    obtain ⟨v0, vs0, d0, ds0, p0, hargs, rfl, a0, hA⟩ := hA.cons_
    obtain ⟨v1, vs1, d1, ds1, p1, rfl, rfl, a1, hA⟩ := hA.cons_
    obtain ⟨rfl, rfl⟩ := hA.nil_
    obtain rfl : args = #[v0, v1] := by cases args; simp_all
    obtain ⟨x0, rfl, w0⟩ := a0.int_ Try.underlying3
    obtain ⟨x1, rfl⟩ := a1.bool_ Try.underlying4
    exact walk x0 x1 W

theorem over : Rows.endsNilRow.holds Try.pinned (OpenSpec.ofChange Rows.endsNilSpec) :=
  OpenClaim.holds_of_wide 8 Try.f8 rfl rfl rfl rfl rfl rfl rfl ⟨rfl, rfl, rfl, rfl, rfl⟩ rfl rfl rfl rfl rfl (by kernel_rfl) Try.func8 (by kernel_rfl)
    (of_decide_eq_true (by kernel_rfl)) (by unfold Func.isWrapper; first | (rw [if_pos (by decide +kernel)]; kernel_rfl) | (rw [if_neg (by decide +kernel)]; exact ⟨rfl, rfl⟩))
    (fun os started H enc _ => lifted os started H enc)

theorem proved : Rows.EndsNilSaid := over
end Go.Proofs.Ytgeojhopnegdjaa.endsNil
