/-
  NandPlays: whatever is programmed, erased, read, struck and powered, the answers, and the bytes, are the document's; for every geometry and every list of acts (the first 40 are played).
-/
import Derived.Test.YtfhngcnphcjmgaaTd
namespace Go.Proofs.Ytfhngcnphcjmgaa.nandPlays
open Go.ChangeShapes Go.WideShapes Go.ChangeAt Go.RowKit

theorem own : ownKnob Try.prog.godebug = none := by kernel_rfl
theorem laidOut : laidOutB Try.prog = true := by kernel_rfl

set_option maxRecDepth 100000 in
set_option maxHeartbeats 1600000 in
theorem walk (a b c d : Int) (A : Option Addr) (n ca : Nat) (al : List ActV) (w : World) (hl : ActsA w A n al) :
    Calls Try.prog 3 #[.agg #[.int .i64 a, .int .i64 b, .int .i64 c, .int .i64 d], .slice A n ca] w (True1 w) := by
  have HL := Lib.hid hl
  clear hl
  by_cases hg : geoOk (wiB a) (wiP b) c d
  · obtain ⟨x, y, u, v, hx, hy, hu, hv⟩ := geo_nat hg
    rw [hx, hy, hu, hv] at hg
    have HG := Lib.hid hg
    have HX := Lib.hid hx
    have HY := Lib.hid hy
    have HU := Lib.hid hu
    have HV := Lib.hid hv
    clear hg hx hy hu hv
    go_enter Try.func3, Try.ntmps3
    go_wp2_with fail
    have A0 : Hid (New w (w.alloc (.cells #[.int .i64 a, .int .i64 b, .int .i64 c, .int .i64 d] 23))) := (Kept.refl _ _).alloc _
    refine played_ok a b c d x y u v A n ca al _ (HL.out.new A0.out) HG.out HX.out HY.out HU.out HV.out _ fun gp w1 h1 h2 => ?_
    have N1 : Hid (New w w1) := A0.out.new h2
    clear h1 h2
    go_wp2_with fail
    refine (worksN_k N1).mono ?_
    rintro e w9 ⟨rfl, k9⟩
    have K9 := Lib.hid k9
    clear k9
    go_wp2
    go_ret
    exact ⟨rfl, K9.out⟩
  · have HG := Lib.hid hg
    clear hg
    go_enter Try.func3, Try.ntmps3
    go_wp2_with fail
    have A0 : Hid (New w (w.alloc (.cells #[.int .i64 a, .int .i64 b, .int .i64 c, .int .i64 d] 23))) := (Kept.refl _ _).alloc _
    refine played_no a b c d A n ca _ HG.out _ fun w1 h2 => ?_
    have N1 : Hid (New w w1) := A0.out.new h2
    clear h2
    go_wp2_with fail
    refine (worksN_k N1).mono ?_
    rintro e w9 ⟨rfl, k9⟩
    have K9 := Lib.hid k9
    clear k9
    go_wp2
    go_ret
    exact ⟨rfl, K9.out⟩

set_option maxRecDepth 100000 in
theorem lifted (os : Os) (started : os.Started) (H : Type) (enc : TypeId × Value → H) :
    ReturnsInHanded {} Try.checked os 3 .any (Rows.nandPlaysSpec.pre6 enc Try.prog Try.f3 Rows.nandPlaysRow.domain false) (Rows.nandPlaysSpec.post enc Try.prog Try.f3 false true false false) := by
  refine lift_new (C := Try.checked) (s := Rows.nandPlaysSpec) (tb := 4) own started (by kernel_rfl) Try.func3
    (ChangeSpec.witness6 (enc := enc) (C := Try.checked) false ⟨#[], #[.agg #[.int .i64 0, .int .i64 0, .int .i64 0, .int .i64 0], .slice none 0 0], []⟩ 8 (by kernel_rfl) (by kernel_rfl) (by kernel_rfl) (by kernel_rfl))
    rfl (by kernel_rfl) Try.underlying4 ?_ laidOut (of_decide_eq_true (by kernel_rfl)) ?_
  · intro ds hd
    match ds, hd with
    | [d0, d1], _ => exact ⟨rfl, rfl, rfl⟩
  · intro W base args ds hA
    have hA : Args enc Try.prog W base Try.f3.params.toList args.toList ds := hA
    rw [Try.params3] at hA
    obtain ⟨v0, vs0, d0, ds0, p0, hargs, rfl, a0, hA⟩ := hA.cons_
    obtain ⟨v1, vs1, d1, ds1, p1, rfl, rfl, a1, hA⟩ := hA.cons_
    obtain ⟨rfl, rfl⟩ := hA.nil_
    obtain rfl : args = #[v0, v1] := by cases args; simp_all
    obtain ⟨x0, y0, z0, u0, rfl⟩ := a0.geo_
    obtain ⟨A1, n1, c1, l1, rfl, b1, _, _⟩ := a1.acts_
    exact walk x0 y0 z0 u0 A1 n1 c1 l1 W b1

theorem over : Rows.nandPlaysRow.holds Try.pinned (OpenSpec.ofChange Rows.nandPlaysSpec) :=
  OpenClaim.holds_of_wide 3 Try.f3 rfl rfl rfl rfl rfl rfl rfl ⟨rfl, rfl, rfl, rfl, rfl⟩ rfl rfl rfl rfl rfl (by kernel_rfl) Try.func3 (by kernel_rfl)
    (of_decide_eq_true (by kernel_rfl)) (by unfold Func.isWrapper; first | (rw [if_pos (by decide +kernel)]; kernel_rfl) | (rw [if_neg (by decide +kernel)]; exact ⟨rfl, rfl⟩))
    (fun os started H enc _ => lifted os started H enc)

theorem proved : Rows.NandPlaysSaid := over
end Go.Proofs.Ytfhngcnphcjmgaa.nandPlays
