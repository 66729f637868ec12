/-
  RecPuts: a page of whatever changes, and how long its body is, are the document's, or its error; for every size and list of changes.
-/
import Derived.Test.YtlbbhfapmmcehaaJw
namespace Go.Proofs.Ytlbbhfapmmcehaa.recPuts
open Go.ChangeShapes Go.WideShapes Go.ChangeAt Go.RowKit

theorem own : ownKnob Try.prog.godebug = none := by kernel_rfl
theorem laidOut : laidOutB Try.prog = true := by kernel_rfl

theorem puL_len (n : Int) (l : List CT) : (puL n l).length ≤ 256 := by
  unfold puL sPutL
  split
  · split
    · rename_i h
      have h1 := h.1
      unfold isPg at h1
      rw [page_length _ _ _ (by omega)]
      omega
    · simp
  · simp

set_option maxRecDepth 100000 in
set_option maxHeartbeats 1600000 in
theorem walk (x0 : Int) (A : Option Addr) (n c : Nat) (es : List CE) (w : World)
    (_b0 : -9223372036854775808 ≤ x0 ∧ x0 ≤ 9223372036854775807) (b1 : CsIn w A n c es) :
    Calls Try.prog 3 #[.int .i64 x0, .slice A n c] w (True1 w) := by
  have hn : n ≤ maxLen := Nat.le_trans b1.2.2.1 b1.2.2.2.1
  have C1 := fun u hu => Lib.hid (recPut_any x0 A n c es u (b1.1.new hu) hn)
  have C2 := fun u hu => Lib.hid (rrecPut_any x0 A n c es u (b1.1.new hu) hn)
  have C3 := fun u hu => Lib.hid (recLength_any A n c es u (b1.1.new hu) hn)
  have C4 := fun u hu => Lib.hid (rrecLength_any A n c es u (b1.1.new hu) hn)
  have HL : Hid ((puL x0 (cts es)).length ≤ 256) := puL_len x0 _
  clear b1 hn
  generalize puL x0 (cts es) = pl at *
  generalize puE x0 (cts es) = pe at *
  generalize (tlL (cts es)).length = tn at *
  go_enter Try.func3, Try.ntmps3
  go_wp2_with fail
  refine (C1 _ (Kept.refl _ _)).out.mono ?_
  rintro e w1 ⟨A1, c1, rfl, p1, k1⟩
  have T1 := Lib.hid p1.bts
  have K1 := Lib.hid k1
  clear p1 k1 C1
  go_wp2_with fail
  refine (C2 _ K1.out).out.mono ?_
  rintro e w3 ⟨A3, c3, rfl, o3, k3⟩
  have T3 := Lib.hid o3.bts
  have T1' := Lib.hid (T1.out.new k3)
  have K3 := Lib.hid (K1.out.new k3)
  clear o3 k3 C2 T1 K1
  go_wp2_with fail
  refine (same_eq A1 A3 pl.length c1 c3 pl _ T1'.out T3.out (by have := HL.out; unfold maxLen; omega)).mono ?_
  rintro e w6 ⟨d6, rfl, rfl⟩
  have K6 : Hid (New w (w3.drewN d6)) := K3.out.drewN d6
  clear T1' T3 K3
  go_wp2_with fail
  refine (C3 _ K6.out).out.mono ?_
  rintro e w7 ⟨rfl, k7⟩
  have K7 := Lib.hid (K6.out.new k7)
  clear k7 K6 C3
  go_wp2_with fail
  refine (C4 _ K7.out).out.mono ?_
  rintro e w8 ⟨rfl, k8⟩
  have K8 := Lib.hid (K7.out.new k8)
  clear k8 K7 C4
  go_wp2_with fail
  refine (works11_k K8).mono ?_
  rintro e w9 ⟨rfl, Kl⟩
  go_wp2
  go_ret
  exact ⟨rfl, Kl⟩

set_option maxRecDepth 100000 in
theorem lifted (os : Os) (started : os.Started) (H : Type) (enc : TypeId × Value → H) :
    ReturnsInHanded {} Try.checked os 3 .any (Rows.recPutsSpec.pre6 enc Try.prog Try.f3 Rows.recPutsRow.domain false) (Rows.recPutsSpec.post enc Try.prog Try.f3 false true false false) := by
  refine lift_new (C := Try.checked) (s := Rows.recPutsSpec) (tb := 4) own started (by kernel_rfl) Try.func3
    (ChangeSpec.witness6 (enc := enc) (C := Try.checked) false ⟨#[], #[.int .i64 0, .slice none 0 0], []⟩ 8 (by kernel_rfl) (by kernel_rfl) (by kernel_rfl) (by kernel_rfl))
    rfl (by kernel_rfl) Try.underlying4 ?_ laidOut (of_decide_eq_true (by kernel_rfl)) ?_
  · intro ds hd
    match ds, hd with
    | [d0, d1], _ => exact ⟨rfl, rfl, rfl⟩
  · intro W base args ds hA
    have hA : Args enc Try.prog W base Try.f3.params.toList args.toList ds := hA
    rw [Try.params3] at hA
    obtain ⟨v0, vs0, d0, ds0, p0, hargs, rfl, a0, hA⟩ := hA.cons_
    obtain ⟨v1, vs1, d1, ds1, p1, rfl, rfl, a1, hA⟩ := hA.cons_
    obtain ⟨rfl, rfl⟩ := hA.nil_
    obtain rfl : args = #[v0, v1] := by cases args; simp_all
    obtain ⟨x0, rfl, w0⟩ := a0.int_ Try.underlying3
    obtain ⟨A1, n1, c1, l1, rfl, b1⟩ := a1.changes_
    exact walk x0 A1 n1 c1 l1 W (i64_bounds w0) b1

theorem over : Rows.recPutsRow.holds Try.pinned (OpenSpec.ofChange Rows.recPutsSpec) :=
  OpenClaim.holds_of_wide 3 Try.f3 rfl rfl rfl rfl rfl rfl rfl ⟨rfl, rfl, rfl, rfl, rfl⟩ rfl rfl rfl rfl rfl (by kernel_rfl) Try.func3 (by kernel_rfl)
    (of_decide_eq_true (by kernel_rfl)) (by unfold Func.isWrapper; first | (rw [if_pos (by decide +kernel)]; kernel_rfl) | (rw [if_neg (by decide +kernel)]; exact ⟨rfl, rfl⟩))
    (fun os started H enc _ => lifted os started H enc)

theorem proved : Rows.RecPutsSaid := over
end Go.Proofs.Ytlbbhfapmmcehaa.recPuts
