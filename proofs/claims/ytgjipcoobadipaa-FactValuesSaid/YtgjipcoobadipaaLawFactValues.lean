/-
  FactValues: values of nodes and of entries, and what values say, are the document's, or its error; for every node, number and slice of bytes.
-/
import Derived.Test.YtgjipcoobadipaaFn
namespace Go.Proofs.Ytgjipcoobadipaa.factValues
open Go.ChangeShapes Go.WideShapes Go.ChangeAt Go.RowKit

theorem own : ownKnob Try.prog.godebug = none := by kernel_rfl
theorem laidOut : laidOutB Try.prog = true := by kernel_rfl

set_option maxRecDepth 100000 in
set_option maxHeartbeats 3200000 in
theorem walk (k : Nat) (a z : Int) (i : Int) (A : Option Addr) (n c : Nat) (l : List Nat) (w : World)
    (hn : k < 256 ∧ (-9223372036854775808 ≤ a ∧ a ≤ 9223372036854775807) ∧ (-9223372036854775808 ≤ z ∧ z ≤ 9223372036854775807)) (_hi : -9223372036854775808 ≤ i ∧ i ≤ 9223372036854775807) (h : IsB w (.slice A n c) A n c l) :
    Calls Try.prog 5 #[.agg #[.int .u8 (k : Nat), .int .i64 a, .int .i64 z], .int .i64 i, .slice A n c] w (True1 w) := by
  have hcap := h.cap
  have hle := h.le
  have HB := Lib.hid h.bts
  have HN := Lib.hid hn
  obtain ⟨wb, hwb⟩ : ∃ wb, wb = w.alloc (.cells #[.int .u8 (k : Nat), .int .i64 a, .int .i64 z] 44) := ⟨_, rfl⟩
  have K0 : Hid (New w wb) := by rw [hwb]; exact (Kept.refl _ _).alloc _
  have BN : Hid (∀ u, New wb u → Blk u w.heap.size 44 [.int .u8 (k : Nat), .int .i64 a, .int .i64 z]) := fun u hu => by rw [hwb] at hu; exact (Blk.made w _ _).kept hu id
  have HW := Lib.hid hwb
  have L1 : Hid ((nvL k a z).length ≤ 4) := by show _ ≤ _; unfold nvL; split <;> simp
  have L2 : Hid ((evL i).length ≤ 2) := by show _ ≤ _; unfold evL; split <;> simp
  clear hwb h hn _hi
  go_enter Try.func5, Try.ntmps5
  go_wp2_with fail
  rw [← HW.out]
  clear HW
  refine (nodeValue_any k a z _ HN.out.1 HN.out.2.1 HN.out.2.2).mono ?_
  rintro e w1 ⟨A1, c1, rfl, o1, k1⟩
  have O1 := Lib.hid o1.bts
  have K1 := Lib.hid k1
  clear o1 k1
  obtain ⟨x0, x1, x2⟩ := ncells3 (BN.out w1 K1.out)
  go_wp2_with fail
  refine (rnodeValue_any k a z _ HN.out.1).mono ?_
  rintro e w2 ⟨A2, c2, rfl, o2, k2⟩
  have O1' := Lib.hid (O1.out.new k2)
  have O2 := Lib.hid o2.bts
  have K2 := Lib.hid (K1.out.new k2)
  clear o2 k2 O1 K1 x0 x1 x2
  go_wp2_with fail
  refine (entryValue_any i _).mono ?_
  rintro e w3 ⟨A3, c3, rfl, o3, k3⟩
  have P1 := Lib.hid (O1'.out.new k3)
  have P2 := Lib.hid (O2.out.new k3)
  have O3 := Lib.hid o3.bts
  have K3 := Lib.hid (K2.out.new k3)
  clear o3 k3 O1' O2 K2
  go_wp2_with fail
  refine (rentryValue_any i _).mono ?_
  rintro e w4 ⟨A4, c4, rfl, o4, k4⟩
  have Q1 := Lib.hid (P1.out.new k4)
  have Q2 := Lib.hid (P2.out.new k4)
  have Q3 := Lib.hid (O3.out.new k4)
  have O4 := Lib.hid o4.bts
  have K4 := Lib.hid (K3.out.new k4)
  clear o4 k4 P1 P2 O3 K3
  go_wp2_with fail
  refine (node_any A n c l _ (HB.out.new (K0.out.new K4.out)) (by omega)).mono ?_
  rintro e w5 ⟨rfl, k5⟩
  obtain ⟨w6, hw6⟩ : ∃ w6, w6 = w5.alloc (.cells #[.int .u8 (nodK l : Nat), .int .i64 (nodN l : Nat), .int .i64 (nodZ l : Nat)] 44) := ⟨_, rfl⟩
  have n6 : New w4 w6 := by rw [hw6]; exact k5.alloc _
  have B6 : Hid (Blk w6 w5.heap.size 44 [.int .u8 (nodK l : Nat), .int .i64 (nodN l : Nat), .int .i64 (nodZ l : Nat)]) := by rw [hw6]; exact Blk.made w5 _ _
  have R1 := Lib.hid (Q1.out.new n6)
  have R2 := Lib.hid (Q2.out.new n6)
  have R3 := Lib.hid (Q3.out.new n6)
  have R4 := Lib.hid (O4.out.new n6)
  have K6 := Lib.hid (K4.out.new n6)
  have HW6 := Lib.hid hw6
  clear hw6 n6 k5 Q1 Q2 Q3 O4 K4
  go_wp2_with fail
  rw [← HW6.out]
  clear HW6
  generalize w5.heap.size = g5 at *
  refine (rnode_any A n c l _ (HB.out.new (K0.out.new K6.out))).mono ?_
  rintro e w7 ⟨rfl, k7⟩
  obtain ⟨w8, hw8⟩ : ∃ w8, w8 = w7.alloc (.cells #[.int .u8 (nodK l : Nat), .int .i64 (nodN l : Nat), .int .i64 (nodZ l : Nat)] 44) := ⟨_, rfl⟩
  have n8 : New w6 w8 := by rw [hw8]; exact k7.alloc _
  have B8 : Hid (∀ u, New w8 u → Blk u w7.heap.size 44 [.int .u8 (nodK l : Nat), .int .i64 (nodN l : Nat), .int .i64 (nodZ l : Nat)]) := fun u hu => by rw [hw8] at hu; exact (Blk.made w7 _ _).kept hu id
  have B7 : Hid (∀ u, New w8 u → Blk u g5 44 [.int .u8 (nodK l : Nat), .int .i64 (nodN l : Nat), .int .i64 (nodZ l : Nat)]) := fun u hu => (B6.out.kept n8 id).kept hu id
  have S1 := Lib.hid (R1.out.new n8)
  have S2 := Lib.hid (R2.out.new n8)
  have S3 := Lib.hid (R3.out.new n8)
  have S4 := Lib.hid (R4.out.new n8)
  have K8 := Lib.hid (K6.out.new n8)
  have HW8 := Lib.hid hw8
  clear hw8 n8 k7 R1 R2 R3 R4 K6 B6
  have HQ := node_eql (nodK l) (nodN l : Nat) (nodZ l : Nat)
  generalize nodK l = nk at *
  generalize nodN l = nn at *
  generalize nodZ l = nz at *
  generalize nodE l = ne at *
  go_wp2_with fail
  rw [← HW8.out]
  clear HW8
  generalize w7.heap.size = g7 at *
  refine (entry_any A n c l _ (HB.out.new (K0.out.new K8.out)) (by omega)).mono ?_
  rintro e w9 ⟨rfl, k9⟩
  have N9 := Lib.hid k9
  clear k9
  go_wp2_with fail
  refine (rentry_any A n c l _ (HB.out.new ((K0.out.new K8.out).new N9.out))).mono ?_
  rintro e wA ⟨rfl, kA⟩
  have NA := Lib.hid (N9.out.new kA)
  clear kA N9
  generalize entV l = ev at *
  generalize entE l = ee at *
  have hl1 := L1.out
  have hl2 := L2.out
  generalize nvL k a z = p1 at *
  generalize evL i = p2 at *
  generalize nvE k a z = e1 at *
  generalize evE i = e2 at *
  generalize h1 : p1.length = n1 at *
  generalize h2 : p2.length = n2 at *
  clear h1 h2
  go_wp2_with fail
  refine (same_eq A1 A2 n1 c1 c2 p1 _ (S1.out.new NA.out) (S2.out.new NA.out) (by unfold maxLen; omega)).mono ?_
  rintro e wB ⟨d1, rfl, rfl⟩
  have NB : Hid (New w8 (wA.drewN d1)) := NA.out.drewN d1
  clear NA
  generalize wA.drewN d1 = wC at *
  go_wp2_with fail
  refine (same_eq A3 A4 n2 c3 c4 p2 _ (S3.out.new NB.out) (S4.out.new NB.out) (by unfold maxLen; omega)).mono ?_
  rintro e wB ⟨d2, rfl, rfl⟩
  have ND : Hid (New w8 (wC.drewN d2)) := NB.out.drewN d2
  clear NB
  generalize wC.drewN d2 = wD at *
  obtain ⟨x0, x1, x2⟩ := ncells3 (B7.out wD ND.out)
  obtain ⟨y0, y1, y2⟩ := ncells3 (B8.out wD ND.out)
  go_wp2_with fail
  refine (works6_any _).mono ?_
  rintro e wE ⟨rfl, kE⟩
  have KE : Hid (New w wE) := ((K0.out.new K8.out).new ND.out).new kE
  clear kE
  go_wp2
  go_ret
  exact ⟨rfl, KE.out⟩

set_option maxRecDepth 100000 in
theorem lifted (os : Os) (started : os.Started) (H : Type) (enc : TypeId × Value → H) :
    ReturnsInHanded {} Try.checked os 5 .any (Rows.factValuesSpec.pre6 enc Try.prog Try.f5 Rows.factValuesRow.domain false) (Rows.factValuesSpec.post enc Try.prog Try.f5 false true false false) := by
  refine lift_new (C := Try.checked) (s := Rows.factValuesSpec) (tb := 4) own started (by kernel_rfl) Try.func5
    (ChangeSpec.witness6 (enc := enc) (C := Try.checked) false ⟨#[], #[.agg #[.int .u8 0, .int .i64 0, .int .i64 0], .int .i64 0, .slice none 0 0], []⟩ 8 (by kernel_rfl) (by kernel_rfl) (by kernel_rfl) (by kernel_rfl))
    rfl (by kernel_rfl) Try.underlying4 ?_ laidOut (of_decide_eq_true (by kernel_rfl)) ?_
  · intro ds hd
    match ds, hd with
    | [d0, d1, d2], _ => exact ⟨rfl, rfl, rfl⟩
  · intro W base args ds hA
    have hA : Args enc Try.prog W base Try.f5.params.toList args.toList ds := hA
    rw [Try.params5] at hA
    obtain ⟨v0, vs0, d0, ds0, p0, hargs, rfl, a0, hA⟩ := hA.cons_
    obtain ⟨v1, vs1, d1, ds1, p1, rfl, rfl, a1, hA⟩ := hA.cons_
    obtain ⟨v2, vs2, d2, ds2, p2, rfl, rfl, a2, hA⟩ := hA.cons_
    obtain ⟨rfl, rfl⟩ := hA.nil_
    obtain rfl : args = #[v0, v1, v2] := by cases args; simp_all
    obtain ⟨x0, y0, z0, rfl, b0⟩ := a0.node_
    obtain ⟨x1, rfl, w1⟩ := a1.int_ Try.underlying3
    obtain ⟨A2, n2, c2, l2, b2⟩ := a2.bytes_ Try.underlying24 Try.underlying5 (by kernel_rfl) (by kernel_rfl)
    obtain rfl := b2.val
    exact walk x0 y0 z0 x1 A2 n2 c2 l2 W b0 (i64_bounds w1) b2

theorem over : Rows.factValuesRow.holds Try.pinned (OpenSpec.ofChange Rows.factValuesSpec) :=
  OpenClaim.holds_of_wide 5 Try.f5 rfl rfl rfl rfl rfl rfl rfl ⟨rfl, rfl, rfl, rfl, rfl⟩ rfl rfl rfl rfl rfl (by kernel_rfl) Try.func5 (by kernel_rfl)
    (of_decide_eq_true (by kernel_rfl)) (by unfold Func.isWrapper; first | (rw [if_pos (by decide +kernel)]; kernel_rfl) | (rw [if_neg (by decide +kernel)]; exact ⟨rfl, rfl⟩))
    (fun os started H enc _ => lifted os started H enc)

theorem proved : Rows.FactValuesSaid := over
end Go.Proofs.Ytgjipcoobadipaa.factValues
