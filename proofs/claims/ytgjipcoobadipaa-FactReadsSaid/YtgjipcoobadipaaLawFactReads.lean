/-
  FactReads: what is taken off of whatever bytes, key by key, and how many are left, are the document's, or its error; for every slice of bytes.
-/
import Derived.Test.YtgjipcoobadipaaFk
namespace Go.Proofs.Ytgjipcoobadipaa.factReads
open Go.ChangeShapes Go.WideShapes Go.ChangeAt Go.RowKit

theorem own : ownKnob Try.prog.godebug = none := by kernel_rfl
theorem laidOut : laidOutB Try.prog = true := by kernel_rfl

theorem key_same (k : KY) (w : World) : Sem.run Try.prog (binOp .neq 23 (.agg #[.int .i64 k.i, .int .u8 (k.t : Nat), .string k.n, .int .i64 k.c]) (.agg #[.int .i64 k.i, .int .u8 (k.t : Nat), .string k.n, .int .i64 k.c])) w = .ok (.bool false) w := by
  rw [key_neq, decide_eq_true rfl]
  rfl
set_option maxRecDepth 100000 in
set_option maxHeartbeats 3200000 in
theorem walk (A : Option Addr) (n c : Nat) (l : List Nat) (w : World) (h : IsB w (.slice A n c) A n c l) :
    Calls Try.prog 4 #[.slice A n c] w (True1 w) := by
  have hcap := h.cap
  have hle := h.le
  have hb := h.bts
  have hnil := h.nil
  have HB := Lib.hid hb
  have HNL := Lib.hid hnil
  clear h hb hnil
  go_enter Try.func4, Try.ntmps4
  go_wp2_with fail
  refine (new_any A n c l _ HB.out (by omega) HNL.out).mono ?_
  rintro e w1 ⟨g1, rfl, r1, hg1, k1⟩
  have R1 := Lib.hid r1.any
  have K1 := Lib.hid k1
  have HB1 := Lib.hid (HB.out.new k1)
  clear r1 k1
  go_wp2_with fail
  refine (copy_any A n c l _ HB1.out (by omega)).mono ?_
  rintro e w2 ⟨A2, c2, rfl, o2, k2⟩
  obtain ⟨w3, hw3⟩ : ∃ w3, w3 = w2.alloc (.cells #[.slice A2 l.length c2, .bool false] 37) := ⟨_, rfl⟩
  have n3 : New w2 w3 := by rw [hw3]; exact (Kept.refl _ _).alloc _
  have R3 := Lib.hid ((R1.out.new k2).new n3)
  have K3 := Lib.hid ((K1.out.new k2).new n3)
  have F3 : Hid (RfQ Any w3 w2.heap.size l) := by
    refine ⟨l, false, ⟨A2, c2, ?_, (o2.bts).new n3, fun a ha => ⟨trivial, (o2.at_ a ha).1.kept n3 (fun f => f)⟩, o2.le.1, o2.le.2⟩, rfl⟩
    rw [hw3]
    exact Blk.made w2 _ _
  have hg2 : w.heap.size ≤ w2.heap.size := (K1.out.new k2).size
  have HW3 := Lib.hid hw3
  clear hw3 n3 k2 o2 R1 K1 HB HB1 HNL
  go_wp2_with fail
  rw [← HW3.out]
  clear HW3
  generalize w2.heap.size = g2 at *
  go_loopw [5] (fun i wr => ∃ (k : Nat) (q : List Nat), k ≤ 20 ∧ i = .int .i64 k ∧ Hid (Rdr Any wr g1 q) ∧ Hid (RfQ Any wr g2 q) ∧ Hid (New w wr)) (fun i _ => 20 - (intOf i).toNat)
  case atStart => exact ⟨0, l, by omega, rfl, R3, F3, K3⟩
  case round =>
    obtain ⟨k, q, hk, rfl, HR, HF, HK⟩ := hrel
    clear R3 F3 K3
    by_cases hlt : k < 20
    · go_wp2_with fail
      refine (getKey_any g1 q _ HR.out).mono ?_
      rintro e w4 ⟨rfl, r4, k4⟩
      have hne : g1 ≠ g2 := fun e => HR.out.at_.ne_of (e ▸ HF.out.at_) (by decide) rfl
      obtain ⟨w5, hw5⟩ : ∃ w5, w5 = w4.alloc (.cells #[.int .i64 (gkK q).i, .int .u8 ((gkK q).t : Nat), .string (gkK q).n, .int .i64 (gkK q).c] 23) := ⟨_, rfl⟩
      have n5 : New w4 w5 := by rw [hw5]; exact (Kept.refl _ _).alloc _
      have C5 : Hid (Blk w5 w4.heap.size 23 [.int .i64 (gkK q).i, .int .u8 ((gkK q).t : Nat), .string (gkK q).n, .int .i64 (gkK q).c]) := by rw [hw5]; exact Blk.made w4 _ _
      have R5 := Lib.hid (r4.new n5)
      have F5 := Lib.hid ((HF.out.kept k4 (fun e => hne e.symm) (fun _ e _ ht => by subst e; exact ht.ne_of HR.out.at_ (by decide) rfl)).new n5)
      have K5 := Lib.hid ((HK.out.trans k4 fun i hi e => by omega).new n5)
      have hg4 : g2 < w4.heap.size := Nat.lt_of_lt_of_le HF.out.at_.lt k4.size
      have HW5 := Lib.hid hw5
      clear hw5 n5 r4 k4 HR HF HK
      go_wp2_with fail
      rw [← HW5.out]
      clear HW5
      generalize w4.heap.size = g5 at *
      refine (rgetKey_any g2 q _ F5.out).mono ?_
      rintro e w6 ⟨rfl, r6, k6⟩
      obtain ⟨w7, hw7⟩ : ∃ w7, w7 = w6.alloc (.cells #[.int .i64 (gkK q).i, .int .u8 ((gkK q).t : Nat), .string (gkK q).n, .int .i64 (gkK q).c] 23) := ⟨_, rfl⟩
      have n7 : New w6 w7 := by rw [hw7]; exact (Kept.refl _ _).alloc _
      have C6 : Hid (Blk w6 g5 23 [.int .i64 (gkK q).i, .int .u8 ((gkK q).t : Nat), .string (gkK q).n, .int .i64 (gkK q).c]) := C5.out.kept k6 (by omega)
      have F7 := Lib.hid (r6.new n7)
      have R7 := Lib.hid ((R5.out.kept k6 hne (fun _ e _ ht => by subst e; exact ht.ne_of F5.out.at_ (by decide) rfl)).new n7)
      have K7 := Lib.hid ((K5.out.trans k6 fun i hi e => by omega).new n7)
      have HW7 := Lib.hid hw7
      have HQ := key_same (gkK q)
      clear hw7 n7 r6 k6 R5 F5 K5 C5
      obtain ⟨a0, a1, a2, a3⟩ := cells4 C6.out
      have hg6 : g5 < w6.heap.size := C6.out.lt
      generalize gkK q = kk at *
      go_wp2_with fail
      rw [← HW7.out]
      refine (eleft_any g1 _ _ R7.out).mono ?_
      rintro e w8 ⟨rfl, rfl⟩
      go_wp2_with fail
      obtain ⟨l8, rf8, f8, e8⟩ := F7.out
      refine (rleft_any g2 l8 rf8 _ f8).mono ?_
      rw [e8]
      rintro e w9 ⟨rfl, rfl⟩
      clear f8 e8 HW7 C6 a0 a1 a2 a3
      generalize (tkR q).length = z at *
      go_wp2
      go_roundw
      case rel => exact ⟨k + 1, tkR q, by omega, by go_num, R7, F7, K7⟩
      case measure => simp [intOf]; omega
    · go_wp2_with fail
      refine (works6_any _).mono ?_
      rintro e w9 ⟨rfl, k9⟩
      have K9 : Hid (New w w9) := HK.out.new k9
      clear k9
      go_wp2
      go_ret
      exact ⟨rfl, K9.out⟩

set_option maxRecDepth 100000 in
theorem lifted (os : Os) (started : os.Started) (H : Type) (enc : TypeId × Value → H) :
    ReturnsInHanded {} Try.checked os 4 .any (Rows.factReadsSpec.pre6 enc Try.prog Try.f4 Rows.factReadsRow.domain false) (Rows.factReadsSpec.post enc Try.prog Try.f4 false true false false) := by
  refine lift_new (C := Try.checked) (s := Rows.factReadsSpec) (tb := 4) own started (by kernel_rfl) Try.func4
    (ChangeSpec.witness6 (enc := enc) (C := Try.checked) false ⟨#[], #[.slice none 0 0], []⟩ 8 (by kernel_rfl) (by kernel_rfl) (by kernel_rfl) (by kernel_rfl))
    rfl (by kernel_rfl) Try.underlying4 ?_ laidOut (of_decide_eq_true (by kernel_rfl)) ?_
  · intro ds hd
    match ds, hd with
    | [d0], _ => exact ⟨rfl, rfl, rfl⟩
  · intro W base args ds hA
    have hA : Args enc Try.prog W base Try.f4.params.toList args.toList ds := hA
    rw [Try.params4] at hA
    obtain ⟨v0, vs0, d0, ds0, p0, hargs, rfl, a0, hA⟩ := hA.cons_
    obtain ⟨rfl, rfl⟩ := hA.nil_
    obtain rfl : args = #[v0] := by cases args; simp_all
    obtain ⟨A0, n0, c0, l0, b0⟩ := a0.bytes_ Try.underlying24 Try.underlying5 (by kernel_rfl) (by kernel_rfl)
    obtain rfl := b0.val
    exact walk A0 n0 c0 l0 W b0

theorem over : Rows.factReadsRow.holds Try.pinned (OpenSpec.ofChange Rows.factReadsSpec) :=
  OpenClaim.holds_of_wide 4 Try.f4 rfl rfl rfl rfl rfl rfl rfl ⟨rfl, rfl, rfl, rfl, rfl⟩ rfl rfl rfl rfl rfl (by kernel_rfl) Try.func4 (by kernel_rfl)
    (of_decide_eq_true (by kernel_rfl)) (by unfold Func.isWrapper; first | (rw [if_pos (by decide +kernel)]; kernel_rfl) | (rw [if_neg (by decide +kernel)]; exact ⟨rfl, rfl⟩))
    (fun os started H enc _ => lifted os started H enc)

theorem proved : Rows.FactReadsSaid := over
end Go.Proofs.Ytgjipcoobadipaa.factReads
