/-
  EndsRefused: behind a refusal all is refused; for every bytes and size.
-/
import Derived.Test.YtgeojhopnegdjaaEe
namespace Go.Proofs.Ytgeojhopnegdjaa.endsRefused
open Go.ChangeShapes Go.WideShapes Go.ChangeAt Go.RowKit

theorem own : ownKnob Try.prog.godebug = none := by kernel_rfl
theorem laidOut : laidOutB Try.prog = true := by kernel_rfl

theorem take8_no (l : List Nat) (h : l.length < 8) : takeE l 8 = 4 ∧ takeL l 8 = [] := by
  have h8 : isSz 8 := by decide
  have e : (8 : Int).toNat = 8 := rfl
  unfold takeE takeL
  rw [if_pos h8, if_pos h8, e, if_neg (by omega), if_neg (by omega)]
  exact ⟨rfl, rfl⟩
theorem take8_yes (l : List Nat) (h : 8 ≤ l.length) : takeE l 8 = 0 ∧ takeL l 8 = l.drop 8 := by
  have h8 : isSz 8 := by decide
  have e : (8 : Int).toNat = 8 := rfl
  unfold takeE takeL
  rw [if_pos h8, if_pos h8, e, if_pos h, if_pos h]
  exact ⟨rfl, rfl⟩
theorem take_nil (s : Int) (hs : isSz s) : takeV [] s = 0 ∧ takeE [] s = 4 ∧ takeL [] s = [] := by
  rcases hs with rfl | rfl | rfl | rfl <;> decide

theorem sz_shift (x : Nat) : isSz (wrap64 (2 ^ (x % 4))) := by
  have h : x % 4 = 0 ∨ x % 4 = 1 ∨ x % 4 = 2 ∨ x % 4 = 3 := by omega
  unfold wrap64
  rcases h with h | h | h | h <;> rw [h] <;> decide

set_option maxHeartbeats 1000000 in
theorem walk (A : Option Addr) (m c : Nat) (l : List Nat) (x : Nat) (w : World) (hb : IsB w (.slice A m c) A m c l) (hx : x < 256) :
    Calls Try.prog 6 #[.slice A m c, .int .u8 x] w (True1 w) := by
  have hm : m ≤ 140737488351232 := by have := hb.le; have := hb.cap; omega
  have Hl := Lib.hid hb.bts.1
  have Hb := Lib.hid hb
  clear hb
  go_enter Try.func6, Try.ntmps6
  go_wp2_with fail
  refine (new_any A m c l _ Hb.out.bts hm Hb.out.nil).mono ?_
  rintro e w1 ⟨g, rfl, r1, g1, k1⟩
  have R1 := Lib.hid r1.any
  have K1 := Lib.hid k1
  have G1 := Lib.hid g1
  clear r1 k1 g1 Hb
  go_wp2_with fail
  go_loopw [6] (fun i wr => ∃ (k : Nat) (q : List Nat), 8 * k + q.length ≤ m ∧ i = .int .i64 k ∧ Rdr Any wr g q ∧ New w wr) (fun i _ => m - (intOf i).toNat)
  case atStart => exact ⟨0, l, by have := Hl.out; omega, rfl, R1.out, K1.out⟩
  case round =>
    obtain ⟨k, q, hk8, rfl, hr, hnew⟩ := hrel
    have HR := Lib.hid hr
    have HK := Lib.hid hnew
    clear hr hnew
    by_cases hlt : 8 ≤ q.length
    · go_wp2_with (go_at_call 19; refine (eleft_any g _ _ HR.out).mono ?_; rintro e w2 ⟨rfl, rfl⟩)
      refine (etake_any g _ 8 _ HR.out).mono ?_
      rintro e w3 ⟨rfl, r3, k3⟩
      have h8 := take8_yes q hlt
      rw [h8.2] at r3
      rw [h8.1]
      have R3 := Lib.hid r3
      have K3 := Lib.hid (HK.out.trans k3 fun i hi e => by have := G1.out; omega)
      clear r3 k3 h8
      go_wp2
      go_roundw
      case rel => exact ⟨k + 1, q.drop 8, by rw [List.length_drop]; omega, by go_num, R3.out, K3.out⟩
      case measure => simp [intOf]; omega
    · go_wp2_with (go_at_call 19; refine (eleft_any g _ _ HR.out).mono ?_; rintro e w2 ⟨rfl, rfl⟩)
      refine (etake_any g _ 8 _ HR.out).mono ?_
      rintro e w3 ⟨rfl, r3, k3⟩
      have h8 := take8_no q (by omega)
      rw [h8.2] at r3
      rw [h8.1]
      have R3 := Lib.hid r3
      have K3 := Lib.hid (HK.out.trans k3 fun i hi e => by have := G1.out; omega)
      clear r3 k3 h8 HR HK
      go_wp2_with fail
      have hs := sz_shift x
      generalize wrap64 (2 ^ (x % 4)) = z at *
      have HS := Lib.hid hs
      clear hs
      refine (etake_any g [] z _ R3.out).mono ?_
      rintro e w4 ⟨rfl, r4, k4⟩
      have hz := take_nil z HS.out
      rw [hz.2.2] at r4
      rw [hz.2.1, hz.1]
      have R4 := Lib.hid r4
      have K4 := Lib.hid (K3.out.trans k4 fun i hi e => by have := G1.out; omega)
      clear r4 k4 R3 K3 hz
      go_wp2_with fail
      refine (erow_nil g _ R4.out).mono ?_
      rintro e w5 ⟨rfl, r5, k5⟩
      have R5 := Lib.hid r5
      have K5 := Lib.hid (K4.out.trans k5 fun i hi e => by have := G1.out; omega)
      clear r5 k5 R4 K4
      go_wp2_with (first | (go_at_call 19; refine (eleft_any g _ _ R5.out).mono ?_; rintro e w6 ⟨rfl, rfl⟩) | (go_at_call 14; refine (works_any _).mono ?_; rintro e w7 ⟨rfl, hk⟩; have HK7 := Lib.hid hk; clear hk))
      go_ret
      exact ⟨rfl, K5.out.new HK7.out⟩

set_option maxRecDepth 100000 in
theorem lifted (os : Os) (started : os.Started) (H : Type) (enc : TypeId × Value → H) :
    ReturnsInHanded {} Try.checked os 6 .any (Rows.endsRefusedSpec.pre6 enc Try.prog Try.f6 Rows.endsRefusedRow.domain false) (Rows.endsRefusedSpec.post enc Try.prog Try.f6 false true false false) := by
  refine lift_new (C := Try.checked) (s := Rows.endsRefusedSpec) (tb := 4) own started (by kernel_rfl) Try.func6
    (ChangeSpec.witness6 (enc := enc) (C := Try.checked) false ⟨#[], #[.slice none 0 0, .int .u8 0], []⟩ 8 (by kernel_rfl) (by kernel_rfl) (by kernel_rfl) (by kernel_rfl))
    rfl (by kernel_rfl) Try.underlying4 ?_ laidOut (of_decide_eq_true (by kernel_rfl)) ?_
  · intro ds hd
    match ds, hd with
    | [d0, d1], _ => exact ⟨rfl, rfl, rfl⟩
  · intro W base args ds hA
    have hA : Args enc Try.prog W base Try.f6.params.toList args.toList ds := hA
    rw [Try.params6] at hA
    obtain ⟨v0, vs0, d0, ds0, p0, hargs, rfl, a0, hA⟩ := hA.cons_
    obtain ⟨v1, vs1, d1, ds1, p1, rfl, rfl, a1, hA⟩ := hA.cons_
    obtain ⟨rfl, rfl⟩ := hA.nil_
    obtain rfl : args = #[v0, v1] := by cases args; simp_all
    obtain ⟨A0, n0, c0, l0, b0⟩ := a0.bytes_ Try.underlying23 Try.underlying5 (by kernel_rfl) (by kernel_rfl)
    obtain rfl := b0.val
    obtain ⟨y1, rfl, w1⟩ := a1.int_ Try.underlying5
    obtain ⟨x1, rfl, h1⟩ := u8_nat w1
    exact walk A0 n0 c0 l0 x1 W b0 h1

theorem over : Rows.endsRefusedRow.holds Try.pinned (OpenSpec.ofChange Rows.endsRefusedSpec) :=
  OpenClaim.holds_of_wide 6 Try.f6 rfl rfl rfl rfl rfl rfl rfl ⟨rfl, rfl, rfl, rfl, rfl⟩ rfl rfl rfl rfl rfl (by kernel_rfl) Try.func6 (by kernel_rfl)
    (of_decide_eq_true (by kernel_rfl)) (by unfold Func.isWrapper; first | (rw [if_pos (by decide +kernel)]; kernel_rfl) | (rw [if_neg (by decide +kernel)]; exact ⟨rfl, rfl⟩))
    (fun os started H enc _ => lifted os started H enc)

theorem proved : Rows.EndsRefusedSaid := over
end Go.Proofs.Ytgeojhopnegdjaa.endsRefused
