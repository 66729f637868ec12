/-
  EndsTakes: whatever is taken off of whatever bytes, the answers, and how many are left, are the document's; for every bytes and sizes.
-/
import Derived.Test.YtgeojhopnegdjaaEf
namespace Go.Proofs.Ytgeojhopnegdjaa.endsTakes
open Go.ChangeShapes Go.WideShapes Go.ChangeAt Go.RowKit

theorem own : ownKnob Try.prog.godebug = none := by kernel_rfl
theorem laidOut : laidOutB Try.prog = true := by kernel_rfl

set_option maxRecDepth 100000 in
set_option maxHeartbeats 2000000 in
theorem walk (A : Option Addr) (m c : Nat) (l : List Nat) (B : Option Addr) (n d : Nat) (s : List Int) (w : World) (hb : IsB w (.slice A m c) A m c l) (hi : IsI w .i64 (.slice B n d) B n d s) :
    Calls Try.prog 4 #[.slice A m c, .slice B n d] w (True1 w) := by
  have hm : m ≤ 140737488351232 := by have := hb.le; have := hb.cap; omega
  have hn : n ≤ 9223372036854775807 := by have := hi.le; have := hi.cap; unfold maxLen at this; omega
  have Hb := Lib.hid hb
  have Hi := Lib.hid hi
  clear hb hi
  go_enter Try.func4, Try.ntmps4
  go_wp2_with fail
  refine (new_any A m c l _ Hb.out.bts hm Hb.out.nil).mono ?_
  rintro e w1 ⟨g, rfl, r1, g1, k1⟩
  have R1 := Lib.hid r1.any
  have K1 := Lib.hid k1
  have G1 := Lib.hid g1
  clear r1 k1 g1
  go_wp2_with fail
  refine (copy_any A m c l _ (Hb.out.bts.new K1.out) hm).mono ?_
  rintro e w2 ⟨A2, c2, rfl, o2, k2⟩
  have R2 := Lib.hid (R1.out.new k2)
  have O2 := Lib.hid o2
  have K2 := Lib.hid (K1.out.new k2)
  clear o2 k2 K1 R1
  go_wp2_with fail
  have hal : New w2 (w2.alloc (.cells #[.slice A2 l.length c2, .bool false] 37)) := (Kept.refl _ _).alloc _
  have F3 : Hid (Ref Any (w2.alloc (.cells #[.slice A2 l.length c2, .bool false] 37)) w2.heap.size l false) :=
    ⟨A2, c2, Blk.made w2 _ _, O2.out.bts.new hal, fun a h => ⟨trivial, (O2.out.at_ a h).1.kept hal (fun f => f)⟩, O2.out.le⟩
  have R3 := Lib.hid (R2.out.new hal)
  have K3 := Lib.hid (K2.out.new hal)
  have G2 : Hid (w.heap.size ≤ w2.heap.size) := K2.out.size
  clear hal O2 R2 K2
  go_loopw [7] (fun i wr => ∃ (k : Nat) (q q2 : List Nat) (rf : Bool), k ≤ n ∧ i = .int .i64 k ∧ Rdr Any wr g q ∧ Ref Any wr w2.heap.size q2 rf ∧ lft q2 rf = q ∧ New w wr) (fun i _ => n - (intOf i).toNat)
  case atStart => exact ⟨0, l, l, false, by omega, rfl, R3.out, F3.out, rfl, K3.out⟩
  case round =>
    obtain ⟨k, q, q2, rf, hk, rfl, hr, hf, hq, hnew⟩ := hrel
    have HR := Lib.hid hr
    have HF := Lib.hid hf
    have HK := Lib.hid hnew
    have HQ := Lib.hid hq
    clear hr hf hnew hq R3 F3 K3
    generalize w2.heap.size = g2 at *
    by_cases hend : k < n ∧ k < 60
    · obtain ⟨hkn, hk60⟩ := hend
      obtain ⟨gb, o, x, rfl, hx, hxw, hcw⟩ := Hi.out.ins.at_ hkn
      have hc := HK.out.cell hcw (fun f => f)
      have HC := Lib.hid hcw
      clear hx hxw hcw
      by_cases hz : x = 0
      · subst hz
        go_wp2_with fail
        refine (erow2_any g q _ HR.out).mono ?_
        rintro e w3 ⟨A3, c3, rfl, o3, r3, k3⟩
        have O3 := Lib.hid o3
        have R3 := Lib.hid r3
        have F3 := Lib.hid (HF.out.keptR k3 HR.out.at_)
        have K3 := Lib.hid (HK.out.trans k3 fun i hi e => by have := G1.out; omega)
        clear o3 r3 k3 HR HF HK
        go_wp2_with fail
        refine (rrow2_any g2 q2 rf _ F3.out).mono ?_
        rintro e w4 ⟨A4, c4, q4, rf4, rfl, o4, f4, hq4, k4⟩
        rw [HQ.out] at o4 hq4 ⊢
        have O4 := Lib.hid o4
        have F4 := Lib.hid f4
        have R4 := Lib.hid (R3.out.keptF k4 F3.out.at_)
        have O34 := Lib.hid (O3.out.keptF k4 F3.out.at_)
        have HQ4 := Lib.hid hq4
        have K4 := Lib.hid (K3.out.trans k4 fun i hi e => by have := G2.out; omega)
        clear o4 f4 k4 hq4 O3 R3 F3 K3
        go_wp2_with fail
        refine (same_eq _ _ _ _ _ _ _ O34.out.bts O4.out.bts (Nat.le_trans O34.out.le.1 O34.out.le.2)).mono ?_
        rintro e w5 ⟨d5, rfl, hw5⟩
        have K5 : Hid (New w w5) := by rw [hw5]; exact K4.out.drewN d5
        have R5 : Hid (Rdr Any w5 g (rwR q)) := by rw [hw5]; exact R4.out.drewN d5
        have F5 : Hid (Ref Any w5 g2 q4 rf4) := by rw [hw5]; exact F4.out.drewN d5
        clear hw5 K4 R4 F4 O34 O4
        go_wp2_with (first
          | (go_at_call 19; refine (eleft_any g _ _ R5.out).mono ?_; rintro e w6 ⟨rfl, rfl⟩)
          | (go_at_call 20; refine (rleft_any g2 _ _ _ F5.out).mono ?_; rw [HQ4.out]; rintro e w6 ⟨rfl, rfl⟩))
        go_roundw
        case rel => exact ⟨k + 1, _, q4, rf4, by omega, by go_num, R5.out, F5.out, HQ4.out, K5.out⟩
        case measure => simp [intOf]; omega
      · have hz' : (x == 0) = false := beq_eq_false_iff_ne.2 hz
        go_wp2_with fail
        refine (etake_any g q x _ HR.out).mono ?_
        rintro e w3 ⟨rfl, r3, k3⟩
        have R3 := Lib.hid r3
        have F3 := Lib.hid (HF.out.keptR k3 HR.out.at_)
        have K3 := Lib.hid (HK.out.trans k3 fun i hi e => by have := G1.out; omega)
        clear r3 k3 HR HF HK hc
        have hc := K3.out.cell HC.out (fun f => f)
        go_wp2_with fail
        refine (rtake_any g2 q2 rf x _ F3.out).mono ?_
        rintro e w4 ⟨q4, rf4, rfl, f4, hq4, k4⟩
        rw [HQ.out] at hq4 ⊢
        have F4 := Lib.hid f4
        have R4 := Lib.hid (R3.out.keptF k4 F3.out.at_)
        have HQ4 := Lib.hid hq4
        have K4 := Lib.hid (K3.out.trans k4 fun i hi e => by have := G2.out; omega)
        clear f4 k4 hq4 R3 F3 K3 hc
        go_wp2_with (first
          | (go_at_call 19; refine (eleft_any g _ _ R4.out).mono ?_; rintro e w6 ⟨rfl, rfl⟩)
          | (go_at_call 20; refine (rleft_any g2 _ _ _ F4.out).mono ?_; rw [HQ4.out]; rintro e w6 ⟨rfl, rfl⟩))
        go_roundw
        case rel => exact ⟨k + 1, _, q4, rf4, by omega, by go_num, R4.out, F4.out, HQ4.out, K4.out⟩
        case measure => simp [intOf]; omega
    · clear Hi Hb
      rcases Nat.lt_or_ge k n with hkn | hkn
      · have h60 : 60 ≤ k := by omega
        clear hend
        go_wp2_with (go_at_call 14; refine (works_any _).mono ?_; rintro e w7 ⟨rfl, hk⟩; have HK7 := Lib.hid hk; clear hk)
        go_ret
        exact ⟨rfl, HK.out.new HK7.out⟩
      · clear hend
        go_wp2_with (go_at_call 14; refine (works_any _).mono ?_; rintro e w7 ⟨rfl, hk⟩; have HK7 := Lib.hid hk; clear hk)
        go_ret
        exact ⟨rfl, HK.out.new HK7.out⟩

set_option maxRecDepth 100000 in
theorem lifted (os : Os) (started : os.Started) (H : Type) (enc : TypeId × Value → H) :
    ReturnsInHanded {} Try.checked os 4 .any (Rows.endsTakesSpec.pre6 enc Try.prog Try.f4 Rows.endsTakesRow.domain false) (Rows.endsTakesSpec.post enc Try.prog Try.f4 false true false false) := by
  refine lift_new (C := Try.checked) (s := Rows.endsTakesSpec) (tb := 4) own started (by kernel_rfl) Try.func4
    (ChangeSpec.witness6 (enc := enc) (C := Try.checked) false ⟨#[], #[.slice none 0 0, .slice none 0 0], []⟩ 8 (by kernel_rfl) (by kernel_rfl) (by kernel_rfl) (by kernel_rfl))
    rfl (by kernel_rfl) Try.underlying4 ?_ laidOut (of_decide_eq_true (by kernel_rfl)) ?_
  · intro ds hd
    match ds, hd with
    | [d0, d1], _ => exact ⟨rfl, rfl, rfl⟩
  · intro W base args ds hA
    have hA : Args enc Try.prog W base Try.f4.params.toList args.toList ds := hA
    rw [Try.params4] at hA
    obtain ⟨v0, vs0, d0, ds0, p0, hargs, rfl, a0, hA⟩ := hA.cons_
    obtain ⟨v1, vs1, d1, ds1, p1, rfl, rfl, a1, hA⟩ := hA.cons_
    obtain ⟨rfl, rfl⟩ := hA.nil_
    obtain rfl : args = #[v0, v1] := by cases args; simp_all
    obtain ⟨A0, n0, c0, l0, b0⟩ := a0.bytes_ Try.underlying23 Try.underlying5 (by kernel_rfl) (by kernel_rfl)
    obtain rfl := b0.val
    obtain ⟨A1, n1, c1, l1, b1⟩ := a1.intsK Try.underlying31 Try.underlying3 (by kernel_rfl)
    obtain rfl := b1.val
    exact walk A0 n0 c0 l0 A1 n1 c1 l1 W b0 b1

theorem over : Rows.endsTakesRow.holds Try.pinned (OpenSpec.ofChange Rows.endsTakesSpec) :=
  OpenClaim.holds_of_wide 4 Try.f4 rfl rfl rfl rfl rfl rfl rfl ⟨rfl, rfl, rfl, rfl, rfl⟩ rfl rfl rfl rfl rfl (by kernel_rfl) Try.func4 (by kernel_rfl)
    (of_decide_eq_true (by kernel_rfl)) (by unfold Func.isWrapper; first | (rw [if_pos (by decide +kernel)]; kernel_rfl) | (rw [if_neg (by decide +kernel)]; exact ⟨rfl, rfl⟩))
    (fun os started H enc _ => lifted os started H enc)

theorem proved : Rows.EndsTakesSaid := over
end Go.Proofs.Ytgeojhopnegdjaa.endsTakes
