/-
  Contract: the numbers that the document tells.
-/
import Derived.Test.YtlbbhfapmmcehaaJi
import Derived.Test.YtlbbhfapmmcehaaJd
import Derived.Test.YtlbbhfapmmcehaaJf
namespace Go.Proofs.Ytlbbhfapmmcehaa
set_option maxRecDepth 100000
open Go.RowKit

/-- The change of the chapter's example. -/
def wkC : CT := ⟨⟨5, 1, ⟨#[]⟩, 0⟩, [], true⟩

theorem wk_put : puL 128 [wkC] = page 128 2 [1, 0, 5, 0, 1] ∧ puE 128 [wkC] = 0 := by
  have h1 : tlOk [wkC] = true := by decide +kernel
  have h2 : bdK [wkC] [wkC].length = [1, 0, 5, 0, 1] := by decide +kernel
  obtain ⟨e1, e2⟩ := pu_yes2 (z := 128) h1
  rw [e1, e2, h2]
  unfold sPutL sPutE
  rw [if_pos (by decide), if_pos (by decide), if_pos (by decide)]
  exact ⟨rfl, rfl⟩

theorem wk_len : (page 128 2 [1, 0, 5, 0, 1]).length = 128 := page_length 128 2 _ (by simp)

theorem wk_get : sGetE (page 128 2 [1, 0, 5, 0, 1]) = 0 ∧ sGetK (page 128 2 [1, 0, 5, 0, 1]) = 2 ∧ sGetL (page 128 2 [1, 0, 5, 0, 1]) = [1, 0, 5, 0, 1] := get_page 128 2 _ (by decide) (by decide) (by simp)

theorem wk_form : geE [0] = 5 := ge_zero (by decide +kernel) (by decide +kernel)

set_option maxHeartbeats 1600000 in
theorem works11_any (w : World) : Calls Try.prog 14 #[] w (True1 w) := by
  have HP := Lib.hid wk_put
  have HL := Lib.hid wk_len
  have HG := Lib.hid wk_get
  have HF := Lib.hid wk_form
  obtain ⟨w0, hw0⟩ : ∃ w0, w0 = w.alloc (.cells #[.int .i64 5, .int .u8 1, .string ⟨#[]⟩, .int .i64 0, .slice none 0 0, .bool true] 50) := ⟨_, rfl⟩
  have K0 : Hid (New w w0) := by rw [hw0]; exact (Kept.refl _ _).alloc _
  have C0 : Hid (CIn w0 (some ⟨w.heap.size, 0, none⟩) 1 [⟨wkC, none, 0⟩]) := by
    refine ⟨⟨rfl, fun _ => ⟨w.heap.size, 0, rfl, fun j v hj => ?_⟩⟩, fun e he => ?_⟩
    · have hb : Blk w0 w.heap.size 50 [.int .i64 5, .int .u8 1, .string ⟨#[]⟩, .int .i64 0, .slice none 0 0, .bool true] := by rw [hw0]; exact Blk.made w _ _
      rw [Nat.zero_add, hb.cell]
      exact hj
    · simp only [List.mem_cons, List.not_mem_nil, or_false] at he
      subst he
      exact ⟨Bts.nil _ _, fun _ => ⟨rfl, rfl⟩, by simp [wkC], by simp [wkC, ByteArray.size, maxLen]⟩
  have CP := fun u hu => Lib.hid (recPut_any 128 (some ⟨w.heap.size, 0, none⟩) 1 1 [⟨wkC, none, 0⟩] u (C0.out.new hu) (by unfold maxLen; omega))
  have HW0 := Lib.hid hw0
  clear hw0 C0
  go_enter Try.func14, Try.ntmps14
  go_wp2_with fail
  rw [← HW0.out]
  clear HW0
  refine (CP _ (Kept.refl _ _)).out.mono ?_
  rintro e w1 ⟨A1, c1, rfl, p1, k1⟩
  have hp : puL 128 (cts [(⟨wkC, none, 0⟩ : CE)]) = page 128 2 [1, 0, 5, 0, 1] := HP.out.1
  have hpe : puE 128 (cts [(⟨wkC, none, 0⟩ : CE)]) = 0 := HP.out.2
  rw [hp] at p1 ⊢
  rw [hpe, HL.out]
  have hc1 : c1 = 128 := by have := p1.cap; rw [HL.out] at this; exact this
  have T1 : Hid (Bts w1 A1 128 (page 128 2 [1, 0, 5, 0, 1])) := by have := p1.bts; rwa [HL.out] at this
  have K1 := Lib.hid (K0.out.new k1)
  subst hc1
  clear p1 k1 hp hpe CP K0 HP
  generalize page 128 2 [1, 0, 5, 0, 1] = P at *
  go_wp2_with fail
  refine (sGet_any A1 128 128 P _ T1.out (by omega) (by omega)).mono ?_
  rintro e w2 ⟨A2, c2, rfl, o2, k2⟩
  rw [HG.out.1, HG.out.2.1, HG.out.2.2]
  have O2 : Hid (Bts w2 A2 5 [1, 0, 5, 0, 1]) := by have := o2.bts; rwa [HG.out.2.2] at this
  have K2 := Lib.hid (K1.out.new k2)
  clear o2 k2 T1 K1
  go_wp2_with fail
  refine (recGet_any (some ⟨w2.heap.size, 0, none⟩) 1 1 [0] _ (Bts.one w2 5 0 _ (by omega) rfl) (by omega) (fun h => by cases h)).mono ?_
  rintro e w3 ⟨A3, c3, es3, rfl, _, _, k3⟩
  rw [HF.out]
  have n3 : New w2 w3 := ((Kept.refl _ w2).alloc _).new k3
  have K3 := Lib.hid (K2.out.new n3)
  have O3 := Lib.hid (O2.out.new n3)
  clear k3 n3 K2 O2
  generalize es3.length = m3 at *
  go_wp2_with fail
  refine (putDrop_any 128 0 _ (by omega)).mono ?_
  rintro e w4 ⟨A4, c4, rfl, _, k4⟩
  rw [show pdE 128 0 = 2 from rfl, show (pdL 128 0).length = 0 from rfl]
  have K4 := Lib.hid (K3.out.new k4)
  have O4 := Lib.hid (O3.out.new k4)
  clear k4 K3 O3
  go_wp2_with fail
  refine (same_eq A2 (some ⟨w4.heap.size, 0, none⟩) 5 c2 5 [1, 0, 5, 0, 1] _ (O4.out.new ((Kept.refl _ _).alloc _)) (Bts.lit w4 5 (0, 0) _ (by decide) _ rfl) (by unfold maxLen; omega)).mono ?_
  rintro e w5 ⟨d5, rfl, rfl⟩
  have K5 : Hid (New w ((w4.alloc (.cells (rawB [1, 0, 5, 0, 1]) 5)).drewN d5)) := (K4.out.alloc _).drewN _
  clear O4 K4
  go_wp2
  go_ret
  exact ⟨rfl, K5.out⟩

theorem works11_k {w0 wc : World} (K : Hid (New w0 wc)) : Calls Try.prog 14 #[] wc fun e w' => e = .returned (.bool true) ∧ New w0 w' := by
  refine (works11_any wc).mono ?_
  rintro e w' ⟨rfl, hk⟩
  exact ⟨rfl, K.out.new hk⟩
end Go.Proofs.Ytlbbhfapmmcehaa
