/-
  Contract: a list of changes copied.
-/
import Derived.Test.YtlbbhfapmmcehaaJa
namespace Go.Proofs.Ytlbbhfapmmcehaa
set_option maxRecDepth 100000
open Go.ChangeShapes Go.WideShapes Go.ChangeAt Go.RowKit Go.Deep
open Go.ChangeShapes Go.WideShapes Go.ChangeAt Go.RowKit

/-- A list of changes: its copy. -/
def CcP (w : World) (l : List CT) (e : Ending) (w' : World) : Prop := ∃ A c es, e = .returned (.slice A es.length c) ∧ cts es = l ∧ COwn w' w.heap.size A c es ∧ New w w'

set_option maxRecDepth 100000 in
set_option maxHeartbeats 6400000 in
theorem copyChanges_any (A : Option Addr) (n c : Nat) (es : List CE) (w : World) (h : CIn w A n es) (hb : n * 72 ≤ 140737488355328) :
    Calls Try.prog 23 #[.slice A n c] w (CcP w (cts es)) := by
  have HL : Hid ((cts es).length = n) := by rw [Hid, cts_lenE, h.len]
  have H := Lib.hid h
  have hnm : n ≤ 1954687338268 := by omega
  clear h
  go_enter Try.func23, Try.ntmps23
  go_wp2_with fail
  go_loopw [3, 4] (fun o i wr => ∃ (k : Nat) (A' : Option Addr) (c' : Nat) (es' : List CE), k ≤ n ∧ i = .int .i64 k ∧ o = .slice A' k c' ∧ Hid (COwn wr w.heap.size A' c' es') ∧ Hid (cts es' = (cts es).take k) ∧ Hid (New w wr)) (fun _ i _ => n - (intOf i).toNat)
  case atStart => exact ⟨0, none, 0, [], Nat.zero_le _, rfl, rfl, COwn.nil _ _, rfl, Kept.refl _ _⟩
  case round =>
    obtain ⟨k, A', c', es', hk, rfl, rfl, VO, VF, VN⟩ := hrel
    have HLN : Hid (es'.length = k) := by
      have h1 := congrArg List.length VF.out
      rw [cts_lenE, List.length_take, HL.out] at h1
      rw [Hid, h1]
      omega
    by_cases hlt : k < n
    · obtain ⟨g, o, x, eA, hx, _, _, _, _, _, _⟩ := (rowC_at (H.out.new VN.out).1 (i := k) hlt)
      have hok : COk wr x := (H.out.new VN.out).2 x (List.mem_of_getElem? hx)
      subst eA
      have HX : Hid (cts es' ++ [x.f] = (cts es).take (k + 1)) := by
        have : (cts es)[k]? = some x.f := by unfold cts; rw [List.getElem?_map, hx]; rfl
        rw [Hid, List.take_add_one, this, VF.out]
        rfl
      have S5 : Hid (∀ u, New w u → u.cell? ⟨g, o + k * 6, none⟩ = some (.int .i64 x.f.k.i) ∧ u.cell? ⟨g, o + k * 6 + 1, none⟩ = some (.int .u8 (x.f.k.t : Nat)) ∧ u.cell? ⟨g, o + k * 6 + 2, none⟩ = some (.string x.f.k.n) ∧ u.cell? ⟨g, o + k * 6 + 3, none⟩ = some (.int .i64 x.f.k.c) ∧ u.cell? ⟨g, o + k * 6 + 4, none⟩ = some (.slice x.A x.f.v.length x.c) ∧ u.cell? ⟨g, o + k * 6 + 5, none⟩ = some (.bool x.f.g)) := fun u hu => by
        obtain ⟨g', o', y', eA', hy', z0, z1, z2, z3, z4, z5⟩ := rowC_at (H.out.new hu).1 (i := k) hlt
        injection eA' with eA'
        injection eA' with e1 e2
        subst e1 e2
        rw [hx] at hy'
        injection hy' with hy'
        subst hy'
        exact ⟨z0, z1, z2, z3, z4, z5⟩
      have CL : Hid (∀ u, New w u → Calls Try.prog 49 #[.slice x.A x.f.v.length x.c] u (RetL u x.f.v)) := fun u hu =>
        copy_any x.A x.f.v.length x.c x.f.v u ((H.out.new hu).2 x (List.mem_of_getElem? hx)).1 hok.2.2.1
      have HOK2 : Hid (x.f.v.length ≤ 140737488351232 ∧ x.f.k.n.size ≤ maxLen) := hok.2.2
      clear hx hok
      obtain ⟨fx, Ax, cx⟩ := x
      obtain ⟨kx, vx, gx⟩ := fx
      dsimp only at *
      have hB5 : w.heap.size ≤ wr.heap.size := VN.out.size
      have hbt : (k + 1) * 72 ≤ 140737488355328 := Nat.le_trans (Nat.mul_le_mul_right 72 (by omega : k + 1 ≤ n)) hb
      have V5r : Hid (OwnV wr 50 6 w.heap.size A' k c' (ces es')) := by have := VO.out.1; rw [HLN.out] at this; exact this
      have ONE : Hid (∀ (A4 : Option Addr) (c4 : Nat), ∀ u ∈ [Value.int .i64 kx.i, .int .u8 (kx.t : Nat), .string kx.n, .int .i64 kx.c, .slice A4 vx.length c4, .bool gx], u.oneCell') := by intro A4 c4 u hu; simp at hu; rcases hu with rfl | rfl | rfl | rfl | rfl | rfl <;> rfl
      have MK : Hid (∀ (wC : World) (A4 : Option Addr) (c4 : Nat), Blk (wC.alloc (.cells #[.int .i64 kx.i, .int .u8 (kx.t : Nat), .string kx.n, .int .i64 kx.c, .slice A4 vx.length c4, .bool gx] 50)) wC.heap.size 50 [.int .i64 kx.i, .int .u8 (kx.t : Nat), .string kx.n, .int .i64 kx.c, .slice A4 vx.length c4, .bool gx]) := fun wC A4 c4 => Blk.made wC _ _
      have s1 : (0 : Int) ≤ (k : Int) := by omega
      have s3 : (k : Int) < (n : Int) := by omega
      obtain ⟨q0, q1, q2, q3, q4, q5⟩ := S5.out wr VN.out
      go_wp2_with fail
      go_region_law (first
        | (with_reducible refine step_append_change (wb := wr) (o := ⟨some 30, _, _, _, _, _⟩) rfl (.tmp 11) (.tmp 29) rfl w.heap.size A' k c' (ces es') ?_ V5r.out (by first | exact NC.out.alloc _ | exact (NC.out.alloc _).drew) wC.heap.size 1 [.int .i64 kx.i, .int .u8 (kx.t : Nat), .string kx.n, .int .i64 kx.c, .slice A4 vx.length c4, .bool gx] ?_ (by first | exact MK.out wC A4 c4 | exact (MK.out wC A4 c4).drew) rfl (ONE.out A4 c4) hbt hB5 ?_; (next => go_simp); (next => go_simp); intro A7 c7 w7 O7 K7 D7 K8)
        | (go_simp; go_at_call 49; refine (CL.out _ (by first | exact VN.out | exact VN.out.drew)).mono ?_; rintro e wC ⟨A4, c4, rfl, o4, k4⟩; have NC : Hid (New wr wC) := (by first | exact k4 | exact (Kept.refl _ _).drew.new k4); have O4 : Hid (OwnB wC 5 w.heap.size A4 c4 vx) := o4.mono hB5; clear o4 k4; obtain ⟨s0, s1, s2, s3, s4, s5⟩ := S5.out wC (VN.out.new NC.out)))
      all_goals
        have O8 : Hid (OwnB w7 5 w.heap.size A4 c4 vx) := (O4.out.new (w' := wC.alloc (.cells #[.int .i64 kx.i, .int .u8 (kx.t : Nat), .string kx.n, .int .i64 kx.c, .slice A4 vx.length c4, .bool gx] 50)) ((Kept.refl _ _).alloc _)).kept (S := InRow A')
          (by first | exact K8.out | exact ((Kept.refl (InRow A') _).drew.trans K8.out fun _ _ h => h)) fun a ha ⟨b, hb, e2⟩ => (O4.out.at_ a ha).1.ne_of (e2 ▸ ((V5r.out.new NC.out).at_ b hb).1) (by decide) rfl
        have E1 : Hid (COwn w7 w.heap.size A7 c7 (es' ++ [⟨⟨kx, vx, gx⟩, A4, c4⟩])) := COwn.more VO.out O8.out HOK2.out K7.out HLN.out O7.out
        have E2 : Hid (cts (es' ++ [⟨⟨kx, vx, gx⟩, A4, c4⟩]) = (cts es).take (k + 1)) := by rw [Hid, cts_append]; exact HX.out
        have E3 : Hid (New w w7) := new_row VN.out V5r.out K7.out
        clear O7 K7 D7 K8 O4 O8 VO V5r NC VF s0 s1 s2 s3 s4 s5 q0 q1 q2 q3 q4 q5
        go_wp2
        go_roundw
        case rel => exact ⟨k + 1, A7, c7, _, by omega, by go_num, rfl, E1, E2, E3⟩
        case measure => simp [intOf]; omega
    · have hkn : k = n := by omega
      have E9 : Hid (CcP w (cts es) (.returned (.slice A' k c')) wr) := by
        have hf := VF.out
        rw [List.take_of_length_le (by rw [HL.out]; omega)] at hf
        exact ⟨A', c', es', by rw [HLN.out], hf, VO.out, VN.out⟩
      clear VO VF VN
      go_wp2
      go_ret
      exact E9.out

end Go.Proofs.Ytlbbhfapmmcehaa
