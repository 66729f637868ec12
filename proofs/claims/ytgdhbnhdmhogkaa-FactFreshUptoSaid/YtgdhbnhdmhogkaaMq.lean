/-
  The library's exchange of two ranges of changes.
-/
import Derived.Test.YtgdhbnhdmhogkaaMp
namespace Go.Proofs.Ytgdhbnhdmhogkaa
open Go.ChangeShapes Go.WideShapes Go.ChangeAt Go.RowKit

theorem set_two {α : Type} (L1 L2 L3 : List α) (x z : α) : ((L1 ++ x :: (L2 ++ z :: L3)).set L1.length z).set (L1.length + 1 + L2.length) x = L1 ++ z :: (L2 ++ x :: L3) := by
  induction L1 with
  | nil =>
    rw [List.length_nil, Nat.zero_add, Nat.add_comm 1]
    simp only [List.nil_append, List.set_cons_zero, List.set_cons_succ]
    congr 1
    induction L2 with
    | nil => rfl
    | cons p L2 ih => simp only [List.cons_append, List.length_cons, List.set_cons_succ, ih]
  | cons p L1 ih =>
    rw [List.length_cons, show L1.length + 1 + 1 + L2.length = (L1.length + 1 + L2.length) + 1 by omega]
    simp only [List.cons_append, List.set_cons_succ, ih]

/-- What a call that only turns the row to l leaves. -/
def RwcP (w : World) (g : Nat) (sp : List Value) (l : List CE) (e : Ending) (w' : World) : Prop := e = .returned (.tuple #[]) ∧ Blk w' g 45 (ces l ++ sp) ∧ Kept (· = g) w w'

set_option maxRecDepth 100000 in
set_option maxHeartbeats 6400000 in
theorem swapR_any (g n c a b m : Nat) (P X Y Z S : List CE) (sp : List Value) (f : Value) (w : World) (hb : Blk w g 45 (ces (P ++ (X ++ (Y ++ (Z ++ S)))) ++ sp)) (ha : P.length = a) (hX : X.length = m) (hZ : Z.length = m) (hY : a + m + Y.length = b) (hbn : b + m ≤ n) (hn : n ≤ 140737488351232) :
    Calls Try.prog 58 #[.slice (some ⟨g, 0, none⟩) n c, .int .i64 (a : Nat), .int .i64 (b : Nat), .int .i64 (m : Nat), f] w (RwcP w g sp (P ++ (Z ++ (Y ++ (X ++ S))))) := by
  have HB := Lib.hid hb
  have HP : Hid (P.length = a) := ha
  have HX : Hid (X.length = m) := hX
  have HZ : Hid (Z.length = m) := hZ
  have HY : Hid (a + m + Y.length = b) := hY
  have hab : a + m ≤ b := by omega
  clear hb ha hX hZ hY
  go_enter Try.func58, Try.ntmps58
  go_wp2_with fail
  go_loopw [10] (fun ti wr => ∃ k : Nat, k ≤ m ∧ ti = .int .i64 k ∧ Hid (Blk wr g 45 (ces (P ++ ((Z.take k ++ X.drop k) ++ (Y ++ ((X.take k ++ Z.drop k) ++ S)))) ++ sp)) ∧ Hid (Kept (· = g) w wr)) (fun ti _ => m - (intOf ti).toNat)
  case atStart => exact ⟨0, Nat.zero_le _, rfl, HB, Kept.refl _ _⟩
  case round =>
    obtain ⟨k, hk, rfl, UB, UK⟩ := hrel
    by_cases hlt : k < m
    · obtain ⟨x, hxk⟩ : ∃ x, X[k]? = some x := ⟨_, List.getElem?_eq_getElem (by rw [HX.out]; exact hlt)⟩
      obtain ⟨z, hzk⟩ : ∃ z, Z[k]? = some z := ⟨_, List.getElem?_eq_getElem (by rw [HZ.out]; exact hlt)⟩
      have hdx : X.drop k = x :: X.drop (k + 1) := by
        obtain ⟨h1, e1⟩ := List.getElem?_eq_some_iff.1 hxk
        rw [List.drop_eq_getElem_cons h1, e1]
      have hdz : Z.drop k = z :: Z.drop (k + 1) := by
        obtain ⟨h1, e1⟩ := List.getElem?_eq_some_iff.1 hzk
        rw [List.drop_eq_getElem_cons h1, e1]
      have htx : X.take (k + 1) = X.take k ++ [x] := by rw [List.take_add_one, hxk]; rfl
      have htz : Z.take (k + 1) = Z.take k ++ [z] := by rw [List.take_add_one, hzk]; rfl
      have hl1 : (P ++ Z.take k).length = a + k := by rw [List.length_append, HP.out, List.length_take, HZ.out]; omega
      have hl2 : a + k + 1 + (X.drop (k + 1) ++ (Y ++ X.take k)).length = b + k := by
        rw [List.length_append, List.length_append, List.length_take, List.length_drop, HX.out]
        have := HY.out
        omega
      have hform : P ++ ((Z.take k ++ X.drop k) ++ (Y ++ ((X.take k ++ Z.drop k) ++ S))) = (P ++ Z.take k) ++ x :: ((X.drop (k + 1) ++ (Y ++ X.take k)) ++ z :: (Z.drop (k + 1) ++ S)) := by
        rw [hdx, hdz]
        simp only [List.append_assoc, List.cons_append]
      have hform2 : P ++ ((Z.take (k + 1) ++ X.drop (k + 1)) ++ (Y ++ ((X.take (k + 1) ++ Z.drop (k + 1)) ++ S))) = (P ++ Z.take k) ++ z :: ((X.drop (k + 1) ++ (Y ++ X.take k)) ++ x :: (Z.drop (k + 1) ++ S)) := by
        rw [htx, htz]
        simp only [List.append_assoc, List.cons_append, List.nil_append]
      rw [hform] at UB
      have HF2 := Lib.hid hform2
      clear hform hform2 hdx hdz htx htz hxk hzk
      have HST := Lib.hid (set_two (P ++ Z.take k) (X.drop (k + 1) ++ (Y ++ X.take k)) (Z.drop (k + 1) ++ S) x z)
      rw [hl1, hl2] at HST
      have hx : ((P ++ Z.take k) ++ x :: ((X.drop (k + 1) ++ (Y ++ X.take k)) ++ z :: (Z.drop (k + 1) ++ S)))[a + k]? = some x := by
        rw [List.getElem?_append_right (by omega), hl1, Nat.sub_self]
        rfl
      have hz : ((P ++ Z.take k) ++ x :: ((X.drop (k + 1) ++ (Y ++ X.take k)) ++ z :: (Z.drop (k + 1) ++ S)))[b + k]? = some z := by
        rw [List.getElem?_append_right (by omega), hl1, show b + k - (a + k) = (X.drop (k + 1) ++ (Y ++ X.take k)).length + 1 by omega, List.getElem?_cons_succ, List.getElem?_append_right (Nat.le_refl _), Nat.sub_self]
        rfl
      have HL1 := Lib.hid (List.getElem?_eq_some_iff.1 hx).1
      have HL2 := Lib.hid (List.getElem?_eq_some_iff.1 hz).1
      have a0 : wr.cell? ⟨g, (a + k) * 6, none⟩ = some (.int .i64 x.f.k.i) := crow_cell (j := 0) UB.out hx (by omega) rfl
      have a1 : wr.cell? ⟨g, (a + k) * 6 + 1, none⟩ = some (.int .u8 (x.f.k.t : Nat)) := crow_cell (j := 1) UB.out hx (by omega) rfl
      have a2 : wr.cell? ⟨g, (a + k) * 6 + 2, none⟩ = some (.string x.f.k.n) := crow_cell (j := 2) UB.out hx (by omega) rfl
      have a3 : wr.cell? ⟨g, (a + k) * 6 + 3, none⟩ = some (.int .i64 x.f.k.c) := crow_cell (j := 3) UB.out hx (by omega) rfl
      have a4 : wr.cell? ⟨g, (a + k) * 6 + 4, none⟩ = some (.slice x.A x.f.v.length x.c) := crow_cell (j := 4) UB.out hx (by omega) rfl
      have a5 : wr.cell? ⟨g, (a + k) * 6 + 5, none⟩ = some (.bool x.f.g) := crow_cell (j := 5) UB.out hx (by omega) rfl
      have b0 : wr.cell? ⟨g, (b + k) * 6, none⟩ = some (.int .i64 z.f.k.i) := crow_cell (j := 0) UB.out hz (by omega) rfl
      have b1 : wr.cell? ⟨g, (b + k) * 6 + 1, none⟩ = some (.int .u8 (z.f.k.t : Nat)) := crow_cell (j := 1) UB.out hz (by omega) rfl
      have b2 : wr.cell? ⟨g, (b + k) * 6 + 2, none⟩ = some (.string z.f.k.n) := crow_cell (j := 2) UB.out hz (by omega) rfl
      have b3 : wr.cell? ⟨g, (b + k) * 6 + 3, none⟩ = some (.int .i64 z.f.k.c) := crow_cell (j := 3) UB.out hz (by omega) rfl
      have b4 : wr.cell? ⟨g, (b + k) * 6 + 4, none⟩ = some (.slice z.A z.f.v.length z.c) := crow_cell (j := 4) UB.out hz (by omega) rfl
      have b5 : wr.cell? ⟨g, (b + k) * 6 + 5, none⟩ = some (.bool z.f.g) := crow_cell (j := 5) UB.out hz (by omega) rfl
      have f0 := UB.out.free ((a + k) * 6)
      have f1 := UB.out.free ((a + k) * 6 + 1)
      have f2 := UB.out.free ((a + k) * 6 + 2)
      have f3 := UB.out.free ((a + k) * 6 + 3)
      have f4 := UB.out.free ((a + k) * 6 + 4)
      have f5 := UB.out.free ((a + k) * 6 + 5)
      have h0 := UB.out.free ((b + k) * 6)
      have h1 := UB.out.free ((b + k) * 6 + 1)
      have h2 := UB.out.free ((b + k) * 6 + 2)
      have h3 := UB.out.free ((b + k) * 6 + 3)
      have h4 := UB.out.free ((b + k) * 6 + 4)
      have h5 := UB.out.free ((b + k) * 6 + 5)
      have s1 : (0 : Int) ≤ (a : Int) + (k : Int) := by omega
      have s2 : ((a : Int) + (k : Int)).toNat = a + k := by omega
      have s3 : (a : Int) + (k : Int) < (n : Int) := by omega
      have s4 : (0 : Int) ≤ (b : Int) + (k : Int) := by omega
      have s5 : ((b : Int) + (k : Int)).toNat = b + k := by omega
      have s6 : (b : Int) + (k : Int) < (n : Int) := by omega
      clear hx hz hl1 hl2
      generalize (P ++ Z.take k) ++ x :: ((X.drop (k + 1) ++ (Y ++ X.take k)) ++ z :: (Z.drop (k + 1) ++ S)) = L at *
      go_wp2_with fail
      go_region
      all_goals
        obtain ⟨w5, hw5⟩ : ∃ w5, w5 = ((((((wr.setCell ⟨g, (a + k) * 6, none⟩ (.int .i64 z.f.k.i)).setCell ⟨g, (a + k) * 6 + 1, none⟩ (.int .u8 (z.f.k.t : Nat))).setCell ⟨g, (a + k) * 6 + 2, none⟩ (.string z.f.k.n)).setCell ⟨g, (a + k) * 6 + 3, none⟩ (.int .i64 z.f.k.c)).setCell ⟨g, (a + k) * 6 + 4, none⟩ (.slice z.A z.f.v.length z.c)).setCell ⟨g, (a + k) * 6 + 5, none⟩ (.bool z.f.g)) := ⟨_, rfl⟩
        obtain ⟨bs5, ks5⟩ := crow_put (b := z) UB.out HL1.out hw5
        obtain ⟨w6, hw6⟩ : ∃ w6, w6 = ((((((w5.setCell ⟨g, (b + k) * 6, none⟩ (.int .i64 x.f.k.i)).setCell ⟨g, (b + k) * 6 + 1, none⟩ (.int .u8 (x.f.k.t : Nat))).setCell ⟨g, (b + k) * 6 + 2, none⟩ (.string x.f.k.n)).setCell ⟨g, (b + k) * 6 + 3, none⟩ (.int .i64 x.f.k.c)).setCell ⟨g, (b + k) * 6 + 4, none⟩ (.slice x.A x.f.v.length x.c)).setCell ⟨g, (b + k) * 6 + 5, none⟩ (.bool x.f.g)) := ⟨_, rfl⟩
        obtain ⟨bs6, ks6⟩ := crow_put (b := x) bs5 (by rw [List.length_set]; exact HL2.out) hw6
        rw [HST.out, ← HF2.out] at bs6
        have E6 := Lib.hid bs6.drew
        have K6 : Hid (Kept (· = g) w w6.drew) := ((UK.out.trans ks5 fun _ _ h => h).trans ks6 fun _ _ h => h).drew
        rw [hw5] at hw6
        have HW := Lib.hid hw6
        clear hw5 hw6 bs5 bs6 ks5 ks6 a0 b0 f0 h0 a1 b1 f1 h1 a2 b2 f2 h2 a3 b3 f3 h3 a4 b4 f4 h4 a5 b5 f5 h5
        go_wp2
        go_roundw
        case rel =>
          refine ⟨k + 1, by omega, by go_num, ?_, ?_⟩
          · have := E6; rw [HW.out] at this; exact this
          · have := K6; rw [HW.out] at this; exact this
        case measure => simp [intOf]; omega
    · have hkm : k = m := by omega
      have E : Hid (RwcP w g sp (P ++ (Z ++ (Y ++ (X ++ S)))) (.returned (.tuple #[])) wr) := by
        have := UB.out
        rw [List.take_of_length_le (by rw [HZ.out]; omega), List.take_of_length_le (by rw [HX.out]; omega), List.drop_of_length_le (by rw [HX.out]; omega), List.drop_of_length_le (by rw [HZ.out]; omega), List.append_nil, List.append_nil] at this
        exact ⟨rfl, this, UK.out⟩
      go_wp2
      go_end0
      exact E.out
end Go.Proofs.Ytgdhbnhdmhogkaa
