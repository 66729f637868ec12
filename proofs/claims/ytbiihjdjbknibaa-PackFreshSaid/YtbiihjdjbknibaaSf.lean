/-
  The contract of layer 2's Put: the page of a body, in a block of its own, or the error.
-/
import Derived.Test.YtbiihjdjbknibaaSe
namespace Go.Proofs.Ytbiihjdjbknibaa
set_option maxRecDepth 100000
open Go.ChangeShapes Go.WideShapes Go.ChangeAt Go.RowKit

theorem Bts.of_blk {w : World} {g n off : Nat} {l : List Nat} {junk : List Value} (h : Blk w g 5 (l.map byt ++ junk)) (hb : IsBytes l) (hn : l.length = n) : Bts w (some ⟨g, off, none⟩) (n - off) (l.drop off) := by
  refine ⟨by simp [hn], fun x hx => hb x (List.mem_of_mem_drop hx), fun _ => ⟨g, off, rfl, fun j x hx => ?_⟩⟩
  rw [List.getElem?_drop] at hx
  have hj : off + j < l.length := (List.getElem?_eq_some_iff.1 hx).1
  rw [h.cell, List.getElem?_append_left (by simpa using hj), List.getElem?_map, hx]
  rfl

theorem leB_one (k : Nat) (h : k < 256) : leB k 1 = [k] := by simp [leB, List.range, List.range.loop]; omega
theorem rep5 (n : Nat) (h : 5 ≤ n) : List.replicate n 255 = 255 :: 255 :: 255 :: 255 :: 255 :: List.replicate (n - 5) 255 := by
  obtain ⟨r, rfl⟩ : ∃ r, n = r + 5 := ⟨n - 5, by omega⟩
  simp [List.replicate_succ]
theorem lay_rest (n k : Nat) (b : List Nat) (hk : k < 256) (h : b.length + 5 ≤ n) :
    lay (lay (lay (List.replicate n 255) 2 (leB k 1)) 3 (leB b.length 2)) 5 b = 255 :: 255 :: rest n k b := by
  rw [leB_one k hk, leB_two, rep5 n (by omega)]
  unfold rest
  rw [leB_two]
  simp [lay, show 5 + b.length = b.length + 5 from by omega, List.drop_succ_cons]
theorem lay_page (n k m : Nat) (b : List Nat) (hm : m = noughts (rest n k b)) : lay (255 :: 255 :: rest n k b) 0 (leB m 2) = page n k b := by
  subst hm
  unfold page
  rw [leB_two]
  simp [lay]
theorem noughts_fit (n k : Nat) (b : List Nat) (hn : n ≤ 256) (h : b.length + 5 ≤ n) : noughts (rest n k b) < 65536 := by
  have := noughts_le (rest n k b)
  rw [rest_length n k b h] at this
  omega
theorem fitB_two (n : Nat) (h : n < 65536) : fitB n 2 = true := by unfold fitB; exact decide_eq_true (by omega)
theorem fitB_one (n : Nat) (h : n < 256) : fitB n 1 = true := by unfold fitB; exact decide_eq_true (by omega)

def PageP (w : World) (n : Nat) (p : List Nat) (e : Ending) (w' : World) : Prop :=
  ∃ g junk, e = .returned (.tuple #[.slice (some ⟨g, 0, none⟩) n n, .int .i64 0]) ∧ Blk w' g 5 (p.map byt ++ junk) ∧ w.heap.size ≤ g ∧ New w w'

set_option maxHeartbeats 800000 in
theorem sPut_ok (n k : Nat) (A : Option Addr) (m c : Nat) (b : List Nat) (w : World) (hn1 : 128 ≤ n) (hn2 : n ≤ 256) (hk : isKd k) (hb : Bts w A m b) (hm : m + 5 ≤ n) :
    Calls Try.prog 46 #[.int .i64 n, .int .u8 k, .slice A m c] w (PageP w n (page n k b)) := by
  have e1 : decide (isPg (n : Int)) = true := decide_eq_true (by unfold isPg; omega)
  have e2 : decide (isKd k) = true := decide_eq_true hk
  have e3 : pgBody (n : Int) = (n : Int) - 5 := by unfold pgBody; rw [if_pos (by unfold isPg; omega)]
  have hk256 : k < 256 := by unfold isKd at hk; omega
  have hbl := hb.1
  have HL := Lib.hid (lay_rest n k b hk256 (by omega))
  have HBy := Lib.hid (show IsBytes (255 :: 255 :: rest n k b) from by
    intro x hx
    simp only [List.mem_cons] at hx
    rcases hx with rfl | rfl | hx
    · omega
    · omega
    · exact rest_bytes n k b hk256 hb.2.1 x hx)
  have HLen := Lib.hid (show (255 :: 255 :: rest n k b).length = n from by rw [List.length_cons, List.length_cons, rest_length n k b (by omega)]; omega)
  have HNf := Lib.hid (noughts_fit n k b hn2 (by omega))
  have Hb := Lib.hid hb
  have Hbl := Lib.hid hbl
  have hn3 : ¬ n = 2 := by omega
  have hn4 : ¬ n = 3 := by omega
  have hn5 : ¬ n = 5 := by omega
  clear hb hbl hk
  go_enter Try.func46, Try.ntmps46
  go_wp2_with (first
    | (go_at_call 31; refine (sIsSize_any _ _).mono ?_; rintro e w' ⟨rfl, rfl⟩; rw [e1])
    | (go_at_call 35; refine (sIsKind_any _ _).mono ?_; rintro e w' ⟨rfl, rfl⟩; rw [e2])
    | (go_at_call 36; refine (sBody_any _ _).mono ?_; rintro e w' ⟨rfl, rfl⟩; rw [e3]))
  refine (repeat_any _ n _ (Bts.one w 5 255 _ (by omega) rfl) hn1 hn2).mono ?_
  rintro e w1 ⟨g, junk, rfl, hblk, hg, hkp⟩
  have HG : Hid (w.heap.size < g) := by have := hg; simp at this; exact this
  have K1 : Hid (New w w1) := ((Kept.refl _ _).alloc _).new hkp
  have B1 := Lib.hid hblk
  clear hblk hg hkp
  go_wp2_with fail
  refine (putNumber_any g 2 (n - 2) (n - 2) k 1 _ w1 B1.out (by omega) (.inl rfl) (fitB_one k hk256) (by omega) (by simp; omega)).mono ?_
  rintro e w2 ⟨rfl, hblk, hkp⟩
  have B2 : Hid (Blk w2 g 5 ((lay (List.replicate n 255) 2 (leB k 1)).map byt ++ junk)) := by
    rw [lay_map _ _ _ _ (by simp [leB_length]; omega)] at hblk
    exact hblk
  have K2 : Hid (New w w2) := K1.out.trans hkp (fun i hi h => by have := HG.out; omega)
  have L2 := Lib.hid (show (lay (List.replicate n 255) 2 (leB k 1)).length = n from by rw [lay_length _ _ _ (by simp [leB_length]; omega)]; simp)
  clear hblk hkp B1 K1
  go_wp2_with fail
  refine (putNumber_any g 3 (n - 3) (n - 3) m 2 _ w2 B2.out (by omega) (.inr (.inl rfl)) (fitB_two m (by omega)) (by omega) (by rw [List.length_append, List.length_map, L2.out]; omega)).mono ?_
  rintro e w3 ⟨rfl, hblk, hkp⟩
  have B3 : Hid (Blk w3 g 5 ((lay (lay (List.replicate n 255) 2 (leB k 1)) 3 (leB b.length 2)).map byt ++ junk)) := by
    rw [lay_map _ _ _ _ (by rw [leB_length, L2.out]; omega)] at hblk
    rw [Hbl.out]
    exact hblk
  have K3 : Hid (New w w3) := K2.out.trans hkp (fun i hi h => by have := HG.out; omega)
  have L3 := Lib.hid (show (lay (lay (List.replicate n 255) 2 (leB k 1)) 3 (leB b.length 2)).length = n from by rw [lay_length _ _ _ (by rw [leB_length, L2.out]; omega), L2.out])
  clear hblk hkp B2 K2 L2
  have Hs : Hid (Bts w3 A m b) := Hb.out.new K3.out
  go_wp2_with (with_reducible refine wpList_copy_blk (o := ⟨some 38, _, _, _, _, _⟩) rfl (.tmp 36) (.tmp 37) rfl (some ⟨g, 5, none⟩) (n - 5) (n - 5) rfl A m c rfl g 5 _ B3.out b Hs.out m ?_ (fun _ => rfl) ?_ b ?_ ?_)
  · exact (Nat.min_eq_left (by omega)).symm
  · rw [List.length_append, List.length_map, L3.out]; omega
  · rw [List.take_of_length_le (by rw [Hbl.out]; exact Nat.le_refl _)]
  intro w4 HB HK
  have B4 : Hid (Blk w4 g 5 ((255 :: 255 :: rest n k b).map byt ++ junk)) := by
    have := HB.out
    rw [lay_map _ _ _ _ (by rw [L3.out, Hbl.out]; omega), HL.out] at this
    exact this
  have K4 : Hid (New w w4) := K3.out.trans HK.out (fun i hi h => by have := HG.out; omega)
  clear HB HK B3 K3 L3 Hs
  go_wp2_with fail
  refine (sNoughts_any _ (n - 2) _ (rest n k b) w4 (Bts.of_blk (off := 2) B4.out HBy.out HLen.out) (by omega)).mono ?_
  rintro e w' ⟨rfl, rfl⟩
  have hnf := HNf.out
  generalize hno : noughts (rest n k b) = no at hnf
  have HNo := Lib.hid hno.symm
  clear hno
  go_wp2_with fail
  refine (putNumber_any g 0 n n no 2 _ w4 B4.out hnf (.inr (.inl rfl)) (fitB_two no hnf) (by omega) (by rw [List.length_append, List.length_map, HLen.out]; omega)).mono ?_
  rintro e w5 ⟨rfl, hblk, hkp⟩
  have B5 : Hid (Blk w5 g 5 ((page n k b).map byt ++ junk)) := by
    rw [lay_map _ _ _ _ (by rw [leB_length, HLen.out]; omega), lay_page n k no b HNo.out] at hblk
    exact hblk
  have K5 : Hid (New w w5) := K4.out.trans hkp (fun i hi h => by have := HG.out; omega)
  clear hblk hkp B4 K4
  go_wp2
  go_ret2
  exact ⟨g, junk, rfl, B5.out, Nat.le_of_lt HG.out, K5.out⟩
end Go.Proofs.Ytbiihjdjbknibaa
