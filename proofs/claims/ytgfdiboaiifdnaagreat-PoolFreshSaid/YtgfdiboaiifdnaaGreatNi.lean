/-
  Contracts: a deed of a chip: bits that a mask changes; what is struck.
-/
import Derived.Test.YtgfdiboaiifdnaaGreatNh
namespace Go.Proofs.YtgfdiboaiifdnaaGreat
open Go.ChangeShapes Go.WideShapes Go.ChangeAt Go.RowKit

theorem lay_take_zero (cur M : List Nat) (off : Nat) (_h : off ≤ cur.length) : lay cur off (M.take 0) = cur := by
  simp [lay]
theorem lay_take_step (cur M : List Nat) (off k x : Nat) (hx : M[k]? = some x) (hf : off + M.length ≤ cur.length) : (lay cur off (M.take k)).set (off + k) x = lay cur off (M.take (k + 1)) := by
  have hk : k < M.length := (List.getElem?_eq_some_iff.1 hx).1
  have e : M[k] = x := (List.getElem?_eq_some_iff.1 hx).2
  have hl : (M.take k).length = k := by simp; omega
  have hl2 : (M.take (k + 1)).length = k + 1 := by simp; omega
  unfold lay
  rw [hl, hl2, List.take_succ_eq_append_getElem hk, e]
  have hc : off + k < cur.length := by omega
  rw [List.set_append_right _ _ (by simp; omega), List.set_append_right _ _ (by simp; omega)]
  have e1 : off + k - (cur.take off).length - (M.take k).length = 0 := by simp; omega
  rw [e1, List.drop_eq_getElem_cons hc]
  simp [Nat.add_assoc]
theorem lay_take_get (cur M : List Nat) (off k : Nat) (hk : k < M.length) (hf : off + M.length ≤ cur.length) : (lay cur off (M.take k))[off + k]? = cur[off + k]? := by
  have hl : (M.take k).length = k := by simp; omega
  unfold lay
  rw [List.getElem?_append_right (by simp; omega), List.getElem?_append_right (by simp; omega), hl, List.getElem?_drop]
  have e1 : off + k + (off + k - (cur.take off).length - k) = off + k := by simp; omega
  rw [e1]

/-- Some bytes of a block are written anew. -/
def LaidM (w : World) (gc off : Nat) (cur : List Nat) (junk : List Value) (M : List Nat) (e : Ending) (w' : World) : Prop :=
  e = .returned (.tuple #[]) ∧ Blk w' gc 5 ((lay cur off M).map byt ++ junk) ∧ Kept (· = gc) w w'

set_option maxRecDepth 100000 in
set_option maxHeartbeats 1600000 in
theorem changeMasked_any (gc off n c : Nat) (cur : List Nat) (junk : List Value) (G : Option Addr) (c2 : Nat) (gl : List Nat) (A : Option Addr) (m c3 : Nat) (ml : List Nat) (w : World)
    (hb : Blk w gc 5 (cur.map byt ++ junk)) (hcur : IsBytes cur) (hf : off + n ≤ cur.length) (hn : n ≤ 9223372036854775806) (hg : Bts w G n gl) (hg1 : ∀ a, G = some a → a.block ≠ gc)
    (hm : Bts w A m ml) (hm1 : ∀ a, A = some a → a.block ≠ gc) (hm2 : m ≤ 9223372036854775807) :
    Calls Tryz.prog 62 #[.slice (some ⟨gc, off, none⟩) n c, .slice G n c2, .slice A m c3] w (LaidM w gc off cur junk (mixF (maskF ml) ((cur.drop off).take n) gl)) := by
  by_cases h0 : m = 0
  · subst h0
    obtain rfl : ml = [] := List.eq_nil_of_length_eq_zero hm.1
    have e : lay cur off (mixF (maskF []) ((cur.drop off).take n) gl) = cur := by
      rw [mixF_none _ _ (fun x hx => hcur x (List.mem_of_mem_drop (List.mem_of_mem_take hx)))]
      unfold lay
      have hl : ((cur.drop off).take n).length = n := by simp; omega
      rw [hl, ← List.drop_drop, List.take_append_drop, List.take_append_drop]
    have HB : Hid (Blk w gc 5 ((lay cur off (mixF (maskF []) ((cur.drop off).take n) gl)).map byt ++ junk)) := by rw [e]; exact hb
    generalize mixF (maskF []) ((cur.drop off).take n) gl = R at *
    clear hb hg hm e hcur hg1 hm1
    go_enter Tryz.func62, Tryz.ntmps62
    go_wp2
    refine bodyPost_ret (results_none rfl _ _ _) rfl ?_
    exact ⟨rfl, HB.out, Kept.refl _ _⟩
  · obtain ⟨M, hM⟩ : ∃ M, M = mixF (maskF ml) ((cur.drop off).take n) gl := ⟨_, rfl⟩
    rw [← hM]
    have hMl : M.length = n := by rw [hM, mixF_length]; simp; omega
    have hMg : ∀ k x y, k < n → cur[off + k]? = some x → gl[k]? = some y → M[k]? = some (mixB x y (ml.getD (k % m) 0)) := by
      intro k x y hk hx hy
      rw [hM, mixF_get _ _ _ _ (by simp; omega)]
      have e1 : ((cur.drop off).take n).getD k 0 = x := by
        rw [List.getD_eq_getElem?_getD, List.getElem?_take, if_pos hk, List.getElem?_drop, hx]; rfl
      have e2 : gl.getD k 0 = y := by rw [List.getD_eq_getElem?_getD, hy]; rfl
      rw [e1, e2]
      unfold maskF
      rw [hm.1]
    have HMl := Lib.hid hMl
    have HMg := Lib.hid hMg
    have HB0 : Hid (Blk w gc 5 ((lay cur off (M.take 0)).map byt ++ junk)) := by rw [lay_take_zero _ _ _ (by omega)]; exact hb
    have HC := Lib.hid hcur
    have HF := Lib.hid hf
    have HG := Lib.hid hg
    have HG1 := Lib.hid hg1
    have HM := Lib.hid hm
    have HM1 := Lib.hid hm1
    have hm0 : (m == 0) = false := beq_eq_false_iff_ne.2 h0
    have hm0' : ((m : Int) == 0) = false := beq_eq_false_iff_ne.2 (by omega)
    have hmp : 0 < m := by omega
    have hmi : ¬ (m : Int) = 0 := by omega
    clear hb hcur hf hg hg1 hm hm1 hM hMl hMg
    go_enter Tryz.func62, Tryz.ntmps62
    go_wp2
    go_loopw [13] (fun i wr => ∃ k : Nat, k ≤ n ∧ i = .int .i64 k ∧ Hid (Blk wr gc 5 ((lay cur off (M.take k)).map byt ++ junk)) ∧ Hid (Kept (· = gc) w wr)) (fun i _ => n - (intOf i).toNat)
    case atStart => exact ⟨0, Nat.zero_le _, rfl, HB0, Kept.refl _ _⟩
    case round =>
      obtain ⟨k, hk, rfl, VB, VK⟩ := hrel
      clear HB0
      by_cases hlt : k < n
      · have hfl : off + k < cur.length := by have := HF.out; omega
        obtain ⟨x, hx⟩ : ∃ x, cur[off + k]? = some x := ⟨_, List.getElem?_eq_getElem hfl⟩
        have hxb : x < 256 := HC.out x (List.mem_of_getElem? hx)
        have hlayl : (lay cur off (M.take k)).length = cur.length := lay_length _ _ _ (by simp; have := HF.out; omega)
        have HLL := Lib.hid hlayl
        have hcell : wr.cell? ⟨gc, off + k, none⟩ = some (.int .u8 (x : Int)) := by
          rw [VB.out.cell, List.getElem?_append_left (by rw [List.length_map, HLL.out]; exact hfl), List.getElem?_map, lay_take_get _ _ _ _ (by rw [HMl.out]; exact hlt) (by rw [HMl.out]; exact HF.out), hx]
          rfl
        have hfree := VB.out.free (off + k)
        obtain ⟨r, hr⟩ : ∃ r, r = k % m := ⟨_, rfl⟩
        have hml : r < m := by rw [hr]; exact Nat.mod_lt _ hmp
        have HMk := HM.out.kept VK.out HM1.out
        have HGk := HG.out.kept VK.out HG1.out
        obtain ⟨g3, o3, z, eA, hz, hzb, hc3⟩ := HMk.at_ (k := r) hml
        obtain ⟨g4, o4, y, eG, hy, hyb, hc4⟩ := HGk.at_ (k := k) hlt
        have EA := Lib.hid eA
        have EG := Lib.hid eG
        have hmod : ((k : Int) % (m : Int)) = (r : Int) := by rw [hr]; omega
        have HR := Lib.hid hr
        have HX := Lib.hid hx
        have HY := Lib.hid hy
        have HZ := Lib.hid hz
        have v1 := u8_andNot_nat x z hxb hzb
        have v2 := u8_and_nat y z hyb hzb
        have b1 : x &&& (255 - z) < 256 := Nat.and_lt_two_pow (n := 8) _ (by omega)
        have b2 : y &&& z < 256 := Nat.lt_of_le_of_lt Nat.and_le_left hyb
        have v3 := u8_or_nat _ _ b1 b2
        have hMk := HMg.out k x y hlt HX.out HY.out
        have hzd : ml.getD (k % m) 0 = z := by rw [← HR.out, List.getD_eq_getElem?_getD, HZ.out]; rfl
        rw [hzd] at hMk
        unfold mixB at hMk
        have HMK := Lib.hid hMk
        generalize x &&& (255 - z) = p1 at *
        generalize y &&& z = p2 at *
        generalize p1 ||| p2 = p3 at *
        clear hr hx hy hz hlayl hMk hzd HMk HGk
        subst eA eG
        go_wp2
        go_region
        all_goals go_wp2
        all_goals go_roundw
        case rel =>
          refine ⟨k + 1, by omega, by go_num, ?_, ((VK.out.setCell (p := ⟨gc, off + k, none⟩) (fun _ => rfl) _).drew)⟩
          have hb1 := (VB.out.put (off + k) (.int .u8 (p3 : Int))).drew
          rw [List.set_append_left _ _ (by rw [List.length_map, HLL.out]; exact hfl), set_any _ (off + k) p3 (.int .u8 (p3 : Int)) rfl, lay_take_step _ _ _ _ _ HMK.out (by rw [HMl.out]; exact HF.out)] at hb1
          exact hb1
        case measure => simp [intOf]; omega
      · obtain rfl : k = n := by omega
        have HE : Hid (Blk wr gc 5 ((lay cur off M).map byt ++ junk)) := by
          have := VB.out
          rw [List.take_of_length_le (by rw [HMl.out]; exact Nat.le_refl _)] at this
          exact this
        go_wp2
        go_end0
        exact ⟨rfl, HE.out, VK.out⟩
end Go.Proofs.YtgfdiboaiifdnaaGreat
