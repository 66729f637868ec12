/-
  The page that layer 2's statements ask for by example.
-/
import Derived.Test.YtpcfffbkoddkpaaSh
namespace Go.Proofs.Ytpcfffbkoddkpaa
open Go.ChangeShapes Go.WideShapes Go.ChangeAt Go.RowKit

theorem ex_0 : (page 128 1 [])[0]? = some 23 := by decide +kernel
theorem ex_1 : (page 128 1 [])[1]? = some 0 := by decide +kernel
theorem ex_127 : (page 128 1 [])[127]? = some 255 := by decide +kernel
theorem ex_torn : sGetE ((page 128 1 []).set 127 127) = 7 := by decide +kernel

set_option maxHeartbeats 800000 in
theorem works_any (w : World) : Calls Try.prog 16 #[] w (True1 w) := by
  go_enter Try.func16, Try.ntmps16
  go_wp2_with fail
  refine (sPut_ok 128 1 none 0 0 [] _ (by omega) (by omega) (by decide) (Bts.nil _ _) (by omega)).mono ?_
  rintro e w1 ⟨g, junk, rfl, hblk, hg, hk⟩
  have B1 := Lib.hid hblk
  have K1 := Lib.hid hk
  have HBy : Hid (IsBytes (page 128 1 [])) := page_bytes 128 1 [] (by omega) (by simp [IsBytes])
  have HLen : Hid ((page 128 1 []).length = 128) := page_length 128 1 [] (by simp)
  have hp0 := Lib.hid ex_0
  have hp1 := Lib.hid ex_1
  have hp127 := Lib.hid ex_127
  have hgt := Lib.hid ex_torn
  have hgp := Lib.hid (get_page 128 1 [] (by decide) (by decide) (by simp))
  generalize page 128 1 [] = P at *
  clear hblk hk
  go_wp2_with fail
  refine (sGet_any _ 128 128 P _ (by simpa using Bts.of_blk (off := 0) B1.out HBy.out HLen.out) (by omega) (by omega)).mono ?_
  rintro e w2 ⟨A2, c2, rfl, ho, hk⟩
  rw [hgp.out.1, hgp.out.2.1, hgp.out.2.2]
  have B2 := Lib.hid (B1.out.kept hk (fun f => f))
  have K2 := Lib.hid (K1.out.new hk)
  have c0 : w2.cell? ⟨g, 0, none⟩ = some (.int .u8 23) := by rw [B2.out.cell, List.getElem?_append_left (by simp [HLen.out]), List.getElem?_map, hp0.out]; rfl
  have c1 : w2.cell? ⟨g, 1, none⟩ = some (.int .u8 0) := by rw [B2.out.cell, List.getElem?_append_left (by simp [HLen.out]), List.getElem?_map, hp1.out]; rfl
  have c127 : w2.cell? ⟨g, 127, none⟩ = some (.int .u8 255) := by rw [B2.out.cell, List.getElem?_append_left (by simp [HLen.out]), List.getElem?_map, hp127.out]; rfl
  have f127 := B2.out.free 127
  clear ho hk B1 K1
  go_wp2_with fail
  have B3 : Hid (Blk (w2.setCell ⟨g, 127, none⟩ (.int .u8 127)) g 5 ((P.set 127 127).map byt ++ junk)) := by
    have := B2.out.put 127 (.int .u8 127)
    rw [List.set_append_left _ _ (by simp [HLen.out])] at this
    rw [set_any P 127 127 (.int .u8 127) rfl] at this
    exact this
  have K3 : Hid (New w (w2.setCell ⟨g, 127, none⟩ (.int .u8 127))) := K2.out.setCell (fun h => absurd h (by simp; exact hg)) _
  generalize w2.setCell ⟨g, 127, none⟩ (.int .u8 127) = w3 at *
  have HBy3 : Hid (IsBytes (P.set 127 127)) := by
    intro x hx
    rcases List.mem_or_eq_of_mem_set hx with h | h
    · exact HBy.out x h
    · omega
  refine (sGet_any _ 128 128 (P.set 127 127) _ (by simpa using Bts.of_blk (off := 0) B3.out HBy3.out (by rw [List.length_set, HLen.out])) (by omega) (by omega)).mono ?_
  rintro e w4 ⟨A4, c4, rfl, ho, hk⟩
  rw [hgt.out]
  have K4 := Lib.hid (K3.out.new hk)
  clear ho hk B3 K3 c0 c1 c127 f127
  go_wp2
  go_ret
  exact ⟨rfl, K4.out⟩
end Go.Proofs.Ytpcfffbkoddkpaa
