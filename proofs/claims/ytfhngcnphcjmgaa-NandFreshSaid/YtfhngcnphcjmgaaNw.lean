/-
  The law's own example of a chip.
-/
import Derived.Test.YtfhngcnphcjmgaaNq
namespace Go.Proofs.Ytfhngcnphcjmgaa
open Go.ChangeShapes Go.WideShapes Go.ChangeAt Go.RowKit

set_option maxRecDepth 100000 in
set_option maxHeartbeats 3200000 in
theorem nWorks_any (w : World) : Calls Try.prog 14 #[] w (True1 w) := by
  have e0 : Hid (geoOk 8 4 128 0) := by show geoOk 8 4 128 0; decide
  have hf := Lib.hid ex_f
  have hg := Lib.hid ex_g.1
  have hh := Lib.hid ex_h
  have hi := Lib.hid ex_i
  have hj := Lib.hid ex_j
  have hk := Lib.hid ex_k
  have hm := Lib.hid ex_m
  have hd := Lib.hid ex_d
  go_enter Try.func14, Try.ntmps14
  go_wp2_with fail
  refine (small_any _).mono ?_
  rintro e w1 ⟨rfl, k1⟩
  have K1 := Lib.hid k1
  clear k1
  go_wp2_with fail
  refine (nNew_ok 8 4 128 0 _ e0.out).mono ?_
  rintro e w2 ⟨g, Q, rfl, hc, hq, k2⟩
  have C2 : Hid (NChip Q w2 g ex0) := hc
  have K2 := Lib.hid (K1.out.new k2)
  have HQ : Hid (∀ b, Q b → w.heap.size ≤ b) := fun b hb => Nat.le_trans K1.out.size (hq b hb)
  clear hc hq k2 K1
  go_wp2_with fail
  refine (noughts_k K2).mono ?_
  rintro e w3 ⟨g3, rfl, B3, G3, N3, K3⟩
  have C3 := NChip.new_k C2 N3
  go_wp2_with fail
  refine (nProg_k exZ K3 C3 HQ B3 (away_k C2 G3) (by have := hd.out; omega) 0 ex1 hf.out rfl).mono ?_
  rintro e w4 ⟨rfl, C4, -, K4⟩
  clear B3 G3 N3 K3 C3 C2 K2
  go_wp2_with fail
  refine (noughts_k K4).mono ?_
  rintro e w5 ⟨g5, rfl, B5, G5, N5, K5⟩
  have C5 := NChip.new_k C4 N5
  go_wp2_with fail
  refine (nProg_k exZ K5 C5 HQ B5 (away_k C4 G5) (by have := hd.out; omega) 8 ex1 hg.out ex_s).mono ?_
  rintro e w6 ⟨rfl, C6, -, K6⟩
  clear B5 G5 N5 K5 C5 C4 K4
  go_wp2_with fail
  refine (noughts_k K6).mono ?_
  rintro e w7 ⟨g7, rfl, B7, G7, N7, K7⟩
  have C7 := NChip.new_k C6 N7
  go_wp2_with fail
  refine (nProg_k exZ K7 C7 HQ B7 (away_k C6 G7) (by have := hd.out; omega) 0 ex2 hh.out rfl).mono ?_
  rintro e w8 ⟨rfl, C8, -, K8⟩
  clear B7 G7 N7 K7 C7 C6 K6
  go_wp2_with fail
  refine (nErase_k K8 C8 HQ (by have := hd.out; omega) 0 ex3 hi.out rfl).mono ?_
  rintro e w9 ⟨rfl, C9, -, K9⟩
  clear C8 K8
  have A1 : New w9 (w9.alloc (.cells #[.int .u8 1] 5)) := (Kept.refl _ _).alloc _
  have A2 : Hid (New w9 ((w9.alloc (.cells #[.int .u8 1] 5)).alloc (.cells #[.int .i64 0, .bool false, .slice (some ⟨w9.heap.size, 0, none⟩) 1 1] 52))) := A1.alloc _
  have HT : Hid (HitsA ((w9.alloc (.cells #[.int .u8 1] 5)).alloc (.cells #[.int .i64 0, .bool false, .slice (some ⟨w9.heap.size, 0, none⟩) 1 1] 52)) (some ⟨w9.heap.size + 1, 0, none⟩) 1 [⟨0, false, [1]⟩]) :=
    hits_one (w9.alloc (.cells #[.int .u8 1] 5)) (w9.heap.size + 1) false _ 1 1 [1] 0 (Bts.one w9 5 1 _ (by omega) rfl) (by intro h; cases h) (by omega) (by omega) (by omega) (by simp)
  have C10 := NChip.new_k C9 A2
  have K10 : Hid (New w ((w9.alloc (.cells #[.int .u8 1] 5)).alloc (.cells #[.int .i64 0, .bool false, .slice (some ⟨w9.heap.size, 0, none⟩) 1 1] 52))) := K9.out.new A2.out
  clear A1
  go_wp2_with fail
  refine (nHits_k [⟨0, false, [1]⟩] K10 C10 HQ HT (by intro h; cases h) (by omega) 0 ex4 hj.out rfl).mono ?_
  rintro e w11 ⟨rfl, ⟨Q2, C11, -, HQ2⟩, -, K11⟩
  clear A2 HT C10 K10 C9 K9
  go_wp2_with fail
  refine (noughts_k K11).mono ?_
  rintro e w12 ⟨g12, rfl, B12, G12, N12, K12⟩
  have C12 := NChip.new_k C11 N12
  go_wp2_with fail
  refine (nProg_k exZ K12 C12 HQ2 B12 (away_k C11 G12) (by have := hd.out; omega) 10 ex5 hk.out rfl).mono ?_
  rintro e w13 ⟨rfl, C13, -, K13⟩
  clear B12 G12 N12 K12 C12 C11 K11
  go_wp2_with fail
  refine (nPower_k K13 C13 ex6 rfl).mono ?_
  rintro e w14 ⟨g14, Q14, rfl, C14, -, HQ14, -, K14⟩
  clear C13 K13
  go_wp2_with fail
  refine (nRead_k K14 C14 0 _ 128 hm.out.1 rfl hm.out.2.1).mono ?_
  rintro e w15 ⟨A15, c15, rfl, O15, -, K15⟩
  clear C14 K14
  have hb15 := O15.out.bts
  rw [hm.out.2.1] at hb15
  obtain ⟨go, oo, rfl, hcell⟩ := hb15.2.2 (by omega)
  have q0 : w15.cell? ⟨go, oo, none⟩ = some (.int .u8 254) := hcell 0 254 hm.out.2.2.1
  have q127 : w15.cell? ⟨go, oo + 127, none⟩ = some (.int .u8 254) := hcell 127 254 hm.out.2.2.2
  have hc15 := O15.out.le
  rw [hm.out.2.1] at hc15
  clear hcell hb15 O15
  go_wp2
  go_ret
  exact ⟨rfl, K15.out⟩

theorem worksN_k {w0 wc : World} (K : Hid (New w0 wc)) : Calls Try.prog 14 #[] wc fun e w' => e = .returned (.bool true) ∧ New w0 w' := by
  refine (nWorks_any wc).mono ?_
  rintro e w' ⟨rfl, hk⟩
  exact ⟨rfl, K.out.new hk⟩
end Go.Proofs.Ytfhngcnphcjmgaa
