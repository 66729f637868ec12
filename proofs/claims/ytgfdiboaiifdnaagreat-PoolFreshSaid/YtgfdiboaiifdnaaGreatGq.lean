/-
  The law's own example of a pool.
-/
import Derived.Test.YtgfdiboaiifdnaaGreatNq
import Derived.Test.YtgfdiboaiifdnaaGreatGp
namespace Go.Proofs.YtgfdiboaiifdnaaGreat
open Go.ChangeShapes Go.WideShapes Go.ChangeAt Go.RowKit

deriving instance DecidableEq for TK

def po0 : PSt := scanS ex0
def po1 : TkR := takeR 1 1 ex0 po0
def po2 : TkR := takeR 2 1 po1.s po1.p
def po3 : TkR := freeR po2.s po2.p 0
def po4 : TkR := freeR po3.s po3.p 0
def po5 : TkR := takeR 1 1 po4.s po4.p
theorem po_a : ex0.dead = false ∧ frN ex0 po0 ex0.nb = 8 := by decide +kernel
theorem po_b : po1.b = 0 ∧ po1.e = 0 := by decide +kernel
theorem po_c : po2.b = 1 ∧ po2.e = 0 := by decide +kernel
theorem po_d : po3.e = 0 := by decide +kernel
theorem po_e : po4.e = 12 := by decide +kernel
theorem po_f : tknL po4.s po4.p = [⟨1, 2, 1, 2, false⟩] := by decide +kernel
theorem po_g : po5.b = 2 ∧ po5.e = 0 := by decide +kernel
theorem po_h : ex0.deeds < 2305843009213693952 ∧ po1.s.deeds < 2305843009213693952 ∧ po2.s.deeds < 4611686018427387904 ∧ po3.s.deeds < 4611686018427387904 ∧ po4.s.deeds < 2305843009213693952 ∧ po4.s.nb ≤ 19 := by decide +kernel

set_option maxRecDepth 100000 in
set_option maxHeartbeats 3200000 in
theorem pWorks_any (w : World) : Calls Tryz.prog 10 #[] w (True1 w) := by
  have e0 : Hid (geoOk 8 4 128 0) := by show geoOk 8 4 128 0; decide
  have ha := Lib.hid po_a
  have hb := Lib.hid po_b
  have hc := Lib.hid po_c
  have hd := Lib.hid po_d
  have he := Lib.hid po_e
  have hf := Lib.hid po_f
  have hg := Lib.hid po_g
  have hh := Lib.hid po_h
  go_enter Tryz.func10, Tryz.ntmps10
  go_wp2_with fail
  refine (nNew_ok 8 4 128 0 _ e0.out).mono ?_
  rintro e w2 ⟨g, Q, rfl, h1, hq, k2⟩
  have C2 : Hid (NChip Q w2 g ex0) := h1
  have K2 : Hid (New w w2) := k2
  have HQ : Hid (∀ b, Q b → w.heap.size ≤ b) := hq
  clear h1 hq k2
  go_wp2_with fail
  refine (pScan_ok Q g ex0 _ C2.out ha.out.1 (by decide)).mono ?_
  rintro e w3 ⟨gp, gb, rfl, h1, h2, h3, h4⟩
  have P3 : Hid (PRep Q w3 gp gb g ex0 po0) := h1
  have K3 : Hid (New w w3) := K2.out.new h4
  have HQP : Hid (∀ b, PoolQ Q gp gb b → w.heap.size ≤ b) := by
    have hz := K2.out.size
    rintro b (hb | rfl | rfl)
    · exact HQ.out b hb
    · exact Nat.le_trans hz h2
    · exact Nat.le_trans hz h3
  clear h1 h2 h3 h4 K2 C2 HQ
  go_wp2_with fail
  refine (pBlanks_any _ _ _ _ _ _ _ P3.out).mono ?_
  rintro e w' ⟨rfl, rfl⟩
  rw [ha.out.2]
  go_wp2_with fail
  refine (pTake_any _ _ _ _ _ _ 1 1 _ P3.out hh.out.1 (by decide) (by decide)).mono ?_
  rintro e w4 ⟨rfl, h1, h2⟩
  have P4 : Hid (PRep Q w4 gp gb g po1.s po1.p) := h1
  have K4 : Hid (New w w4) := new_of_kept K3.out h2 HQP.out
  rw [show (takeR 1 1 ex0 po0).b = 0 from hb.out.1, show (takeR 1 1 ex0 po0).e = 0 from hb.out.2]
  clear h1 h2 P3 K3
  go_wp2_with fail
  refine (pTake_any _ _ _ _ _ _ 2 1 _ P4.out hh.out.2.1 (by decide) (by decide)).mono ?_
  rintro e w5 ⟨rfl, h1, h2⟩
  have P5 : Hid (PRep Q w5 gp gb g po2.s po2.p) := h1
  have K5 : Hid (New w w5) := new_of_kept K4.out h2 HQP.out
  rw [show (takeR 2 1 po1.s po1.p).b = 1 from hc.out.1, show (takeR 2 1 po1.s po1.p).e = 0 from hc.out.2]
  clear h1 h2 P4 K4
  go_wp2_with fail
  refine (pFreeB_any _ _ _ _ _ _ 0 _ P5.out hh.out.2.2.1).mono ?_
  rintro e w6 ⟨rfl, h1, h2⟩
  have P6 : Hid (PRep Q w6 gp gb g po3.s po3.p) := h1
  have K6 : Hid (New w w6) := new_of_kept K5.out h2 HQP.out
  rw [show (freeR po2.s po2.p 0).e = 0 from hd.out]
  clear h1 h2 P5 K5
  go_wp2_with fail
  refine (pFreeB_any _ _ _ _ _ _ 0 _ P6.out hh.out.2.2.2.1).mono ?_
  rintro e w7 ⟨rfl, h1, h2⟩
  have P7 : Hid (PRep Q w7 gp gb g po4.s po4.p) := h1
  have K7 : Hid (New w w7) := new_of_kept K6.out h2 HQP.out
  rw [show (freeR po3.s po3.p 0).e = 12 from he.out]
  clear h1 h2 P6 K6
  go_wp2_with fail
  refine (pTaken_any _ _ _ _ _ _ _ P7.out hh.out.2.2.2.2.2).mono ?_
  rintro e w8 ⟨A, c, rfl, h1, h2⟩
  have P8 : Hid (PRep Q w8 gp gb g po4.s po4.p) := P7.out.new h2
  have K8 : Hid (New w w8) := K7.out.new h2
  have LO8 := Lib.hid K7.out.size
  rw [hf.out] at h1 ⊢
  have O8 := Lib.hid h1
  have HLO : Hid (∀ b, PoolQ Q gp gb b → b < w7.heap.size) := by
    rintro b (hb | rfl | rfl)
    · exact P7.out.chip.low b hb
    · exact P7.out.pool.lt
    · exact P7.out.blks.lt
  clear h1 h2 P7 K7
  go_wp2_with fail
  refine (pTake_any _ _ _ _ _ _ 1 1 _ P8.out hh.out.2.2.2.2.1 (by decide) (by decide)).mono ?_
  rintro e w9 ⟨rfl, h1, h2⟩
  have K9 : Hid (New w w9) := new_of_kept K8.out h2 HQP.out
  rw [show (takeR 1 1 po4.s po4.p).b = 2 from hg.out.1, show (takeR 1 1 po4.s po4.p).e = 0 from hg.out.2]
  have O9 := O8.out.kept h2 fun a ha hb => by
    have h3 := HLO.out _ hb
    have h4 := (O8.out.at_ a ha).2
    omega
  obtain ⟨v1, v2, v3, v4⟩ := O9
  rcases v4 with ⟨rfl, rfl⟩ | ⟨gt, sp, rfl, v5, v6, v7⟩
  · exact absurd v2 (by decide)
  have hgt := v6.lt
  have k0 : w9.cell? ⟨gt, 0, none⟩ = some (.int .i64 1) := v6.cell 0
  have k1 : w9.cell? ⟨gt, 1, none⟩ = some (.int .u8 2) := v6.cell 1
  have k2 : w9.cell? ⟨gt, 2, none⟩ = some (.int .u32 1) := v6.cell 2
  have k3 : w9.cell? ⟨gt, 3, none⟩ = some (.int .u64 2) := v6.cell 3
  have k4 : w9.cell? ⟨gt, 4, none⟩ = some (.bool false) := v6.cell 4
  have k5 : (Hid (1 ≤ c)) := v2
  clear v1 v2 v3 v5 v6 v7 h1 h2 O8 HLO LO8 P8 K8 HQP ha hb hc hd he hf hg hh e0
  go_wp2
  go_ret
  exact ⟨rfl, K9.out⟩
end Go.Proofs.YtgfdiboaiifdnaaGreat
