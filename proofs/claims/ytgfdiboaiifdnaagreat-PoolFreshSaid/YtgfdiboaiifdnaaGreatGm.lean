/-
  The library's insertion sort of taken blocks.
-/
import Derived.Test.YtgfdiboaiifdnaaGreatGl
namespace Go.Proofs.YtgfdiboaiifdnaaGreat
open Go.ChangeShapes Go.WideShapes Go.ChangeAt Go.RowKit

theorem row_cell {w : World} {gt i j : Nat} {l : List TK} {junk : List Value} {t : TK} {v : Value} (h : Blk w gt 36 (tRow l junk)) (ht : l[i]? = some t) (hj : j < 5) (hv : t.cells[j]? = some v) : w.cell? ⟨gt, i * 5 + j, none⟩ = some v := by
  rw [h.cell]
  exact tRow_get _ _ _ _ _ _ ht hj hv
theorem row_put {w w' : World} {gt i : Nat} {l : List TK} {junk : List Value} {b : TK} (h : Blk w gt 36 (tRow l junk)) (hi : i < l.length)
    (hw : w' = ((((w.setCell ⟨gt, i * 5, none⟩ (.int .i64 (b.b : Nat))).setCell ⟨gt, i * 5 + 1, none⟩ (.int .u8 (b.k : Nat))).setCell ⟨gt, i * 5 + 2, none⟩ (.int .u32 (b.e : Nat))).setCell ⟨gt, i * 5 + 3, none⟩ (.int .u64 (b.s : Nat))).setCell ⟨gt, i * 5 + 4, none⟩ (.bool b.bad)) :
    Blk w' gt 36 (tRow (l.set i b) junk) ∧ Kept (· = gt) w w' := by
  subst hw
  refine ⟨?_, ((((Kept.set1 w gt _ _).setCell (p := ⟨gt, _, none⟩) (fun _ => rfl) _).setCell (p := ⟨gt, _, none⟩) (fun _ => rfl) _).setCell (p := ⟨gt, _, none⟩) (fun _ => rfl) _).setCell (p := ⟨gt, _, none⟩) (fun _ => rfl) _⟩
  have := ((((h.put (i * 5) (.int .i64 (b.b : Nat))).put (i * 5 + 1) (.int .u8 (b.k : Nat))).put (i * 5 + 2) (.int .u32 (b.e : Nat))).put (i * 5 + 3) (.int .u64 (b.s : Nat))).put (i * 5 + 4) (.bool b.bad)
  rw [tRow_set _ l b i hi] at this
  exact this

def SortP (w : World) (gt : Nat) (l : List TK) (junk : List Value) (e : Ending) (w' : World) : Prop := e = .returned (.tuple #[]) ∧ Blk w' gt 36 (tRow l junk) ∧ Kept (· = gt) w w'

set_option maxRecDepth 100000 in
set_option maxHeartbeats 3200000 in
theorem insSort_any (gt n c : Nat) (l : List TK) (junk : List Value) (w : World) (hb : Blk w gt 36 (tRow l junk)) (hl : l.length = n) (hn : n ≤ 64) (_hc : n ≤ c) :
    Calls Tryz.prog 64 #[.slice (some ⟨gt, 0, none⟩) n c, .int .i64 0, .int .i64 (n : Nat), .func (.func 22) #[] #[]] w (SortP w gt (insG l (n - 1)) junk) := by
  have HB := Lib.hid hb
  have HL := Lib.hid hl
  clear hb hl
  go_enter Tryz.func64, Tryz.ntmps64
  go_wp2
  go_loopw [8, 9] (fun ti _ wr => ∃ k : Nat, 1 ≤ k ∧ (k ≤ n ∨ k = 1) ∧ ti = .int .i64 k ∧ Hid (Blk wr gt 36 (tRow (insG l (k - 1)) junk)) ∧ Hid (Kept (· = gt) w wr)) (fun ti _ _ => n - (intOf ti).toNat)
  case atStart => exact ⟨1, Nat.le_refl _, .inr rfl, rfl, HB, Kept.refl _ _⟩
  case round =>
    obtain ⟨k, hk1, hk2, rfl, VB, VK⟩ := hrel
    by_cases hlt : k < n
    · have HKK : Hid (insG l k = bub k (insG l (k - 1))) := by
        show _ = _
        rw [show k = (k - 1) + 1 by omega]
        rfl
      go_wp2_with fail
      go_loopw [9] (fun tj wx => ∃ (j : Nat) (l' : List TK), j ≤ k ∧ tj = .int .i64 j ∧ Hid (bub j l' = insG l k) ∧ Hid (l'.length = n) ∧ Hid (Blk wx gt 36 (tRow l' junk)) ∧ Hid (Kept (· = gt) w wx)) (fun tj _ => (intOf tj).toNat)
      case atStart => exact ⟨k, insG l (k - 1), Nat.le_refl _, rfl, HKK.out.symm, (insG_len l _).trans HL.out, VB, VK⟩
      case round =>
        obtain ⟨j, l', hj, rfl, UB, UL, UR, UK⟩ := hrel
        clear VB VK
        rcases Nat.eq_zero_or_pos j with h0 | h0
        · subst h0
          have E : Hid (Blk wr gt 36 (tRow (insG l (k + 1 - 1)) junk)) := by
            rw [show k + 1 - 1 = k by omega, ← UB.out]
            exact UR.out
          have UK2 := Lib.hid UK.out
          clear UB UL UR UK
          go_wp2_with fail
          go_quiet (fail)
          have E2 : Hid (Blk (wr.drewN nq) gt 36 (tRow (insG l (k + 1 - 1)) junk)) := E.out.drewN nq
          have UK3 : Hid (Kept (· = gt) w (wr.drewN nq)) := UK2.out.drewN nq
          go_wp2
          go_roundw
          case rel => exact ⟨k + 1, by omega, by omega, by go_num, E2, UK3⟩
          case measure => simp [intOf]; omega
        · obtain ⟨m, hm⟩ : ∃ m, m + 1 = j := ⟨j - 1, by omega⟩
          have HM := Lib.hid hm
          have hm1 : m + 1 ≤ j := by omega
          have hm2 : j ≤ m + 1 := by omega
          clear hm
          obtain ⟨x, hx⟩ : ∃ x, l'[j]? = some x := ⟨_, List.getElem?_eq_getElem (by rw [UL.out]; omega)⟩
          obtain ⟨y, hy⟩ : ∃ y, l'[m]? = some y := ⟨_, List.getElem?_eq_getElem (by rw [UL.out]; omega)⟩
          have HXY := Lib.hid (And.intro hx hy)
          have SA : Hid (∀ wx, New wr wx → wx.cell? ⟨gt, j * 5, none⟩ = some (.int .i64 (x.b : Nat)) ∧ wx.cell? ⟨gt, j * 5 + 1, none⟩ = some (.int .u8 (x.k : Nat)) ∧ wx.cell? ⟨gt, j * 5 + 2, none⟩ = some (.int .u32 (x.e : Nat)) ∧ wx.cell? ⟨gt, j * 5 + 3, none⟩ = some (.int .u64 (x.s : Nat)) ∧ wx.cell? ⟨gt, j * 5 + 4, none⟩ = some (.bool x.bad) ∧ wx.cell? ⟨gt, m * 5, none⟩ = some (.int .i64 (y.b : Nat)) ∧ wx.cell? ⟨gt, m * 5 + 1, none⟩ = some (.int .u8 (y.k : Nat)) ∧ wx.cell? ⟨gt, m * 5 + 2, none⟩ = some (.int .u32 (y.e : Nat)) ∧ wx.cell? ⟨gt, m * 5 + 3, none⟩ = some (.int .u64 (y.s : Nat)) ∧ wx.cell? ⟨gt, m * 5 + 4, none⟩ = some (.bool y.bad)) := fun wx h1 => by
            have q := UR.out.new h1
            exact ⟨row_cell (j := 0) q hx (by omega) rfl, row_cell (j := 1) q hx (by omega) rfl, row_cell (j := 2) q hx (by omega) rfl, row_cell (j := 3) q hx (by omega) rfl, row_cell (j := 4) q hx (by omega) rfl, row_cell (j := 0) q hy (by omega) rfl, row_cell (j := 1) q hy (by omega) rfl, row_cell (j := 2) q hy (by omega) rfl, row_cell (j := 3) q hy (by omega) rfl, row_cell (j := 4) q hy (by omega) rfl⟩
          have D1 : Hid (New wr wr.drew) := (Kept.refl _ _).drew
          obtain ⟨a0, a1, a2, a3, a4, b0, b1, b2, b3, b4⟩ := SA.out wr (Kept.refl _ _)
          have v1 : (j : Int) < (n : Int) := by omega
          have v2 : (m : Int) < (n : Int) := by omega
          have v3 : (0 : Int) ≤ (j : Int) := by omega
          have v4 : (0 : Int) ≤ (m : Int) := by omega
          have v5 : IntKind.i64.wrap ((j : Int) - 1) = (m : Int) := by rw [IntKind.wrap_i64]; omega
          have v6 : decide ((0 : Int) < (j : Int)) = true := decide_eq_true (by omega)
          have HSQ : Hid (seqAt l' j = x.s ∧ seqAt l' m = y.s) := by
            unfold seqAt
            rw [hx, hy]
            exact ⟨rfl, rfl⟩
          clear hx hy
          by_cases hlt2 : x.s < y.s
          · have HCV : Hid (cmpV x.s y.s = -1) := by show _ = _; unfold cmpV; rw [if_pos hlt2]
            have HBB : Hid (bub m (swp l' m) = insG l k) := by
              show _ = _
              rw [← UB.out, ← HM.out]
              simp only [bub]
              rw [HM.out, HSQ.out.1, HSQ.out.2, if_pos hlt2]
            clear hlt2
            go_wp2_with fail
            go_region_held3 (fun wx => wx.cell? ⟨gt, j * 5, none⟩ = some (.int .i64 (x.b : Nat)) ∧ wx.cell? ⟨gt, j * 5 + 1, none⟩ = some (.int .u8 (x.k : Nat)) ∧ wx.cell? ⟨gt, j * 5 + 2, none⟩ = some (.int .u32 (x.e : Nat)) ∧ wx.cell? ⟨gt, j * 5 + 3, none⟩ = some (.int .u64 (x.s : Nat)) ∧ wx.cell? ⟨gt, j * 5 + 4, none⟩ = some (.bool x.bad) ∧ wx.cell? ⟨gt, m * 5, none⟩ = some (.int .i64 (y.b : Nat)) ∧ wx.cell? ⟨gt, m * 5 + 1, none⟩ = some (.int .u8 (y.k : Nat)) ∧ wx.cell? ⟨gt, m * 5 + 2, none⟩ = some (.int .u32 (y.e : Nat)) ∧ wx.cell? ⟨gt, m * 5 + 3, none⟩ = some (.int .u64 (y.s : Nat)) ∧ wx.cell? ⟨gt, m * 5 + 4, none⟩ = some (.bool y.bad))
              (first
                | assumption
                | exact SA.out _ (Kept.refl _ _)
                | exact SA.out _ D1.out
                | exact SA.out _ (D1.out.new KC.out)
                | fail)
              (first
                | (go_at_call 22; refine (tkCmp_any x y _).mono ?_; rintro e wC ⟨rfl, h1⟩; have KC := Lib.hid h1; clear h1; rw [HCV.out]))
            all_goals
              have N5 : Hid (New wr wC) := D1.out.new KC.out
              have URC := Lib.hid (UR.out.new N5.out)
              have UKC := Lib.hid (UK.out.new N5.out)
              clear a0 a1 a2 a3 a4 b0 b1 b2 b3 b4
              obtain ⟨a0, a1, a2, a3, a4, b0, b1, b2, b3, b4⟩ := SA.out wC N5.out
              have f0 := URC.out.free (j * 5)
              have f1 := URC.out.free (j * 5 + 1)
              have f2 := URC.out.free (j * 5 + 2)
              have f3 := URC.out.free (j * 5 + 3)
              have f4 := URC.out.free (j * 5 + 4)
              have g0 := URC.out.free (m * 5)
              have g1 := URC.out.free (m * 5 + 1)
              have g2 := URC.out.free (m * 5 + 2)
              have g3 := URC.out.free (m * 5 + 3)
              have g4 := URC.out.free (m * 5 + 4)
              clear SA UB UR UK D1 KC N5
              go_wp2_with fail
              go_region
              all_goals
                obtain ⟨w5, hw5⟩ : ∃ w5, w5 = ((((wC.setCell ⟨gt, j * 5, none⟩ (.int .i64 (y.b : Nat))).setCell ⟨gt, j * 5 + 1, none⟩ (.int .u8 (y.k : Nat))).setCell ⟨gt, j * 5 + 2, none⟩ (.int .u32 (y.e : Nat))).setCell ⟨gt, j * 5 + 3, none⟩ (.int .u64 (y.s : Nat))).setCell ⟨gt, j * 5 + 4, none⟩ (.bool y.bad) := ⟨_, rfl⟩
                obtain ⟨bs5, ks5⟩ := row_put (b := y) URC.out (by rw [UL.out]; omega) hw5
                obtain ⟨w6, hw6⟩ : ∃ w6, w6 = ((((w5.setCell ⟨gt, m * 5, none⟩ (.int .i64 (x.b : Nat))).setCell ⟨gt, m * 5 + 1, none⟩ (.int .u8 (x.k : Nat))).setCell ⟨gt, m * 5 + 2, none⟩ (.int .u32 (x.e : Nat))).setCell ⟨gt, m * 5 + 3, none⟩ (.int .u64 (x.s : Nat))).setCell ⟨gt, m * 5 + 4, none⟩ (.bool x.bad) := ⟨_, rfl⟩
                obtain ⟨bs6, ks6⟩ := row_put (b := x) bs5 (by rw [List.length_set, UL.out]; omega) hw6
                have ESW : (l'.set j y).set m x = swp l' m := by
                  unfold swp
                  rw [HM.out, HXY.out.1, HXY.out.2]
                rw [ESW] at bs6
                have E6 : Hid (Blk w6.drew gt 36 (tRow (swp l' m) junk)) := bs6.drew
                have K6 : Hid (Kept (· = gt) w w6.drew) := ((UKC.out.trans ks5 fun _ _ h => h).trans ks6 fun _ _ h => h).drew
                have UL2 : Hid ((swp l' m).length = n) := (swp_len l' m).trans UL.out
                have HW : Hid (w6 = ((((((((((wC.setCell ⟨gt, j * 5, none⟩ (.int .i64 (y.b : Nat))).setCell ⟨gt, j * 5 + 1, none⟩ (.int .u8 (y.k : Nat))).setCell ⟨gt, j * 5 + 2, none⟩ (.int .u32 (y.e : Nat))).setCell ⟨gt, j * 5 + 3, none⟩ (.int .u64 (y.s : Nat))).setCell ⟨gt, j * 5 + 4, none⟩ (.bool y.bad)).setCell ⟨gt, m * 5, none⟩ (.int .i64 (x.b : Nat))).setCell ⟨gt, m * 5 + 1, none⟩ (.int .u8 (x.k : Nat))).setCell ⟨gt, m * 5 + 2, none⟩ (.int .u32 (x.e : Nat))).setCell ⟨gt, m * 5 + 3, none⟩ (.int .u64 (x.s : Nat))).setCell ⟨gt, m * 5 + 4, none⟩ (.bool x.bad))) := by rw [hw5] at hw6; exact hw6
                clear hw5 hw6 bs5 bs6 ks5 ks6 ESW a0 a1 a2 a3 a4 b0 b1 b2 b3 b4 f0 f1 f2 f3 f4 g0 g1 g2 g3 g4
                go_wp2
                go_roundw
                case rel =>
                  refine ⟨m, swp l' m, by omega, by first | rfl | go_num, HBB, UL2, ?_, ?_⟩
                  · have := E6; rw [HW.out] at this; exact this
                  · have := K6; rw [HW.out] at this; exact this
                case measure => simp [intOf]; omega
          · obtain ⟨z, hz⟩ : ∃ z, cmpV x.s y.s = z := ⟨_, rfl⟩
            have HCV := Lib.hid hz
            have hz0 : 0 ≤ z := by
              rw [← hz]
              unfold cmpV
              rw [if_neg hlt2]
              split <;> omega
            have hz1 : decide (z < 0) = false := decide_eq_false (by omega)
            have HBB : Hid (l' = insG l k) := by
              show _ = _
              rw [← UB.out, ← HM.out]
              simp only [bub]
              rw [HM.out, HSQ.out.1, HSQ.out.2, if_neg hlt2]
            clear hlt2 hz
            go_wp2_with fail
            go_region_held3 (fun wx => wx.cell? ⟨gt, j * 5, none⟩ = some (.int .i64 (x.b : Nat)) ∧ wx.cell? ⟨gt, j * 5 + 1, none⟩ = some (.int .u8 (x.k : Nat)) ∧ wx.cell? ⟨gt, j * 5 + 2, none⟩ = some (.int .u32 (x.e : Nat)) ∧ wx.cell? ⟨gt, j * 5 + 3, none⟩ = some (.int .u64 (x.s : Nat)) ∧ wx.cell? ⟨gt, j * 5 + 4, none⟩ = some (.bool x.bad) ∧ wx.cell? ⟨gt, m * 5, none⟩ = some (.int .i64 (y.b : Nat)) ∧ wx.cell? ⟨gt, m * 5 + 1, none⟩ = some (.int .u8 (y.k : Nat)) ∧ wx.cell? ⟨gt, m * 5 + 2, none⟩ = some (.int .u32 (y.e : Nat)) ∧ wx.cell? ⟨gt, m * 5 + 3, none⟩ = some (.int .u64 (y.s : Nat)) ∧ wx.cell? ⟨gt, m * 5 + 4, none⟩ = some (.bool y.bad))
              (first
                | assumption
                | exact SA.out _ (Kept.refl _ _)
                | exact SA.out _ D1.out
                | exact SA.out _ (D1.out.new KC.out)
                | fail)
              (first
                | (go_at_call 22; refine (tkCmp_any x y _).mono ?_; rintro e wC ⟨rfl, h1⟩; have KC := Lib.hid h1; clear h1; rw [HCV.out]))
            all_goals
              have N5 : Hid (New wr wC) := D1.out.new KC.out
              have E2 : Hid (Blk wC gt 36 (tRow (insG l (k + 1 - 1)) junk)) := by
                rw [show k + 1 - 1 = k by omega, ← HBB.out]
                exact UR.out.new N5.out
              have UK3 : Hid (Kept (· = gt) w wC) := UK.out.new N5.out
              clear a0 a1 a2 a3 a4 b0 b1 b2 b3 b4 SA UB UL UR UK
              go_wp2
              go_roundw
              case rel => exact ⟨k + 1, by omega, by omega, by go_num, E2, UK3⟩
              case measure => simp [intOf]; omega
    · have hkk : k - 1 = n - 1 := by omega
      have E : Hid (SortP w gt (insG l (n - 1)) junk (.returned (.tuple #[])) wr) := ⟨rfl, by rw [← hkk]; exact VB.out, VK.out⟩
      clear hkk
      go_wp2
      go_end0
      exact E.out
end Go.Proofs.YtgfdiboaiifdnaaGreat
