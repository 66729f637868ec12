/-
  What the law's chip is made of: arguments opened; a page's bytes.
-/
import Derived.Test.YtbiihjdjbknibaaGreatC48
import Derived.Test.YtbiihjdjbknibaaGreatC43
import Derived.Test.YtbiihjdjbknibaaGreatC39
import Derived.Laws.BitsAllLaws
namespace Go.Proofs.YtbiihjdjbknibaaGreat
set_option maxRecDepth 100000
open Go.RowKit Go.ChangeShapes Go.WideShapes Go.ChangeAt Go.Deep

/-- A sheet's cells. -/
def ShOk (w : World) (us : List Value) : Prop := ∃ (d : Int) (cA : Option Addr) (cn cc : Nat) (ce : List CE) (q : Nat) (bA : Option Addr) (bn bc : Nat) (bl : List Nat),
  us = [.int .i64 d, .slice cA cn cc, .int .u8 (q : Nat), .slice bA bn bc] ∧ CIn w cA cn ce ∧ cn ≤ maxLen ∧ q < 256 ∧ Bts w bA bn bl ∧ bn ≤ 140737488351232
theorem ShOk.new {w w' : World} {us : List Value} (h : ShOk w us) (hk : New w w') : ShOk w' us := by
  obtain ⟨d, cA, cn, cc, ce, q, bA, bn, bc, bl, e, h1, h2, h3, h4, h5⟩ := h
  exact ⟨d, cA, cn, cc, ce, q, bA, bn, bc, bl, e, h1.new hk, h2, h3, h4.new hk, h5⟩
/-- Rows that are read: each of z cells, of which R holds. -/
def RowR (R : World → List Value → Prop) (z : Nat) (w : World) (A : Option Addr) (n : Nat) : Prop :=
  ∀ i, i < n → ∃ g o us, A = some ⟨g, o, none⟩ ∧ us.length = z ∧ (∀ (j : Nat) (v : Value), us[j]? = some v → w.cell? ⟨g, o + (i * z + j), none⟩ = some v) ∧ R w us
theorem RowR.new {R : World → List Value → Prop} {z : Nat} {w w' : World} {A : Option Addr} {n : Nat} (hR : ∀ {us}, R w us → R w' us) (h : RowR R z w A n) (hk : New w w') : RowR R z w' A n := fun i hi => by
  obtain ⟨g, o, us, e, hl, hc, hr⟩ := h i hi
  exact ⟨g, o, us, e, hl, fun j v hv => hk.cell (hc j v hv) id, hR hr⟩
/-- A block's cells. -/
def BkOk (w : World) (us : List Value) : Prop := ∃ (b : Bool) (k e s : Nat) (sA : Option Addr) (sn sc : Nat),
  us = [.bool b, .int .u8 (k : Nat), .int .u8 (e : Nat), .int .u8 (s : Nat), .slice sA sn sc] ∧ k < 256 ∧ e < 256 ∧ s < 256 ∧ RowR ShOk 4 w sA sn ∧ sn ≤ maxLen
theorem BkOk.new {w w' : World} {us : List Value} (h : BkOk w us) (hk : New w w') : BkOk w' us := by
  obtain ⟨b, k, e, s, sA, sn, sc, h0, h1, h2, h3, h4, h5⟩ := h
  exact ⟨b, k, e, s, sA, sn, sc, h0, h1, h2, h3, h4.new (fun h => h.new hk) hk, h5⟩
def BksIn (w : World) (A : Option Addr) (n : Nat) : Prop := RowR BkOk 5 w A n
theorem BksIn.new {w w' : World} {A : Option Addr} {n : Nat} (h : BksIn w A n) (hk : New w w') : BksIn w' A n := RowR.new (fun h => h.new hk) h hk

section
variable {H : Type} {enc : TypeId × Value → H} {W : World}
theorem Rds.changes_ {cs : List Value} {d : DataW H} (h : Rds enc Tryz.prog W 44 cs d) : ∃ A n c es, cs = [.slice A n c] ∧ CsIn W A n c es := by
  have c6 : Tryz.prog.cellsOf 105 = 6 := by kernel_rfl
  have b72 : Tryz.prog.bytesOf 105 = 72 := by kernel_rfl
  obtain ⟨A, n, c, hcs, hA, h1, h2, h3, h4⟩ := h.list_ Tryz.underlying44 (by rw [c6]; omega)
  rw [c6] at h4
  rw [b72] at h3
  subst hcs
  rcases Nat.eq_zero_or_pos n with h0 | h0
  · subst h0
    exact ⟨A, 0, c, [], rfl, CIn.nil _ _, hA, h1, h2, by simp, by simp⟩
  obtain ⟨g, o, rfl, hi⟩ := h4 h0
  obtain ⟨es, hl, he⟩ := listOf (R := fun i (e : CE) => (∀ (j : Nat) (u : Value), e.cells[j]? = some u → W.cell? ⟨g, o + (i * 6 + j), none⟩ = some u) ∧ COk W e ∧ KyIn e.f.k) n fun i hin => by
    obtain ⟨us, d', _, hu, hr⟩ := hi i hin
    obtain ⟨e, rfl, ho, hk⟩ := hr.change_
    exact ⟨e, hu, ho, hk⟩
  refine ⟨some ⟨g, o, none⟩, n, c, es, rfl, ⟨⟨by rw [ces_len, hl], fun _ => ⟨g, o, rfl, fun j u hj => ?_⟩⟩, fun e hm => ?_⟩, hA, h1, h2, h3, fun e hm => ?_⟩
  · have hjl : j < es.length * 6 := by have := (List.getElem?_eq_some_iff.1 hj).1; rwa [ces_len] at this
    obtain ⟨e, e1, e2⟩ := ces_get es j hjl
    have := (he _ _ e1).1 (j % 6) u (e2 ▸ hj)
    rwa [show j / 6 * 6 + j % 6 = j by omega] at this
  · obtain ⟨i, hi2⟩ := List.mem_iff_getElem?.1 hm
    exact (he i e hi2).2.1
  · obtain ⟨i, hi2⟩ := List.mem_iff_getElem?.1 hm
    exact (he i e hi2).2.2

theorem one_cell {cs : List Value} {o : Nat} {v : Value} (h : (cs.drop o).take 1 = [v]) : cs[o]? = some v := by
  have := congrArg (fun l => l[0]?) h
  simp only [List.getElem?_take, List.getElem?_drop, List.getElem?_cons_zero] at this
  simpa using this

theorem Rds.sheet_ {cs : List Value} {d : DataW H} (h : Rds enc Tryz.prog W 72 cs d) : ShOk W cs := by
  obtain ⟨hl, hf⟩ := h.field Tryz.underlying72
  have h4 : Tryz.prog.cellsOf 72 = 4 := by kernel_rfl
  have c0 : Tryz.prog.cellsOf 3 = 1 := by kernel_rfl
  have c1 : Tryz.prog.cellsOf 44 = 1 := by kernel_rfl
  have c2 : Tryz.prog.cellsOf 5 = 1 := by kernel_rfl
  have c3 : Tryz.prog.cellsOf 52 = 1 := by kernel_rfl
  rw [h4] at hl
  obtain ⟨d0, r0⟩ := hf 0 _ rfl
  obtain ⟨d1, r1⟩ := hf 1 _ rfl
  obtain ⟨d2, r2⟩ := hf 2 _ rfl
  obtain ⟨d3, r3⟩ := hf 3 _ rfl
  obtain ⟨x, e0, _⟩ := r0.int_ Tryz.underlying3
  obtain ⟨A, n, c, es, e1, hc⟩ := r1.changes_
  obtain ⟨y, e2, hy⟩ := r2.int_ Tryz.underlying5
  obtain ⟨q, rfl, hq⟩ := u8_nat hy
  obtain ⟨B, m, k, l, e3, hb⟩ := r3.bytes_ Tryz.underlying52 Tryz.underlying5 (by kernel_rfl) (by kernel_rfl)
  have e0 : (cs.drop 0).take (Tryz.prog.cellsOf 3) = [.int .i64 x] := e0
  have e1 : (cs.drop 1).take (Tryz.prog.cellsOf 44) = [.slice A n c] := e1
  have e2 : (cs.drop 2).take (Tryz.prog.cellsOf 5) = [.int .u8 (q : Nat)] := e2
  have e3 : (cs.drop 3).take (Tryz.prog.cellsOf 52) = [.slice B m k] := e3
  rw [c0] at e0
  rw [c1] at e1
  rw [c2] at e2
  rw [c3] at e3
  refine ⟨x, A, n, c, es, q, B, m, k, l, ?_, hc.1, Nat.le_trans hc.2.2.1 hc.2.2.2.1, hq, hb.bts, Nat.le_trans hb.le hb.cap⟩
  apply List.ext_getElem?
  intro i
  match i with
  | 0 => exact one_cell e0
  | 1 => exact one_cell e1
  | 2 => exact one_cell e2
  | 3 => exact one_cell e3
  | i + 4 => rw [List.getElem?_eq_none (by omega), List.getElem?_eq_none (by simp)]

theorem Rds.sheets_ {cs : List Value} {d : DataW H} (h : Rds enc Tryz.prog W 65 cs d) : ∃ A n c, cs = [.slice A n c] ∧ RowR ShOk 4 W A n ∧ n ≤ maxLen := by
  have h4 : Tryz.prog.cellsOf 72 = 4 := by kernel_rfl
  obtain ⟨A, n, c, hcs, hA, h1, h2, _, hi⟩ := h.list_ Tryz.underlying65 (by rw [h4]; omega)
  rw [h4] at hi
  refine ⟨A, n, c, hcs, fun i hin => ?_, Nat.le_trans h1 h2⟩
  obtain ⟨g, o, rfl, hx⟩ := hi (by omega)
  obtain ⟨us, d', hl, hu, hr⟩ := hx i hin
  exact ⟨g, o, us, rfl, hl, hu, hr.sheet_⟩

theorem Rds.block_ {cs : List Value} {d : DataW H} (h : Rds enc Tryz.prog W 67 cs d) : BkOk W cs := by
  obtain ⟨hl, hf⟩ := h.field Tryz.underlying67
  have h5 : Tryz.prog.cellsOf 67 = 5 := by kernel_rfl
  have c0 : Tryz.prog.cellsOf 4 = 1 := by kernel_rfl
  have c2 : Tryz.prog.cellsOf 5 = 1 := by kernel_rfl
  have c4 : Tryz.prog.cellsOf 65 = 1 := by kernel_rfl
  rw [h5] at hl
  obtain ⟨d0, r0⟩ := hf 0 _ rfl
  obtain ⟨d1, r1⟩ := hf 1 _ rfl
  obtain ⟨d2, r2⟩ := hf 2 _ rfl
  obtain ⟨d3, r3⟩ := hf 3 _ rfl
  obtain ⟨d4, r4⟩ := hf 4 _ rfl
  obtain ⟨b, e0⟩ := r0.bool_ Tryz.underlying4
  obtain ⟨y1, e1, hy1⟩ := r1.int_ Tryz.underlying5
  obtain ⟨k, rfl, hk⟩ := u8_nat hy1
  obtain ⟨y2, e2, hy2⟩ := r2.int_ Tryz.underlying5
  obtain ⟨e, rfl, he⟩ := u8_nat hy2
  obtain ⟨y3, e3, hy3⟩ := r3.int_ Tryz.underlying5
  obtain ⟨s, rfl, hs⟩ := u8_nat hy3
  obtain ⟨A, n, c, e4, hr, hn⟩ := r4.sheets_
  have e0 : (cs.drop 0).take (Tryz.prog.cellsOf 4) = [.bool b] := e0
  have e1 : (cs.drop 1).take (Tryz.prog.cellsOf 5) = [.int .u8 (k : Nat)] := e1
  have e2 : (cs.drop 2).take (Tryz.prog.cellsOf 5) = [.int .u8 (e : Nat)] := e2
  have e3 : (cs.drop 3).take (Tryz.prog.cellsOf 5) = [.int .u8 (s : Nat)] := e3
  have e4 : (cs.drop 4).take (Tryz.prog.cellsOf 65) = [.slice A n c] := e4
  rw [c0] at e0
  rw [c2] at e1 e2 e3
  rw [c4] at e4
  refine ⟨b, k, e, s, A, n, c, ?_, hk, he, hs, hr, hn⟩
  apply List.ext_getElem?
  intro i
  match i with
  | 0 => exact one_cell e0
  | 1 => exact one_cell e1
  | 2 => exact one_cell e2
  | 3 => exact one_cell e3
  | 4 => exact one_cell e4
  | i + 5 => rw [List.getElem?_eq_none (by omega), List.getElem?_eq_none (by simp)]

theorem Arg.blocks_ {base : Nat} {v : Value} {d : DataW H} {p : List MemPlace} (h : Arg enc Tryz.prog W base 22 v d p) : ∃ A n c, v = .slice A n c ∧ BksIn W A n ∧ n ≤ maxLen := by
  have h5 : Tryz.prog.cellsOf 67 = 5 := by kernel_rfl
  obtain ⟨A, n, c, hcs, hA, h1, h2, _, hi⟩ := (h.rdsS Tryz.underlying22).list_ Tryz.underlying22 (by rw [h5]; omega)
  rw [h5] at hi
  injection hcs with hv _
  subst hv
  refine ⟨A, n, c, rfl, fun i hin => ?_, Nat.le_trans h1 h2⟩
  obtain ⟨g, o, rfl, hx⟩ := hi (by omega)
  obtain ⟨us, d', hl, hu, hr⟩ := hx i hin
  exact ⟨g, o, us, rfl, hl, hu, hr.block_⟩
end

theorem pu128 (l : List CT) : (puL 128 l).length = 0 ∨ (puL 128 l).length = 128 := by
  unfold puL sPutL
  split
  · split
    · rename_i h
      exact .inr (page_length _ _ _ (by have := h.2.2; omega))
    · exact .inl rfl
  · exact .inl rfl
theorem pd128 (q : Nat) : (pdL 128 q).length = 0 ∨ (pdL 128 q).length = 128 := by
  unfold pdL sPutL
  split
  · exact .inl rfl
  · split
    · rename_i h
      exact .inr (page_length _ _ _ (by have := h.2.2; omega))
    · exact .inl rfl

/-- A page comes back. -/
def PgaP (w : World) (e : Ending) (w' : World) : Prop := ∃ A c l, e = .returned (.slice A 128 c) ∧ Bts w' A 128 l ∧ (∀ a, A = some a → w.heap.size ≤ a.block) ∧ New w w'

set_option maxHeartbeats 6400000 in
theorem page_any (d : Int) (cA : Option Addr) (cn cc : Nat) (ce : List CE) (q : Nat) (bA : Option Addr) (bn bc : Nat) (bl : List Nat) (w : World) (hc : CIn w cA cn ce) (hcn : cn ≤ maxLen) (hq : q < 256) (hb : Bts w bA bn bl) (hbn : bn ≤ 140737488351232) :
    Calls Tryz.prog 20 #[.agg #[.int .i64 d, .slice cA cn cc, .int .u8 (q : Nat), .slice bA bn bc]] w (PgaP w) := by
  obtain ⟨i0, hi, hz0, hz1, hz2⟩ := info_parts info_u8
  have hmk := fun u => run_make_bytes (P := Tryz.prog) 52 5 i0 Tryz.underlying52 hi hz0 hz1 hz2 .i64 .i64 128 128 128 128 rfl rfl (Nat.le_refl _) (by omega) u
  obtain ⟨Z, hZ⟩ : ∃ Z, Z = List.replicate 128 0 := ⟨_, rfl⟩
  have HZl : Hid (Z.length = 128) := by rw [Hid, hZ, List.length_replicate]
  have HZb : Hid (∀ x ∈ Z, x < 256) := by rw [hZ]; intro x hx; rw [List.eq_of_mem_replicate hx]; omega
  rw [← hZ] at hmk
  clear hZ
  obtain ⟨w1, hw1⟩ : ∃ w1, w1 = w.alloc (.cells #[.int .i64 d, .slice cA cn cc, .int .u8 (q : Nat), .slice bA bn bc] 72) := ⟨_, rfl⟩
  have K1 : Hid (New w w1) := by rw [hw1]; exact (Kept.refl _ _).alloc _
  have BX : Hid (Blk w1 w.heap.size 72 [.int .i64 d, .slice cA cn cc, .int .u8 (q : Nat), .slice bA bn bc]) := by rw [hw1]; exact Blk.made w _ _
  have S4 : Hid (∀ u, New w1 u → u.cell? ⟨w.heap.size, 0, none⟩ = some (.int .i64 d) ∧ u.cell? ⟨w.heap.size, 1, none⟩ = some (.slice cA cn cc) ∧ u.cell? ⟨w.heap.size, 2, none⟩ = some (.int .u8 (q : Nat)) ∧ u.cell? ⟨w.heap.size, 3, none⟩ = some (.slice bA bn bc)) := fun u hu => by
    have h := BX.out.kept hu id
    exact ⟨h.cell 0, h.cell 1, h.cell 2, h.cell 3⟩
  have C1 := Lib.hid (fun u hu => rrecPut_any 128 cA cn cc ce u ((hc.new K1.out).new hu) hcn)
  have C2 := Lib.hid (fun u => rputDrop_any 128 q u (by omega))
  have HB := Lib.hid (hb.new K1.out)
  have HW1 := Lib.hid hw1
  clear hw1 hc hcn hb
  go_enter Tryz.func20, Tryz.ntmps20
  go_upto_block 0 with fail
  rw [← HW1.out]
  clear HW1 BX
  generalize w.heap.size = gx at *
  go_cut [3] (fun v wx => ∃ (A : Option Addr) (c m : Nat) (l : List Nat), v = .slice A m c ∧ (m = 0 ∨ m = 128) ∧ Hid (l.length = m) ∧ Hid (OwnB wx 5 w1.heap.size A c l) ∧ Hid (New w1 wx))
  case first =>
    by_cases h2 : d = 2
    · have d2 : (d == 2) = true := beq_iff_eq.2 h2
      obtain ⟨x0, x1, x2, x3⟩ := S4.out w1 (Kept.refl _ _)
      clear h2 C1
      go_wp2_with fail
      refine (C2.out _).mono ?_
      rintro e w2 ⟨A2, c2, rfl, o2, k2⟩
      have hl := pd128 q
      have O2 := Lib.hid o2
      have K2 := Lib.hid k2
      clear o2 k2 C2
      generalize hpl : pdL 128 q = pl at *
      clear hpl
      generalize hpn : pl.length = pn at *
      have HPN := Lib.hid hpn
      clear hpn
      go_wp2
      go_meet
      case rel => exact ⟨A2, c2, pn, pl, rfl, hl, HPN, O2, K2⟩
    · have d2 : (d == 2) = false := beq_eq_false_iff_ne.2 h2
      by_cases h3 : d = 3
      · have d3 : (d == 3) = true := beq_iff_eq.2 h3
        clear h2 h3 C1 C2
        obtain ⟨x0, x1, x2, x3⟩ := S4.out w1 (Kept.refl _ _)
        go_wp2
        go_meet
        case rel => exact ⟨none, 0, 0, [], rfl, .inl rfl, rfl, OwnB.nil _ _ _, Kept.refl _ _⟩
      · have d3 : (d == 3) = false := beq_eq_false_iff_ne.2 h3
        clear h2 h3 C2
        obtain ⟨x0, x1, x2, x3⟩ := S4.out w1 (Kept.refl _ _)
        go_wp2_with fail
        refine (C1.out _ (Kept.refl _ _)).mono ?_
        rintro e w2 ⟨A2, c2, rfl, o2, k2⟩
        have hl := pu128 (cts ce)
        have O2 := Lib.hid o2
        have K2 := Lib.hid k2
        clear o2 k2 C1
        generalize puL 128 (cts ce) = pl at *
        generalize puE 128 (cts ce) = pe at *
        generalize hpn : pl.length = pn at *
        have HPN := Lib.hid hpn
        clear hpn
        go_wp2
        go_meet
        case rel => exact ⟨A2, c2, pn, pl, rfl, hl, HPN, O2, K2⟩
  case rest =>
    obtain ⟨A, c, m, l, rfl, hm, HLM, HO, HK⟩ := hcut
    clear C1 C2
    obtain ⟨r, dm⟩ : ∃ r : Bool, ((m : Int) == 0) = r := ⟨_, rfl⟩
    have HR : Hid (r = true → m = 0) := fun h => by rw [h] at dm; have := beq_iff_eq.1 dm; omega
    have HR2 : Hid (r = false → m = 128) := fun h => by
      rw [h] at dm
      have := beq_eq_false_iff_ne.1 dm
      rcases hm with h | h
      · omega
      · exact h
    have HDM := Lib.hid dm
    clear hm
    go_upto_if 27 with fail
    clear dm
    go_cut [3, 4] (fun v _ wx => ∃ (g c : Nat) (xs : List Nat), v = .slice (some ⟨g, 0, none⟩) 128 c ∧ w1.heap.size ≤ g ∧ 128 ≤ xs.length ∧ Hid (Blk wx g 5 (xs.map byt)) ∧ Hid (∀ x ∈ xs, x < 256) ∧ Hid (New w1 wx))
    case first =>
      cases r
      rotate_left
      · clear HLM HO
        have BZ : Hid (∀ u : World, Blk (u.alloc (.cells (rawB Z) 5)) u.heap.size 5 (Z.map byt)) := fun u => Blk.madeB u 5 Z
        obtain ⟨w2, hw2⟩ : ∃ w2, w2 = wc.alloc (.cells (rawB Z) 5) := ⟨_, rfl⟩
        have B2 : Hid (Blk w2 wc.heap.size 5 (Z.map byt)) := by rw [hw2]; exact BZ.out wc
        have K2 : Hid (New w1 w2) := by rw [hw2]; exact HK.out.alloc _
        have hgB : w1.heap.size ≤ wc.heap.size := HK.out.size
        have HW2 := Lib.hid hw2
        clear hw2 BZ
        go_wp2_with fail
        rw [← HW2.out]
        clear HW2 HK
        generalize wc.heap.size = g at *
        go_loopw [4] (fun i wr => ∃ (k : Nat) (xs : List Nat), k ≤ 128 ∧ i = .int .i64 k ∧ Hid (xs.length = 128) ∧ Hid (Blk wr g 5 (xs.map byt)) ∧ Hid (∀ x ∈ xs, x < 256) ∧ Hid (New w1 wr)) (fun i _ => 128 - (intOf i).toNat)
        case atStart => exact ⟨0, Z, by omega, rfl, HZl, B2, HZb, K2⟩
        case round =>
          obtain ⟨k, xs, hk, rfl, HXL, VB, VX, VK⟩ := hrel
          clear B2 K2 HZl HZb
          obtain ⟨x0, x1, x2, x3⟩ := S4.out wr VK.out
          by_cases hlt : k < 128
          · have dk : decide (k < 128) = true := decide_eq_true hlt
            by_cases hb0 : 0 < bn
            · have db : decide (0 < bn) = true := decide_eq_true hb0
              obtain ⟨r, hr⟩ : ∃ r, r = k % bn := ⟨_, rfl⟩
              have hml : r < bn := by rw [hr]; exact Nat.mod_lt _ hb0
              obtain ⟨g3, o3, y, rfl, hy, hyb, hc3⟩ := (HB.out.new VK.out).at_ (k := r) hml
              have hmod : ((k : Int) % (bn : Int)) = (r : Int) := by rw [hr]; omega
              obtain ⟨z, hz⟩ : ∃ z, xs[k]? = some z := ⟨_, List.getElem?_eq_getElem (by rw [HXL.out]; exact hlt)⟩
              have hcell : wr.cell? ⟨g, k, none⟩ = some (.int .u8 (z : Int)) := by rw [VB.out.cell, List.getElem?_map, hz]; rfl
              have hfree := VB.out.free k
              have VB2 : Hid (Blk (wr.setCell ⟨g, k, none⟩ (.int .u8 (y : Int))) g 5 ((xs.set k y).map byt)) := by
                have := VB.out.put k (.int .u8 (y : Int))
                rwa [set_any _ k y (.int .u8 (y : Int)) rfl] at this
              have VX2 : Hid (∀ x ∈ xs.set k y, x < 256) := fun x hx => by
                rcases List.mem_or_eq_of_mem_set hx with h | h
                · exact VX.out x h
                · rw [h]; exact hyb
              have VK2 : Hid (New w1 (wr.setCell ⟨g, k, none⟩ (.int .u8 (y : Int)))) := VK.out.setCell (p := ⟨g, k, none⟩) (fun hh => by simp at hh; omega) _
              have HXL2 : Hid ((xs.set k y).length = 128) := by rw [Hid, List.length_set]; exact HXL.out
              clear hr hy hz VB VX HXL
              go_wp2
              go_region
              all_goals go_wp2
              all_goals go_roundw
              case rel => exact ⟨k + 1, _, by omega, by go_num, HXL2, VB2.out.drew, VX2, VK2.out.drew⟩
              case measure => simp [intOf]; omega
            · have db : decide (0 < bn) = false := decide_eq_false hb0
              go_wp2
              go_meet
              case rel => exact ⟨g, 128, xs, rfl, hgB, by rw [HXL.out]; exact Nat.le_refl _, VB, VX, VK⟩
          · have dk : decide (k < 128) = false := decide_eq_false hlt
            go_wp2
            go_meet
            case rel => exact ⟨g, 128, xs, rfl, hgB, by rw [HXL.out]; exact Nat.le_refl _, VB, VX, VK⟩
      · have HX : ∃ (g : Nat) (xs : List Nat), A = some ⟨g, 0, none⟩ ∧ w1.heap.size ≤ g ∧ 128 ≤ xs.length ∧ Hid (Blk wc g 5 (xs.map byt)) ∧ Hid (∀ x ∈ xs, x < 256) := by
          have hm := HR2.out rfl
          obtain ⟨hb1, ⟨_, _, e⟩ | ⟨g, sp, e, hB, hblk, hsp, _, _⟩⟩ := HO.out
          · have := HLM.out
            rw [e] at this
            simp at this; omega
          · refine ⟨g, l ++ sp, e, hB, by rw [List.length_append, HLM.out]; omega, hblk, fun x hx => ?_⟩
            rcases List.mem_append.1 hx with h | h
            · exact hb1 x h
            · exact hsp x h
        obtain ⟨g, xs, rfl, hB, hx1, hx2, hx3⟩ := HX
        have hm128 := HR2.out rfl
        clear HLM HO
        go_wp2
        go_meet
        case rel => exact ⟨g, c, xs, rfl, hB, hx1, hx2, hx3, HK⟩
    case rest =>
      obtain ⟨g, c, xs, rfl, hgB, hxl, VB, VX, VK⟩ := hcut
      clear HK HZl HZb hmk HO HLM
      go_wp2_with fail
      go_loopw [5] (fun i wr => ∃ (k : Nat) (xs : List Nat), k ≤ 128 ∧ i = .int .i64 k ∧ Hid (128 ≤ xs.length) ∧ Hid (Blk wr g 5 (xs.map byt)) ∧ Hid (∀ x ∈ xs, x < 256) ∧ Hid (New w1 wr)) (fun i _ => 128 - (intOf i).toNat)
      case atStart => exact ⟨0, xs, by omega, rfl, hxl, VB, VX, VK⟩
      case round =>
        obtain ⟨k, xs, hk, rfl, HXL, VB, VX, VK⟩ := hrel
        obtain ⟨x0, x1, x2, x3⟩ := S4.out wr VK.out
        have E9 : Hid (PgaP w (.returned (.slice (some ⟨g, 0, none⟩) 128 c)) wr) := by
          have hlx := HXL.out
          refine ⟨some ⟨g, 0, none⟩, c, xs.take 128, rfl, ?_, fun a ha => by injection ha with ha; subst ha; exact Nat.le_trans K1.out.size hgB, K1.out.new VK.out⟩
          have hbt : Bts wr (some ⟨g, 0, none⟩) xs.length xs := by simpa using Bts.of_blkN (off := 0) (junk := []) (by simpa using VB.out) VX.out rfl
          exact hbt.take (k := 128) hlx
        by_cases h4 : d = 4
        · have d4 : (d == 4) = true := beq_iff_eq.2 h4
          by_cases hlt : k < 128
          · have dk : decide (k < 128) = true := decide_eq_true hlt
            by_cases hb0 : 0 < bn
            · have db : decide (0 < bn) = true := decide_eq_true hb0
              obtain ⟨r, hr⟩ : ∃ r, r = k % bn := ⟨_, rfl⟩
              have hml : r < bn := by rw [hr]; exact Nat.mod_lt _ hb0
              obtain ⟨g3, o3, y, rfl, hy, hyb, hc3⟩ := (HB.out.new VK.out).at_ (k := r) hml
              have hmod : ((k : Int) % (bn : Int)) = (r : Int) := by rw [hr]; omega
              obtain ⟨z, hz⟩ : ∃ z, xs[k]? = some z := ⟨_, List.getElem?_eq_getElem (by have := HXL.out; omega)⟩
              have hzb := VX.out z (List.mem_of_getElem? hz)
              have hor := u8_or_nat z y hzb hyb
              have hob : z ||| y < 256 := Nat.or_lt_two_pow (n := 8) hzb hyb
              have hcell : wr.cell? ⟨g, k, none⟩ = some (.int .u8 (z : Int)) := by rw [VB.out.cell, List.getElem?_map, hz]; rfl
              have hfree := VB.out.free k
              have VB2 : Hid (Blk (wr.setCell ⟨g, k, none⟩ (.int .u8 ((z ||| y : Nat) : Int))) g 5 ((xs.set k (z ||| y)).map byt)) := by
                have := VB.out.put k (.int .u8 ((z ||| y : Nat) : Int))
                rwa [set_any _ k (z ||| y) (.int .u8 ((z ||| y : Nat) : Int)) rfl] at this
              have VX2 : Hid (∀ x ∈ xs.set k (z ||| y), x < 256) := fun x hx => by
                rcases List.mem_or_eq_of_mem_set hx with h | h
                · exact VX.out x h
                · rw [h]; exact hob
              have VK2 : Hid (New w1 (wr.setCell ⟨g, k, none⟩ (.int .u8 ((z ||| y : Nat) : Int)))) := VK.out.setCell (p := ⟨g, k, none⟩) (fun hh => by simp at hh; omega) _
              have HXL2 : Hid (128 ≤ (xs.set k (z ||| y)).length) := by rw [Hid, List.length_set]; exact HXL.out
              clear hr hy hz hob VB VX HXL E9 h4
              go_wp2
              go_region
              all_goals go_wp2
              all_goals go_roundw
              case rel => exact ⟨k + 1, _, by omega, by go_num, HXL2, VB2.out.drew, VX2, VK2.out.drew⟩
              case measure => simp [intOf]; omega
            · have db : decide (0 < bn) = false := decide_eq_false hb0
              clear h4
              go_wp2
              go_ret
              exact E9.out
          · have dk : decide (k < 128) = false := decide_eq_false hlt
            clear h4
            go_wp2
            go_ret
            exact E9.out
        · have d4 : (d == 4) = false := beq_eq_false_iff_ne.2 h4
          clear h4
          go_wp2
          go_ret
          exact E9.out
end Go.Proofs.YtbiihjdjbknibaaGreat
