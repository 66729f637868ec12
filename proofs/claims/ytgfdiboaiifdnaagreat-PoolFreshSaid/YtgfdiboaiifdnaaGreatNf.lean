/-
  Contracts: a chip that is made; New.
-/
import Derived.Test.YtgfdiboaiifdnaaGreatNe
namespace Go.Proofs.YtgfdiboaiifdnaaGreat
open Go.ChangeShapes Go.WideShapes Go.ChangeAt Go.RowKit

def MadeP (w : World) (a b c d : Int) (A : Option Addr) (n cn : Nat) (B : Option Addr) (m cm : Nat) (e : Ending) (w' : World) : Prop :=
  ∃ g bl bb, e = .returned (.pointer (some ⟨g, 0, none⟩)) ∧ Blk w' g 61 [.int .i64 a, .int .i64 b, .int .i64 c, .int .i64 d, .slice A n cn, .slice B m cm, .bool false, .int .i64 0, .func (.func 59) #[] #[.pointer (some ⟨bl, 0, none⟩), .pointer (some ⟨bb, 0, none⟩)]] ∧
    Blk w' bl 44 [.slice none 0 0] ∧ Blk w' bb 3 [.int .i64 0] ∧ w.heap.size ≤ g ∧ w.heap.size ≤ bl ∧ w.heap.size ≤ bb ∧ New w w'

theorem made_any (a b c d : Int) (A : Option Addr) (n cn : Nat) (B : Option Addr) (m cm : Nat) (w : World) :
    Calls Tryz.prog 37 #[.agg #[.int .i64 a, .int .i64 b, .int .i64 c, .int .i64 d], .slice A n cn, .slice B m cm] w (MadeP w a b c d A n cn B m cm) := by
  go_enter Tryz.func37, Tryz.ntmps37
  go_wp2_with fail
  go_region_held3 (fun w' => w'.cell? ⟨w.heap.size, 0, none⟩ = some (.int .i64 a) ∧ w'.cell? ⟨w.heap.size, 1, none⟩ = some (.int .i64 b) ∧ w'.cell? ⟨w.heap.size, 2, none⟩ = some (.int .i64 c) ∧ w'.cell? ⟨w.heap.size, 3, none⟩ = some (.int .i64 d))
    (first | go_keep | (go_split_ands; refine ⟨?_, ?_, ?_, ?_⟩ <;> (refine HK.out.cell ?_ (fun f => f); assumption)))
    (first | (go_at_call 41; refine (striking_any _ _ _ _).mono ?_; rintro e w1 ⟨bl, bb, rfl, h1, h2, h3, h4, h5⟩; have H1 := Lib.hid h1; have H2 := Lib.hid h2; have H3 := Lib.hid h3; have H4 := Lib.hid h4; have HK := Lib.hid h5; clear h1 h2 h3 h4 h5))
  go_wp2
  go_ret
  have K1 : New w w1 := (((Kept.refl _ _).alloc _).drew).new HK.out
  have h3 := H3.out
  have h4 := H4.out
  simp at h3 h4
  exact ⟨w1.heap.size, bl, bb, rfl, Blk.made w1 _ _, H1.out.alloc _, H2.out.alloc _, K1.size, by omega, by omega, K1.alloc _⟩

/-- A chip comes back, in memory of its own. -/
def ChipP (w : World) (s : CSt) (e : Ending) (w' : World) : Prop :=
  ∃ g Q, e = .returned (.tuple #[.pointer (some ⟨g, 0, none⟩), .int .i64 0]) ∧ NChip Q w' g s ∧ (∀ b, Q b → w.heap.size ≤ b) ∧ New w w'

theorem NRep.of_new {w w' : World} {s : CSt} {g gc gb bl bb cc cb : Nat} (ok : s.Ok) (hh : s.hits = []) (hs : s.since = 0) (hd : s.dead = false) (hn : s.deeds = 0)
    (chip : Blk w' g 61 [.int .i64 (s.nb : Nat), .int .i64 (s.np : Nat), .int .i64 (s.nz : Nat), .int .i64 (s.ns : Nat), .slice (some ⟨gc, 0, none⟩) s.by_.length cc, .slice (some ⟨gb, 0, none⟩) s.bad.length cb,
      .bool false, .int .i64 0, .func (.func 59) #[] #[.pointer (some ⟨bl, 0, none⟩), .pointer (some ⟨bb, 0, none⟩)]])
    (cells : ∃ junk, Blk w' gc 5 (s.by_.map byt ++ junk)) (ccap : s.by_.length ≤ cc ∧ cc ≤ maxLen) (bads : ∃ junk, Blk w' gb 4 (s.bad.map boolV ++ junk)) (bcap : s.bad.length ≤ cb ∧ cb ≤ maxLen)
    (list : Blk w' bl 44 [.slice none 0 0]) (cnt : Blk w' bb 3 [.int .i64 0]) (hg : w.heap.size ≤ g) (hc : w.heap.size ≤ gc) (hb : w.heap.size ≤ gb) (hl : w.heap.size ≤ bl) (hbb : w.heap.size ≤ bb) :
    NRep (fun b => w.heap.size ≤ b ∧ b < w'.heap.size) w' g gc gb bl bb cc cb none 0 s := by
  obtain ⟨j1, h1⟩ := cells
  obtain ⟨j2, h2⟩ := bads
  exact { low := fun b h => h.2, ok := ok, qg := ⟨hg, chip.lt⟩, qc := ⟨hc, h1.lt⟩, qb := ⟨hb, h2.lt⟩, ql := ⟨hl, list.lt⟩, qn := ⟨hbb, cnt.lt⟩, chip := by rw [hd, hn]; exact chip,
          cells := ⟨j1, h1⟩, ccap := ccap, bads := ⟨j2, h2⟩, bcap := bcap, list := by rw [hh]; exact list, hcap := by rw [hh]; exact ⟨Nat.le_refl _, by simp⟩, cnt := by rw [hs]; exact cnt, hits := by rw [hh]; exact HitsT.nil _ _ _ _ }

theorem madeBools (n : Nat) : madeCells (Value.cells (.bool false)) n = ((List.replicate n false).map boolV).toArray := by
  simp [madeCells, Value.cells, boolV]
  apply Array.ext
  · simp
  · intro i h1 h2; simp [Nat.mod_one]

theorem run_make_bools {P : Program} (t e : TypeId) (i : TypeInfo) (ht : P.underlying t = some (.slice e)) (hi : P.info? e = some i) (hz : i.zero = some (.bool false)) (hs : i.size = 1) (hby : i.bytes = 1)
    (kl kc : IntKind) (n : Nat) (hb : n ≤ 281474976710656) (u : World) :
    (Instr.makeSlice t (.int kl n) (.int kc n)).run P u = .ok (.slice (some ⟨u.heap.size, 0, none⟩) n n) (u.alloc (.cells (((List.replicate n false).map boolV).toArray) e)) := by
  have h := run_make (P := P) u t e i (.bool false) ht hi hz kl kc n n (by omega) (by omega) (by rw [hby]; omega) (by omega)
  simp only [Int.toNat_natCast] at h
  rw [h, hs, Nat.mul_one, madeBools]

theorem newS_end {w w4 : World} {a b c d g gE gB bl bb : Nat} {jE : List Value} (ok : (newS a b c d).Ok)
    (h1 : Blk w4 g 61 [.int .i64 a, .int .i64 b, .int .i64 c, .int .i64 d, .slice (some ⟨gE, 0, none⟩) (a * b * c) (a * b * c), .slice (some ⟨gB, 0, none⟩) a a, .bool false, .int .i64 0, .func (.func 59) #[] #[.pointer (some ⟨bl, 0, none⟩), .pointer (some ⟨bb, 0, none⟩)]])
    (h2 : Blk w4 bl 44 [.slice none 0 0]) (h3 : Blk w4 bb 3 [.int .i64 0]) (hE : Blk w4 gE 5 ((List.replicate (a * b * c) 255).map byt ++ jE)) (hB : Blk w4 gB 4 ((List.replicate a false).map boolV))
    (s1 : w.heap.size ≤ g) (s2 : w.heap.size ≤ bl) (s3 : w.heap.size ≤ bb) (s4 : w.heap.size ≤ gE) (s5 : w.heap.size ≤ gB) (hk : New w w4) :
    ChipP w (newS a b c d) (.returned (.tuple #[.pointer (some ⟨g, 0, none⟩), .int .i64 0])) w4 := by
  have hsz := ok.size
  have hnb := ok.nb2
  have e1 : (newS a b c d).by_.length = a * b * c := by simp [newS]
  have e2 : (newS a b c d).bad.length = a := by simp [newS]
  have e3 : (newS a b c d).nb = a := rfl
  refine ⟨g, _, rfl, ⟨gE, gB, bl, bb, a * b * c, a, none, 0, NRep.of_new ok rfl rfl rfl rfl ?_ ⟨jE, hE⟩ (by rw [e1] at hsz; rw [e1]; unfold maxLen; omega) ⟨[], by simpa [newS] using hB⟩ (by rw [e3] at hnb; rw [e2]; unfold maxLen; omega) h2 h3 s1 s4 s5 s2 s3⟩, fun b hb => hb.1, hk⟩
  rw [e1, e2]
  exact h1

set_option maxHeartbeats 800000 in
theorem nNew_ok (a b c d : Nat) (w : World) (h : geoOk a b c d) :
    Calls Tryz.prog 11 #[.agg #[.int .i64 a, .int .i64 b, .int .i64 c, .int .i64 d]] w (ChipP w (newS a b c d)) := by
  have hok := newS_ok a b c d h
  have e1 : decide (geoOk a b c d) = true := decide_eq_true h
  obtain ⟨i0, hi, hz0, hz1, hz2⟩ := info_parts info_bool
  have hmk := fun u => run_make_bools (P := Tryz.prog) 58 4 i0 Tryz.underlying58 hi hz0 hz1 hz2 .i64 .i64 a (by have := h.1.2; omega) u
  have hb1 : 2 ≤ a * b * c := by
    have h1 : 8 * 4 ≤ a * b := Nat.mul_le_mul (by have := h.1; omega) (by have := h.2.1; omega)
    have h2 : 8 * 4 * 128 ≤ a * b * c := Nat.mul_le_mul h1 (by have := h.2.2.1; omega)
    omega
  have hb2 : a * b * c ≤ 524288 := prod_le (by have := h.1; omega) (by have := h.2.1; omega) (by have := h.2.2.1; omega)
  have HO := Lib.hid hok
  have HG := Lib.hid h
  have HB1 := Lib.hid hb1
  have HB2 := Lib.hid hb2
  clear h hok hb1 hb2 hz0 hz1 hz2 hi
  go_enter Tryz.func11, Tryz.ntmps11
  go_wp2_with fail
  refine (isGeo_any _ _ _ _ _).mono ?_
  rintro e w1 ⟨rfl, hk⟩
  rw [e1]
  clear e1
  have hc0 := hk.cell (show (w.alloc (.cells #[.int .i64 a, .int .i64 b, .int .i64 c, .int .i64 d] 48)).cell? ⟨w.heap.size, 0, none⟩ = some (.int .i64 a) from (Blk.made w _ _).cell 0) (fun f => f)
  have hc1 := hk.cell (show (w.alloc (.cells #[.int .i64 a, .int .i64 b, .int .i64 c, .int .i64 d] 48)).cell? ⟨w.heap.size, 1, none⟩ = some (.int .i64 b) from (Blk.made w _ _).cell 1) (fun f => f)
  have hc2 := hk.cell (show (w.alloc (.cells #[.int .i64 a, .int .i64 b, .int .i64 c, .int .i64 d] 48)).cell? ⟨w.heap.size, 2, none⟩ = some (.int .i64 c) from (Blk.made w _ _).cell 2) (fun f => f)
  have hc3 := hk.cell (show (w.alloc (.cells #[.int .i64 a, .int .i64 b, .int .i64 c, .int .i64 d] 48)).cell? ⟨w.heap.size, 3, none⟩ = some (.int .i64 d) from (Blk.made w _ _).cell 3) (fun f => f)
  have K1 : Hid (New w w1) := ((Kept.refl _ _).alloc _).new hk
  clear hk
  go_wp2_with fail
  go_region_held3 (fun w' => w'.cell? ⟨w.heap.size, 0, none⟩ = some (.int .i64 (a : Int)) ∧ w'.cell? ⟨w.heap.size, 1, none⟩ = some (.int .i64 (b : Int)) ∧ w'.cell? ⟨w.heap.size, 2, none⟩ = some (.int .i64 (c : Int)) ∧ w'.cell? ⟨w.heap.size, 3, none⟩ = some (.int .i64 (d : Int)))
    (first
      | go_keep
      | (go_split_ands; refine ⟨?_, ?_, ?_, ?_⟩ <;> (refine KM.out.cell ?_ (fun f => f); assumption))
      | (go_split_ands; refine ⟨?_, ?_, ?_, ?_⟩ <;> (refine KE.out.cell ?_ (fun f => f); assumption))
      | (go_split_ands; refine ⟨?_, ?_, ?_, ?_⟩ <;> (refine KA.out.cell ?_ (fun f => f); assumption)))
    (first
      | (go_at_call 39; refine (bytesOf_any _ _ _ _ _ (by have := HG.out.1; omega) (by have := HG.out.2.1; omega) (by have := HG.out.2.2.1; omega)).mono ?_; rintro e w2 ⟨rfl, hk⟩; have KA := Lib.hid hk; clear hk)
      | (go_at_call 38; refine (erased_any _ _ HB1.out HB2.out).mono ?_; rintro e w3 ⟨gE, jE, rfl, hE, hgE, hk⟩; have BE := Lib.hid hE; have GE := Lib.hid hgE; have KE := Lib.hid hk; clear hE hgE hk)
      | (go_at_call 37; refine (made_any _ _ _ _ _ _ _ _ _ _ _).mono ?_; rintro e w4 ⟨g, bl, bb, rfl, h1, h2, h3, h4, h5, h6, h7⟩; have H1 := Lib.hid h1; have H2 := Lib.hid h2; have H3 := Lib.hid h3; have H4 := Lib.hid h4; have H5 := Lib.hid h5; have H6 := Lib.hid h6; have KM := Lib.hid h7; clear h1 h2 h3 h4 h5 h6 h7))
  · have h1 := H1.out
    have h2 := H2.out
    have h3 := H3.out
    have KA2 : Hid (New w w2) := (K1.out.drew).new KA.out
    have KE2 : Hid (New w w3) := KA2.out.new KE.out
    have KB : Hid (Blk w4 w3.heap.size 4 ((List.replicate a false).map boolV)) := by
      have := (Blk.made w3 4 (Array.replicate a (boolV false))).new KM.out
      simpa [Hid] using this
    have r := newS_end HO.out h1 h2 h3 ((BE.out.alloc _).new KM.out) KB.out (Nat.le_trans KE2.out.size (by have := H4.out; simp at this; omega)) (Nat.le_trans KE2.out.size (by have := H5.out; simp at this; omega)) (Nat.le_trans KE2.out.size (by have := H6.out; simp at this; omega)) (Nat.le_trans KA2.out.size GE.out) KE2.out.size ((KE2.out.alloc _).new KM.out)
    have R := Lib.hid r
    clear h1 h2 h3 r
    go_wp2
    go_ret2
    exact R.out
  · have h1 := H1.out
    have h2 := H2.out
    have h3 := H3.out
    have KA2 : Hid (New w w2) := (K1.out.drew).new KA.out
    have KE2 : Hid (New w w3) := (KA2.out.alloc _).new KE.out
    have KB : Hid (Blk w4 w2.heap.size 4 ((List.replicate a false).map boolV)) := by
      have := ((Blk.made w2 4 (Array.replicate a (boolV false))).new KE.out).new KM.out
      simpa [Hid] using this
    have r := newS_end HO.out h1 h2 h3 (BE.out.new KM.out) KB.out (Nat.le_trans KE2.out.size H4.out) (Nat.le_trans KE2.out.size H5.out) (Nat.le_trans KE2.out.size H6.out) (Nat.le_trans KA2.out.size (by have := GE.out; simp at this; omega)) KA2.out.size (KE2.out.new KM.out)
    have R := Lib.hid r
    clear h1 h2 h3 r
    go_wp2
    go_ret2
    exact R.out
  · have h1 := H1.out
    have h2 := H2.out
    have h3 := H3.out
    have KA2 : Hid (New w w2) := ((K1.out.alloc _).drew).new KA.out
    have KE2 : Hid (New w w3) := KA2.out.new KE.out
    have KB : Hid (Blk w4 w1.heap.size 4 ((List.replicate a false).map boolV)) := by
      have := (((Blk.made w1 4 (Array.replicate a (boolV false))).drew.new KA.out).new KE.out).new KM.out
      simpa [Hid] using this
    have r := newS_end HO.out h1 h2 h3 (BE.out.new KM.out) KB.out (Nat.le_trans KE2.out.size H4.out) (Nat.le_trans KE2.out.size H5.out) (Nat.le_trans KE2.out.size H6.out) (Nat.le_trans KA2.out.size GE.out) K1.out.size (KE2.out.new KM.out)
    have R := Lib.hid r
    clear h1 h2 h3 r
    go_wp2
    go_ret2
    exact R.out

theorem nNew_no (a b c d : Int) (w : World) (h : ¬ geoOk a b c d) :
    Calls Tryz.prog 11 #[.agg #[.int .i64 a, .int .i64 b, .int .i64 c, .int .i64 d]] w fun e w' => e = .returned (.tuple #[.pointer none, .int .i64 2]) ∧ New w w' := by
  have e1 : decide (geoOk a b c d) = false := decide_eq_false h
  clear h
  go_enter Tryz.func11, Tryz.ntmps11
  go_wp2_with fail
  refine (isGeo_any _ _ _ _ _).mono ?_
  rintro e w1 ⟨rfl, hk⟩
  rw [e1]
  clear e1
  have K1 : Hid (New w w1) := ((Kept.refl _ _).alloc _).new hk
  clear hk
  go_wp2
  go_ret2
  exact ⟨rfl, K1.out⟩
end Go.Proofs.YtgfdiboaiifdnaaGreat
