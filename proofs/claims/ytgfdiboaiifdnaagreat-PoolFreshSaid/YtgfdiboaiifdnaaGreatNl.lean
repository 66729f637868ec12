/-
  The contracts of a chip's Power and Hits.
-/
import Derived.Test.YtgfdiboaiifdnaaGreatNk
namespace Go.Proofs.YtgfdiboaiifdnaaGreat
open Go.ChangeShapes Go.WideShapes Go.ChangeAt Go.RowKit

theorem OwnB.blk {w : World} {t : TypeId} {B : Nat} {A : Option Addr} {c : Nat} {l : List Nat} (h : OwnB w t B A c l) (h0 : 0 < l.length) : ∃ g junk, A = some ⟨g, 0, none⟩ ∧ B ≤ g ∧ Blk w g t (l.map byt ++ junk) ∧ l.length ≤ c ∧ c ≤ maxLen := by
  have hle := h.le
  rcases h.2 with ⟨rfl, rfl, rfl⟩ | ⟨g, sp, rfl, hB, hblk, _⟩
  · simp at h0
  · exact ⟨g, sp.map byt, rfl, hB, by rw [← List.map_append]; exact hblk, hle⟩
theorem OwnV.blk {w : World} {t : TypeId} {sz B : Nat} {A : Option Addr} {n c : Nat} {vs : List Value} (h : OwnV w t sz B A n c vs) (h0 : 0 < n) : ∃ g junk, A = some ⟨g, 0, none⟩ ∧ B ≤ g ∧ Blk w g t (vs ++ junk) ∧ n ≤ c ∧ c ≤ maxLen := by
  obtain ⟨h1, h2, h3, h⟩ := h
  rcases h with ⟨rfl, rfl⟩ | ⟨g, sp, rfl, hB, hblk, _⟩
  · omega
  · exact ⟨g, sp, rfl, hB, hblk, h2, h3⟩

theorem NRep.badRow {Q : Nat → Prop} {w : World} {g gc gb bl bb cc cb : Nat} {Ah : Option Addr} {ch : Nat} {s : CSt} (h : NRep Q w g gc gb bl bb cc cb Ah ch s) : RowV w (some ⟨gb, 0, none⟩) s.bad.length 1 (s.bad.map boolV) := by
  obtain ⟨j, hj⟩ := h.bads
  refine ⟨by simp, fun _ => ⟨gb, 0, rfl, fun i v hv => ?_⟩⟩
  have hi := (List.getElem?_eq_some_iff.1 hv).1
  rw [hj.cell, Nat.zero_add, List.getElem?_append_left hi, hv]
theorem bools_one (l : List Bool) : ∀ u ∈ l.map boolV, u.oneCell' = true := by
  intro u hu
  obtain ⟨x, _, rfl⟩ := List.mem_map.1 hu
  rfl

def RepS (Q : Nat → Prop) (w' : World) (g gc gb bl bb cc cb : Nat) (Ah : Option Addr) (ch : Nat) (s : CSt) : Prop :=
  Hid (NRep Q w' g gc gb bl bb cc cb Ah ch s) ∧ w'.cell? ⟨g, 0, none⟩ = some (.int .i64 (s.nb : Nat)) ∧ w'.cell? ⟨g, 1, none⟩ = some (.int .i64 (s.np : Nat)) ∧ w'.cell? ⟨g, 2, none⟩ = some (.int .i64 (s.nz : Nat)) ∧ w'.cell? ⟨g, 3, none⟩ = some (.int .i64 (s.ns : Nat)) ∧
    w'.cell? ⟨g, 4, none⟩ = some (.slice (some ⟨gc, 0, none⟩) s.by_.length cc) ∧ w'.cell? ⟨g, 5, none⟩ = some (.slice (some ⟨gb, 0, none⟩) s.bad.length cb)
theorem repS {Q : Nat → Prop} {w' : World} {g gc gb bl bb cc cb : Nat} {Ah : Option Addr} {ch : Nat} {s : CSt} (h : NRep Q w' g gc gb bl bb cc cb Ah ch s) : RepS Q w' g gc gb bl bb cc cb Ah ch s :=
  ⟨h, h.c0, h.c1, h.c2, h.c3, h.c4, h.c5⟩

theorem powS_end {w w4 : World} {s : CSt} {g bl bb ca cb : Nat} {A B : Option Addr} (ok : s.Ok)
    (h1 : Blk w4 g 61 [.int .i64 (s.nb : Nat), .int .i64 (s.np : Nat), .int .i64 (s.nz : Nat), .int .i64 (s.ns : Nat), .slice A s.by_.length ca, .slice B s.bad.length cb, .bool false, .int .i64 0, .func (.func 59) #[] #[.pointer (some ⟨bl, 0, none⟩), .pointer (some ⟨bb, 0, none⟩)]])
    (h2 : Blk w4 bl 44 [.slice none 0 0]) (h3 : Blk w4 bb 3 [.int .i64 0]) (hA : OwnB w4 5 w.heap.size A ca s.by_) (hB : OwnV w4 4 1 w.heap.size B s.bad.length cb (s.bad.map boolV))
    (s1 : w.heap.size ≤ g) (s2 : w.heap.size ≤ bl) (s3 : w.heap.size ≤ bb) (hk : New w w4) :
    ChipP w (powS s) (.returned (.tuple #[.pointer (some ⟨g, 0, none⟩), .int .i64 0])) w4 := by
  have hl1 : 0 < s.by_.length := by
    rw [ok.len]
    exact Nat.mul_pos (Nat.mul_pos (by have := ok.nb1; omega) (by have := ok.np1; omega)) (by have := ok.nz1; omega)
  have hl2 : 0 < s.bad.length := by rw [ok.badl]; have := ok.nb1; omega
  obtain ⟨gA, jA, rfl, sA, bA, cA⟩ := hA.blk hl1
  obtain ⟨gB, jB, rfl, sB, bB, cB⟩ := hB.blk hl2
  exact ⟨g, _, rfl, ⟨gA, gB, bl, bb, ca, cb, none, 0, NRep.of_new (powS_ok s ok) rfl rfl rfl rfl h1 ⟨jA, bA⟩ cA ⟨jB, bB⟩ cB h2 h3 s1 sA sB s2 s3⟩, fun b hb => hb.1, hk⟩

set_option maxRecDepth 100000 in
set_option maxHeartbeats 1600000 in
theorem nPower_any (Q : Nat → Prop) (g : Nat) (s : CSt) (w : World) (h : NChip Q w g s) :
    Calls Tryz.prog 15 #[.pointer (some ⟨g, 0, none⟩)] w (ChipP w (powS s)) := by
  obtain ⟨gc, gb, bl, bb, cc, cb, Ah, ch, h⟩ := h
  have HO := Lib.hid h.ok
  have H := Lib.hid h
  have hsz := h.ok.size
  have hbz : s.bad.length ≤ 64 := by rw [h.ok.badl]; exact h.ok.nb2
  clear h
  go_enter Tryz.func15, Tryz.ntmps15
  go_wp2_with fail
  refine (cNone_no _ _ _ _ _ _ _ _ _ _ _ _ H.out).mono ?_
  rintro e w' ⟨rfl, rfl⟩
  have HS := repS H.out
  unfold RepS at HS
  have HSz := Lib.hid hsz
  have HBz := Lib.hid hbz
  clear hsz hbz
  go_wp2_with fail
  go_region_held3 (fun w' => Hid (NRep Q w' g gc gb bl bb cc cb Ah ch s) ∧ w'.cell? ⟨g, 0, none⟩ = some (.int .i64 (s.nb : Nat)) ∧ w'.cell? ⟨g, 1, none⟩ = some (.int .i64 (s.np : Nat)) ∧ w'.cell? ⟨g, 2, none⟩ = some (.int .i64 (s.nz : Nat)) ∧ w'.cell? ⟨g, 3, none⟩ = some (.int .i64 (s.ns : Nat)) ∧
      w'.cell? ⟨g, 4, none⟩ = some (.slice (some ⟨gc, 0, none⟩) s.by_.length cc) ∧ w'.cell? ⟨g, 5, none⟩ = some (.slice (some ⟨gb, 0, none⟩) s.bad.length cb))
    (first
      | exact HS
      | exact repS (H.out.new ((Kept.refl _ _).drew))
      | exact repS ((‹Hid (NRep Q _ g gc gb bl bb cc cb Ah ch s) ∧ _›).1.out.new KC.out)
      | exact repS ((‹Hid (NRep Q _ g gc gb bl bb cc cb Ah ch s) ∧ _›).1.out.new KB.out)
      | exact repS ((‹Hid (NRep Q _ g gc gb bl bb cc cb Ah ch s) ∧ _›).1.out.new KM.out))
    (first
      | (go_at_call 18; refine (clone_any _ _ _ s.by_ _ (by simpa using (‹Hid (NRep Q _ g gc gb bl bb cc cb Ah ch s) ∧ _›).1.out.cellBts 0 s.by_.length (by omega)) (by have := HSz.out; omega) (by intro h; cases h)).mono ?_; rintro e wC ⟨AC, cC, rfl, h1, h2⟩; have OC := Lib.hid h1; have KC := Lib.hid h2; clear h1 h2)
      | (go_at_call 46; refine (cloneBools_any _ _ _ (s.bad.map boolV) _ (‹Hid (NRep Q _ g gc gb bl bb cc cb Ah ch s) ∧ _›).1.out.badRow (bools_one _) (by have := HBz.out; omega) (by intro h; cases h)).mono ?_; rintro e wB ⟨AB, cB, rfl, h1, h2⟩; have OB := Lib.hid h1; have KB := Lib.hid h2; clear h1 h2)
      | (go_at_call 37; refine (made_any _ _ _ _ _ _ _ _ _ _ _).mono ?_; rintro e w4 ⟨g4, bl4, bb4, rfl, h1, h2, h3, h4, h5, h6, h7⟩; have H1 := Lib.hid h1; have H2 := Lib.hid h2; have H3 := Lib.hid h3; have H4 := Lib.hid h4; have H5 := Lib.hid h5; have H6 := Lib.hid h6; have KM := Lib.hid h7; clear h1 h2 h3 h4 h5 h6 h7))
  · have K1 : New w wC := ((Kept.refl _ _).drew).new KC.out
    have K2 : New w wB := K1.new KB.out
    have R := Lib.hid (powS_end (w := w) HO.out H1.out H2.out H3.out (((OC.out.new KB.out).new KM.out).mono (Nat.le_refl _)) ((OB.out.new KM.out).mono K1.size) (Nat.le_trans K2.size H4.out) (Nat.le_trans K2.size H5.out) (Nat.le_trans K2.size H6.out) (K2.new KM.out))
    clear K1 K2
    go_wp2
    go_ret2
    exact R.out

end Go.Proofs.YtgfdiboaiifdnaaGreat
