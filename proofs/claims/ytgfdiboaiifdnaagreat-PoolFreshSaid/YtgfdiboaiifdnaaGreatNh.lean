/-
  Contracts of a chip's looks: Read, Bad, Deeds, Bytes, Geo.
-/
import Derived.Test.YtgfdiboaiifdnaaGreatNg
namespace Go.Proofs.YtgfdiboaiifdnaaGreat
open Go.ChangeShapes Go.WideShapes Go.ChangeAt Go.RowKit

theorem nat_of {b : Int} {n : Nat} (h : 0 ≤ b ∧ b < n) : ∃ k : Nat, b = k ∧ k < n := ⟨b.toNat, by omega, by omega⟩

theorem nRead_any (Q : Nat → Prop) (g : Nat) (s : CSt) (b p : Int) (w : World) (h : NChip Q w g s) :
    Calls Tryz.prog 24 #[.pointer (some ⟨g, 0, none⟩), .int .i64 b, .int .i64 p] w (RetB w (readL s b p) (readE s b p)) := by
  obtain ⟨gc, gb, bl, bb, cc, cb, Ah, ch, h⟩ := h
  have H := Lib.hid h
  by_cases hr : refE s b p = 0
  · obtain ⟨hd, ht⟩ := refE_ok hr
    have e1 : readL s b p = pgL s b p := by unfold readL; rw [if_pos hr]
    have e2 : readE s b p = 0 := hr
    rw [e1, e2]
    obtain ⟨b', rfl, hb⟩ := nat_of ht.1
    obtain ⟨p', rfl, hp⟩ := nat_of ht.2
    have HBt := Lib.hid (h.cellBts (offP s b' p') s.nz (off_fit s h.ok _ _ ht).2.2)
    have HL := Lib.hid (pg_len s h.ok _ _ ht)
    have HR := Lib.hid hr
    have HB := Lib.hid hb
    have HP := Lib.hid hp
    have hz2 := h.ok.nz2
    have hz1 := h.ok.nz1
    clear h hr hd ht e1 e2 hb hp
    go_enter Tryz.func24, Tryz.ntmps24
    go_wp2_with fail
    refine (refuses_any _ _ _ _ _ _ _ _ _ _ _ _ _ _ H.out).mono ?_
    rintro e w' ⟨rfl, rfl⟩
    rw [HR.out]
    go_wp2_with fail
    refine (pageOf_any _ _ _ _ _ _ _ _ _ _ _ _ _ _ H.out HB.out HP.out).mono ?_
    rintro e w' ⟨q, rfl, rfl⟩
    go_wp2_with fail
    refine (clone_any _ s.nz s.nz (pgL s b' p') _ ?_ (by omega) (by intro h; cases h)).mono ?_
    · have := HBt.out
      unfold offP at this
      simp only [Int.toNat_natCast] at this
      unfold pgL offP
      simp only [Int.toNat_natCast]
      exact this
    rintro e w2 ⟨A2, c2, rfl, ho, hk⟩
    have HO := Lib.hid ho
    have HK := Lib.hid hk
    clear ho hk
    rw [HL.out]
    go_wp2
    go_ret2
    exact ⟨A2, c2, by rw [HL.out]; rfl, HO.out, HK.out.of_drewN⟩
  · have e1 : readL s b p = [] := by unfold readL; rw [if_neg hr]
    have e2 : readE s b p = refE s b p := rfl
    rw [e1, e2]
    have hq : (refE s b p == 0) = false := beq_eq_false_iff_ne.2 hr
    clear h e1 e2 hr
    generalize hx : refE s b p = x at *
    have HX := Lib.hid hx
    clear hx
    go_enter Tryz.func24, Tryz.ntmps24
    go_wp2_with fail
    refine (refuses_any _ _ _ _ _ _ _ _ _ _ _ _ _ _ H.out).mono ?_
    rintro e w' ⟨rfl, rfl⟩
    rw [HX.out]
    go_wp2
    go_ret2
    exact RetB.nil _ _ _ (Kept.refl _ _)

theorem nBytes_any (Q : Nat → Prop) (g : Nat) (s : CSt) (w : World) (h : NChip Q w g s) :
    Calls Tryz.prog 5 #[.pointer (some ⟨g, 0, none⟩)] w (RetL w s.by_) := by
  obtain ⟨gc, gb, bl, bb, cc, cb, Ah, ch, h⟩ := h
  have c4 := h.c4
  have hsz := h.ok.size
  have HBt := Lib.hid (show Bts w (some ⟨gc, 0, none⟩) s.by_.length s.by_ from by simpa using h.cellBts 0 s.by_.length (by omega))
  have H := Lib.hid h
  clear h
  go_enter Tryz.func5, Tryz.ntmps5
  go_wp2_with fail
  refine (cNone_no _ _ _ _ _ _ _ _ _ _ _ _ H.out).mono ?_
  rintro e w' ⟨rfl, rfl⟩
  go_wp2_with fail
  refine (clone_any _ _ _ s.by_ _ HBt.out (by omega) (by intro h; cases h)).mono ?_
  rintro e w2 ⟨A2, c2, rfl, ho, hk⟩
  have HO := Lib.hid ho
  have HK := Lib.hid hk
  clear ho hk
  go_wp2
  go_ret
  exact ⟨A2, c2, rfl, HO.out, HK.out⟩

theorem badAt_cell {Q : Nat → Prop} {w : World} {g gc gb bl bb cc cb : Nat} {Ah : Option Addr} {ch : Nat} {s : CSt} (h : NRep Q w g gc gb bl bb cc cb Ah ch s) (b : Nat) (hb : b < s.nb) :
    w.cell? ⟨gb, b, none⟩ = some (.bool (badAt s b)) := by
  obtain ⟨j, hj⟩ := h.bads
  have hl : b < s.bad.length := by rw [h.ok.badl]; exact hb
  rw [hj.cell, List.getElem?_append_left (by simpa using hl), List.getElem?_map, List.getElem?_eq_getElem hl]
  simp [badAt, List.getD_eq_getElem?_getD, List.getElem?_eq_getElem hl, boolV]

/-- Is a block bad? No, if there is none. -/
def badE (s : CSt) (b : Int) : Bool := decide (0 ≤ b ∧ b < s.nb) && badAt s b.toNat

theorem nBad_any (Q : Nat → Prop) (g : Nat) (s : CSt) (b : Int) (w : World) (h : NChip Q w g s) :
    Calls Tryz.prog 48 #[.pointer (some ⟨g, 0, none⟩), .int .i64 b] w fun e w' => e = .returned (.bool (badE s b)) ∧ w = w' := by
  obtain ⟨gc, gb, bl, bb, cc, cb, Ah, ch, h⟩ := h
  have c0 := h.c0
  have c5 := h.c5
  have hnb2 := h.ok.nb2
  have hnb1 := h.ok.nb1
  have hbl := h.ok.badl
  rw [hbl] at c5
  have H := Lib.hid h
  by_cases hb : 0 ≤ b ∧ b < s.nb
  · have HX := Lib.hid (inB_yes (show 0 ≤ b ∧ b ≤ (s.nb : Int) - 1 by omega))
    obtain ⟨k, rfl, hk⟩ := nat_of hb
    have hc := badAt_cell h k hk
    have e : badE s k = badAt s k := by unfold badE; rw [decide_eq_true hb]; simp
    rw [e]
    clear h hb e hbl
    go_enter Tryz.func48, Tryz.ntmps48
    go_wp2_with (first
      | (go_at_call 17; refine (cNone_no _ _ _ _ _ _ _ _ _ _ _ _ H.out).mono ?_; rintro e w' ⟨rfl, rfl⟩)
      | (go_at_call 57; refine (within_any _ _ _ _).mono ?_; rintro e w' ⟨rfl, rfl⟩; rw [HX.out]))
    go_ret
    exact ⟨rfl, rfl⟩
  · have HX := Lib.hid (inB_no (show ¬ (0 ≤ b ∧ b ≤ (s.nb : Int) - 1) by omega))
    have e : badE s b = false := by unfold badE; rw [decide_eq_false hb]; rfl
    rw [e]
    clear h hb e hbl
    go_enter Tryz.func48, Tryz.ntmps48
    go_wp2_with (first
      | (go_at_call 17; refine (cNone_no _ _ _ _ _ _ _ _ _ _ _ _ H.out).mono ?_; rintro e w' ⟨rfl, rfl⟩)
      | (go_at_call 57; refine (within_any _ _ _ _).mono ?_; rintro e w' ⟨rfl, rfl⟩; rw [HX.out]))
    go_ret
    exact ⟨rfl, rfl⟩

theorem nGeo_any (Q : Nat → Prop) (g : Nat) (s : CSt) (w : World) (h : NChip Q w g s) :
    Calls Tryz.prog 25 #[.pointer (some ⟨g, 0, none⟩)] w fun e w' => e = .returned (.agg #[.int .i64 (s.nb : Nat), .int .i64 (s.np : Nat), .int .i64 (s.nz : Nat), .int .i64 (s.ns : Nat)]) ∧ New w w' := by
  obtain ⟨gc, gb, bl, bb, cc, cb, Ah, ch, h⟩ := h
  have c0 := h.c0
  have c1 := h.c1
  have c2 := h.c2
  have c3 := h.c3
  have hlt : g < w.heap.size := h.chip.lt
  have H := Lib.hid h
  clear h
  go_enter Tryz.func25, Tryz.ntmps25
  go_wp2_with fail
  refine (cNone_no _ _ _ _ _ _ _ _ _ _ _ _ (H.out.new ((Kept.refl _ _).alloc _))).mono ?_
  rintro e w' ⟨rfl, rfl⟩
  go_wp2
  refine bodyPost_ret (v := .agg #[.int .i64 (s.nb : Nat), .int .i64 (s.np : Nat), .int .i64 (s.nz : Nat), .int .i64 (s.ns : Nat)]) (by simp [results, Tryz.results25, go_sem]) rfl ⟨rfl, (Kept.refl _ _).alloc _⟩
end Go.Proofs.YtgfdiboaiifdnaaGreat
