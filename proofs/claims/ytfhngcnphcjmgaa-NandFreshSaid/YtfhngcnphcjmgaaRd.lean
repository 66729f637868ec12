/-
  The contract of pair.same: a chip and the reference's that are in one state stand alike.
-/
import Derived.Test.YtfhngcnphcjmgaaRc
import Derived.Deep.RegionHeld3
namespace Go.Proofs.Ytfhngcnphcjmgaa
open Go.ChangeShapes Go.WideShapes Go.ChangeAt Go.RowKit

/-- A pair: a chip and the reference's, apart from one another, in one state. -/
structure Pair (w0 w : World) (gp : Nat) (Qc Qr : Nat → Prop) (g gr : Nat) (s : CSt) : Prop where
  pair : Blk w gp 37 [.pointer (some ⟨g, 0, none⟩), .pointer (some ⟨gr, 0, none⟩)]
  newp : w0.heap.size ≤ gp
  chip : NChip Qc w g s
  ref : RChip Qr w gr s
  apart : ∀ b, Qc b → ¬ Qr b
  newc : ∀ b, Qc b → w0.heap.size ≤ b
  newr : ∀ b, Qr b → w0.heap.size ≤ b
  pc : ¬ Qc gp
  pr : ¬ Qr gp
theorem Pair.new {w0 w w' : World} {gp : Nat} {Qc Qr : Nat → Prop} {g gr : Nat} {s : CSt} (h : Pair w0 w gp Qc Qr g gr s) (hk : New w w') : Pair w0 w' gp Qc Qr g gr s :=
  { h with pair := h.pair.new hk, chip := h.chip.new hk, ref := h.ref.new hk }

theorem badE_in {s : CSt} {k : Nat} (hk : k < s.nb) : badE s k = badAt s k := by unfold badE; rw [decide_eq_true ⟨by omega, by omega⟩]; simp
theorem badE_out {s : CSt} {i : Int} (h : ¬ (0 ≤ i ∧ i < s.nb)) : badE s i = false := by unfold badE; rw [decide_eq_false h]; rfl

def SameS (w0 : World) (gp : Nat) (Qc Qr : Nat → Prop) (g gr gc gb cc cb : Nat) (Ah : Option Addr) (ch : Nat) (s : CSt) (w' : World) : Prop :=
  Hid (Pair w0 w' gp Qc Qr g gr s ∧ RRep Qr w' gr gc gb cc cb Ah ch s) ∧ w'.cell? ⟨gp, 0, none⟩ = some (.pointer (some ⟨g, 0, none⟩)) ∧ w'.cell? ⟨gp, 1, none⟩ = some (.pointer (some ⟨gr, 0, none⟩)) ∧
    w'.cell? ⟨gr, 0, none⟩ = some (.int .i64 (s.nb : Nat)) ∧ w'.cell? ⟨gr, 1, none⟩ = some (.int .i64 (s.np : Nat)) ∧ w'.cell? ⟨gr, 2, none⟩ = some (.int .i64 (s.nz : Nat)) ∧ w'.cell? ⟨gr, 3, none⟩ = some (.int .i64 (s.ns : Nat)) ∧ w'.cell? ⟨gr, 4, none⟩ = some (.slice (some ⟨gc, 0, none⟩) s.by_.length cc) ∧ w'.cell? ⟨gr, 9, none⟩ = some (.int .i64 (s.deeds : Nat))
theorem sameS {w0 : World} {gp : Nat} {Qc Qr : Nat → Prop} {g gr gc gb cc cb : Nat} {Ah : Option Addr} {ch : Nat} {s : CSt} {w' : World} (h : Pair w0 w' gp Qc Qr g gr s) (hr : RRep Qr w' gr gc gb cc cb Ah ch s) : SameS w0 gp Qc Qr g gr gc gb cc cb Ah ch s w' :=
  ⟨⟨h, hr⟩, h.pair.cell 0, h.pair.cell 1, hr.c0, hr.c1, hr.c2, hr.c3, hr.c4, hr.c9⟩
theorem sameS_new {w0 : World} {gp : Nat} {Qc Qr : Nat → Prop} {g gr gc gb cc cb : Nat} {Ah : Option Addr} {ch : Nat} {s : CSt} {w w' : World} (h : Pair w0 w gp Qc Qr g gr s ∧ RRep Qr w gr gc gb cc cb Ah ch s) (hk : New w w') : SameS w0 gp Qc Qr g gr gc gb cc cb Ah ch s w' :=
  sameS (h.1.new hk) (h.2.new hk)

set_option maxRecDepth 100000 in
set_option maxHeartbeats 3200000 in
theorem pSame_any (w0 : World) (gp : Nat) (Qc Qr : Nat → Prop) (g gr : Nat) (s : CSt) (w : World) (h : Pair w0 w gp Qc Qr g gr s) :
    Calls Try.prog 29 #[.pointer (some ⟨gp, 0, none⟩)] w (BoolN w true) := by
  have HC := Lib.hid h.chip
  obtain ⟨gc, gb, cc, cb, Ah, ch, hr⟩ := h.ref
  have HR := Lib.hid hr
  have p0 : w.cell? ⟨gp, 0, none⟩ = some (.pointer (some ⟨g, 0, none⟩)) := h.pair.cell 0
  have p1 : w.cell? ⟨gp, 1, none⟩ = some (.pointer (some ⟨gr, 0, none⟩)) := h.pair.cell 1
  have r0 := hr.c0
  have r1 := hr.c1
  have r2 := hr.c2
  have r3 := hr.c3
  have r4 := hr.c4
  have r5 := hr.c5
  have r9 := hr.c9
  have hnb1 := hr.ok.nb1
  have hnb2 := hr.ok.nb2
  have HBL := Lib.hid hr.ok.badl
  rw [HBL.out] at r5
  have hlp := h.pair.lt
  have hlr := hr.chip.lt
  have hcap := hr.ccap
  have HS := Lib.hid hr.ok.size
  have HP := Lib.hid h
  clear hr h
  go_enter Try.func29, Try.ntmps29
  go_wp2
  go_loop [3] (fun i => ∃ k : Int, -1 ≤ k ∧ k ≤ (s.nb : Int) + 1 ∧ i = .int .i64 k) (fun i => ((s.nb : Int) + 1 - intOf i).toNat)
  case atStart => exact ⟨-1, by omega, by omega, rfl⟩
  case round =>
    obtain ⟨k, hk1, hk2, rfl⟩ := hrel
    by_cases hend : k ≤ (s.nb : Int)
    · by_cases hin : 0 ≤ k ∧ k < (s.nb : Int)
      · obtain ⟨j, rfl, hj⟩ := nat_of hin
        have HBd := Lib.hid (badE_in hj)
        have hcb := HR.out.badCell j hj
        generalize badAt s j = b at *
        cases b
        · go_wp2_with fail
          refine (nBad_any _ _ _ _ _ HC.out).mono ?_
          rintro e w' ⟨rfl, rfl⟩
          rw [HBd.out]
          go_wp2
          go_round
          case rel => exact ⟨(j : Int) + 1, by omega, by omega, by go_num⟩
          case measure => simp [intOf]; omega
        · go_wp2_with fail
          refine (nBad_any _ _ _ _ _ HC.out).mono ?_
          rintro e w' ⟨rfl, rfl⟩
          rw [HBd.out]
          go_wp2
          go_round
          case rel => exact ⟨(j : Int) + 1, by omega, by omega, by go_num⟩
          case measure => simp [intOf]; omega
      · have HBd := Lib.hid (badE_out (s := s) (i := k) (by omega))
        rcases Int.lt_or_le k 0 with hneg | hpos
        · have hd1 : decide (0 ≤ k) = false := decide_eq_false (by omega)
          go_wp2_with fail
          refine (nBad_any _ _ _ _ _ HC.out).mono ?_
          rintro e w' ⟨rfl, rfl⟩
          rw [HBd.out]
          go_wp2
          go_round
          case rel => exact ⟨k + 1, by omega, by omega, by go_num⟩
          case measure => simp [intOf]; omega
        · have hd1 : decide (k < ((s.nb : Nat) : Int)) = false := decide_eq_false (by omega)
          go_wp2_with fail
          refine (nBad_any _ _ _ _ _ HC.out).mono ?_
          rintro e w' ⟨rfl, rfl⟩
          rw [HBd.out]
          go_wp2
          go_round
          case rel => exact ⟨k + 1, by omega, by omega, by go_num⟩
          case measure => simp [intOf]; omega
    · have HSS := Lib.hid (sameS HP.out HR.out)
      clear p0 p1 r0 r1 r2 r3 r4 r5 r9 HC hlp hlr
      have HS1 := HSS.out
      unfold SameS at HS1
      go_wp2_with fail
      go_region_held3 (fun w' => Hid (Pair w0 w' gp Qc Qr g gr s ∧ RRep Qr w' gr gc gb cc cb Ah ch s) ∧ w'.cell? ⟨gp, 0, none⟩ = some (.pointer (some ⟨g, 0, none⟩)) ∧ w'.cell? ⟨gp, 1, none⟩ = some (.pointer (some ⟨gr, 0, none⟩)) ∧
          w'.cell? ⟨gr, 0, none⟩ = some (.int .i64 (s.nb : Nat)) ∧ w'.cell? ⟨gr, 1, none⟩ = some (.int .i64 (s.np : Nat)) ∧ w'.cell? ⟨gr, 2, none⟩ = some (.int .i64 (s.nz : Nat)) ∧ w'.cell? ⟨gr, 3, none⟩ = some (.int .i64 (s.ns : Nat)) ∧ w'.cell? ⟨gr, 4, none⟩ = some (.slice (some ⟨gc, 0, none⟩) s.by_.length cc) ∧ w'.cell? ⟨gr, 9, none⟩ = some (.int .i64 (s.deeds : Nat)))
        (first
          | exact HS1
          | assumption
          | exact sameS_new (‹Hid (Pair w0 _ gp Qc Qr g gr s ∧ RRep Qr _ gr gc gb cc cb Ah ch s) ∧ _›).1.out ((Kept.refl _ _).drew)
          | exact sameS_new (‹Hid (Pair w0 _ gp Qc Qr g gr s ∧ RRep Qr _ gr gc gb cc cb Ah ch s) ∧ _›).1.out KB.out
          | exact sameS_new (‹Hid (Pair w0 _ gp Qc Qr g gr s ∧ RRep Qr _ gr gc gb cc cb Ah ch s) ∧ _›).1.out KS.out
          | exact sameS_new (‹Hid (Pair w0 _ gp Qc Qr g gr s ∧ RRep Qr _ gr gc gb cc cb Ah ch s) ∧ _›).1.out KG.out
          | fail)
        (first
          | (go_at_call 15; refine (nBytes_any _ _ _ _ (‹Hid (Pair w0 _ gp Qc Qr g gr s ∧ RRep Qr _ gr gc gb cc cb Ah ch s) ∧ _›).1.out.1.chip).mono ?_; rintro e wB ⟨AB, cB, rfl, h1, h2⟩; have OB := Lib.hid h1; have KB := Lib.hid h2; clear h1 h2)
          | (go_at_call 19; refine (same_eq _ _ _ _ _ s.by_ _ (OB.out.bts) (by simpa using (‹Hid (Pair w0 _ gp Qc Qr g gr s ∧ RRep Qr _ gr gc gb cc cb Ah ch s) ∧ _›).1.out.2.cellBts 0 s.by_.length (by omega)) (by have := HS.out; unfold maxLen; omega)).mono ?_; rintro e wS ⟨qS, rfl, hS⟩; have KS : Hid (New wB wS) := (by rw [hS]; exact (Kept.refl _ _).drewN qS); clear hS)
          | (go_at_call 23; refine (nDeeds_any _ _ _ _ (‹Hid (Pair w0 _ gp Qc Qr g gr s ∧ RRep Qr _ gr gc gb cc cb Ah ch s) ∧ _›).1.out.1.chip).mono ?_; rintro e wD ⟨rfl, rfl⟩)
          | (go_at_call 67; refine (nGeo_any _ _ _ _ (‹Hid (Pair w0 _ gp Qc Qr g gr s ∧ RRep Qr _ gr gc gb cc cb Ah ch s) ∧ _›).1.out.1.chip).mono ?_; rintro e wG ⟨rfl, h2⟩; have KG := Lib.hid h2; clear h2))
      have K1 : Hid (New w wG) := (((Kept.refl _ _).drew.new KB.out).new KS.out).new KG.out
      go_wp2
      go_ret
      exact ⟨rfl, K1.out⟩
end Go.Proofs.Ytfhngcnphcjmgaa
