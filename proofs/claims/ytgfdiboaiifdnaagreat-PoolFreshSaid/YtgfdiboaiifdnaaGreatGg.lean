/-
  A pool looks at a block.
-/
import Derived.Test.YtgfdiboaiifdnaaGreatGf
import Derived.StillTailTactics
namespace Go.Proofs.YtgfdiboaiifdnaaGreat
open Go.ChangeShapes Go.WideShapes Go.ChangeAt Go.RowKit

/-- Are all pages of a block blank, as they are read? -/
def allBl (s : CSt) (i : Nat) : Bool := (List.range s.np).all fun q => blank (readL s i q)
theorem allBl_iff (s : CSt) (i : Nat) : allBl s i = true ↔ ∀ q, q < s.np → blank (readL s i q) = true := by
  unfold allBl
  rw [List.all_eq_true]
  simp only [List.mem_range]
/-- What a block is in which no head stands. -/
def hlV (s : CSt) (i : Nat) : Nat := if allBl s i = true then 0 else 2
def lookV (s : CSt) (i : Nat) : PB := if ghE (readL s i 0) = 0 then ⟨1, ghK (readL s i 0), ghR (readL s i 0), ghS (readL s i 0)⟩ else ⟨hlV s i, 0, 0, 0⟩

theorem readL_len (s : CSt) (b p : Int) (ok : s.Ok) : (readL s b p).length ≤ 256 := by
  have hz := ok.nz2
  unfold readL
  split
  · unfold pgL
    have := List.length_take_le s.nz (s.by_.drop (offP s b p))
    omega
  · simp

set_option maxRecDepth 100000 in
set_option maxHeartbeats 1600000 in
theorem pHeadless_any (Qc : Nat → Prop) (gp gb g : Nat) (s : CSt) (p : PSt) (i : Nat) (w : World) (h : PRep Qc w gp gb g s p) :
    Calls Tryz.prog 52 #[.pointer (some ⟨gp, 0, none⟩), .int .i64 (i : Nat)] w fun e w' => e = .returned (.int .u8 (hlV s i : Nat)) ∧ New w w' := by
  have HP := Lib.hid h
  have c0 : w.cell? ⟨gp, 0, none⟩ = some (.pointer (some ⟨g, 0, none⟩)) := h.pool.cell 0
  have HLN := Lib.hid (fun q : Int => readL_len s i q h.chip.ok)
  have hnp := h.chip.ok.np2
  have hfd : ∀ w : World, (Instr.field 48 (.agg #[.int .i64 (s.nb : Nat), .int .i64 (s.np : Nat), .int .i64 (s.nz : Nat), .int .i64 (s.ns : Nat)]) 1).run Tryz.prog w = .ok (.int .i64 (s.np : Nat)) w := fun _ => by kernel_rfl
  clear h
  go_enter Tryz.func52, Tryz.ntmps52
  go_wp2_with fail
  refine (nGeo_any _ _ _ _ HP.out.chip).mono ?_
  rintro e w1 ⟨rfl, h1⟩
  have N1 := Lib.hid h1
  clear h1 c0
  go_wp2_with fail
  go_loopw [5, 6, 7, 14] (fun _ _ _ t wr => ∃ k : Nat, k ≤ s.np ∧ t = .int .i64 k ∧ Hid (∀ q, q < k → blank (readL s i q) = true) ∧ Hid (New w wr)) (fun _ _ _ t _ => s.np - (intOf t).toNat)
  case atStart => exact ⟨0, Nat.zero_le _, rfl, fun q hq => absurd hq (by omega), N1⟩
  case round =>
    obtain ⟨k, hk, rfl, VB, VN⟩ := hrel
    clear N1
    by_cases hlt : k < s.np
    · have PR := Lib.hid (HP.out.new VN.out)
      have c0 : wr.cell? ⟨gp, 0, none⟩ = some (.pointer (some ⟨g, 0, none⟩)) := PR.out.pool.cell 0
      go_wp2_with fail
      refine (nRead_any _ _ _ i k _ PR.out.chip).mono ?_
      rintro e w2 ⟨A2, c2, rfl, h1, h2⟩
      have O2 := Lib.hid h1
      have N2 : Hid (New w w2) := VN.out.new h2
      have HL2 := Lib.hid (HLN.out k)
      clear h1 h2 c0
      by_cases hb : blank (readL s i k) = true
      · have HB := Lib.hid hb
        have VB2 : Hid (∀ q, q < k + 1 → blank (readL s i q) = true) := fun q hq => by
          rcases Nat.lt_or_ge q k with h | h
          · exact VB.out q h
          · obtain rfl : q = k := by omega
            exact HB.out
        clear hb
        go_wp2_with fail
        refine (sBlank_any A2 _ c2 (readL s i k) _ O2.out.bts (by have := HL2.out; unfold maxLen; omega)).mono ?_
        rintro e w3 ⟨rfl, rfl⟩
        rw [HB.out]
        go_wp2
        go_roundw
        case rel => exact ⟨k + 1, by omega, by go_num, VB2, N2⟩
        case measure => simp [intOf]; omega
      · have hb2 : blank (readL s i k) = false := by simpa using hb
        have E : Hid (hlV s i = 2) := by
          show _ = _
          unfold hlV
          rw [if_neg fun h => hb ((allBl_iff s i).1 h k hlt)]
        have HB := Lib.hid hb2
        clear hb hb2
        go_wp2_with fail
        refine (sBlank_any A2 _ c2 (readL s i k) _ O2.out.bts (by have := HL2.out; unfold maxLen; omega)).mono ?_
        rintro e w3 ⟨rfl, rfl⟩
        rw [HB.out]
        go_wp2
        go_ret
        exact ⟨by rw [E.out]; rfl, N2.out⟩
    · have E : Hid (hlV s i = 0) := by
        show _ = _
        unfold hlV
        rw [if_pos ((allBl_iff s i).2 fun q hq => VB.out q (by omega))]
      go_wp2
      go_ret
      exact ⟨by rw [E.out]; rfl, VN.out⟩

theorem blk_store {w w' : World} {gb : Nat} {l : List PB} {b : PB} {i : Nat} (h : Blk w gb 67 (bCells l)) (hi : i < l.length)
    (hw : w' = (((w.setCell ⟨gb, i * 4, none⟩ (.int .u8 (b.w : Nat))).setCell ⟨gb, i * 4 + 1, none⟩ (.int .u8 (b.k : Nat))).setCell ⟨gb, i * 4 + 2, none⟩ (.int .u32 (b.e : Nat))).setCell ⟨gb, i * 4 + 3, none⟩ (.int .u64 (b.s : Nat))) :
    Blk w' gb 67 (bCells (l.set i b)) ∧ Kept (· = gb) w w' := by
  subst hw
  refine ⟨?_, (((Kept.set1 w gb _ _).setCell (p := ⟨gb, _, none⟩) (fun _ => rfl) _).setCell (p := ⟨gb, _, none⟩) (fun _ => rfl) _).setCell (p := ⟨gb, _, none⟩) (fun _ => rfl) _⟩
  have := (((h.put (i * 4) (.int .u8 (b.w : Nat))).put (i * 4 + 1) (.int .u8 (b.k : Nat))).put (i * 4 + 2) (.int .u32 (b.e : Nat))).put (i * 4 + 3) (.int .u64 (b.s : Nat))
  rw [bCells_set l b i hi] at this
  exact this

theorem PRep.put {Qc : Nat → Prop} {w w' : World} {gp gb g : Nat} {s : CSt} {p : PSt} {i : Nat} {b : PB} (h : PRep Qc w gp gb g s p) (hk : Kept (· = gb) w w') (hb : b.Ok) (hB : Blk w' gb 67 (bCells (p.bl.set i b))) : PRep Qc w' gp gb g s { p with bl := p.bl.set i b } :=
  { chip := h.chip.kept hk fun x q e => h.nb (e ▸ q), pool := h.pool.kept hk h.ne, blks := hB, len := by show (p.bl.set i b).length = _; rw [List.length_set]; exact h.len, next := h.next, last := h.last,
    okb := fun x hx => by
      rcases List.mem_or_eq_of_mem_set hx with hx | rfl
      · exact h.okb x hx
      · exact hb
    np := h.np, nb := h.nb }

theorem gh_bounds (l : List Nat) (hl : IsBytes l) : ghK l < 256 ∧ ghR l < 4294967296 ∧ ghS l < 18446744073709551616 := by
  by_cases h : ghE l = 0
  · have h1 : sGetE l = 0 ∧ (sGetL l).length = 13 := by
      unfold ghE at h
      split at h
      · rename_i h2; exact absurd h h2
      · rename_i h2
        split at h
        · rename_i h3; exact ⟨by simpa using h2, h3.1.2⟩
        · cases h
    have hb : IsBytes (sGetL l) := by
      unfold sGetL
      rw [if_pos h1.1]
      exact fun x hx => hl x (List.mem_of_mem_drop (List.mem_of_mem_take hx))
    unfold ghK ghR ghS
    rw [if_pos h, if_pos h, if_pos h]
    exact bd_lt _ hb h1.2
  · unfold ghK ghR ghS
    rw [if_neg h, if_neg h, if_neg h]
    omega
theorem hlV_le (s : CSt) (i : Nat) : hlV s i ≤ 2 := by unfold hlV; split <;> omega
theorem readL_bytes (s : CSt) (b p : Int) (ok : s.Ok) : IsBytes (readL s b p) := by
  unfold readL
  split
  · exact pg_bytes s ok b p
  · intro x hx; cases hx
theorem lookV_ok (s : CSt) (i : Nat) (ok : s.Ok) : (lookV s i).Ok := by
  obtain ⟨h1, h2, h3⟩ := gh_bounds _ (readL_bytes s i 0 ok)
  have h4 := hlV_le s i
  unfold lookV
  split
  · exact ⟨by show 1 ≤ 2; omega, h1, h2, h3⟩
  · exact ⟨h4, by show 0 < 256; omega, by show 0 < 4294967296; omega, by show 0 < 18446744073709551616; omega⟩

def LookP (Qc : Nat → Prop) (w : World) (gp gb g : Nat) (s : CSt) (p : PSt) (e : Ending) (w' : World) : Prop := e = .returned (.tuple #[]) ∧ PRep Qc w' gp gb g s p ∧ Kept (· = gb) w w'

set_option maxRecDepth 100000 in
set_option maxHeartbeats 1600000 in
theorem pLook_any (Qc : Nat → Prop) (gp gb g : Nat) (s : CSt) (p : PSt) (i : Nat) (w : World) (h : PRep Qc w gp gb g s p) (hi : i < s.nb) :
    Calls Tryz.prog 26 #[.pointer (some ⟨gp, 0, none⟩), .int .i64 (i : Nat)] w (LookP Qc w gp gb g s { p with bl := p.bl.set i (lookV s i) }) := by
  have HP := Lib.hid h
  have c0 : w.cell? ⟨gp, 0, none⟩ = some (.pointer (some ⟨g, 0, none⟩)) := h.pool.cell 0
  have HLN := Lib.hid (readL_len s i 0 h.chip.ok)
  have HOK := Lib.hid (lookV_ok s i h.chip.ok)
  have HI := Lib.hid hi
  have hii : (i : Int) < (s.nb : Int) := by omega
  have hnb := h.chip.ok.nb2
  have hlt : Hid (i < p.bl.length) := by rw [h.len]; exact hi
  clear h
  go_enter Tryz.func26, Tryz.ntmps26
  go_wp2_with fail
  refine (nRead_any _ _ _ i 0 _ HP.out.chip).mono ?_
  rintro e w1 ⟨A1, c1, rfl, h1, h2⟩
  have O1 := Lib.hid h1
  have N1 := Lib.hid h2
  have hcl := h1.le
  unfold maxLen at hcl
  clear h1 h2 c0
  go_wp2_with fail
  refine (getHead_any A1 _ c1 (readL s i 0) _ O1.out.bts hcl.1 (by omega)).mono ?_
  rintro e w2 ⟨rfl, h2⟩
  have N2 : Hid (New w w2) := N1.out.new h2
  clear h2 hcl O1 N1
  by_cases hg : ghE (readL s i 0) = 0
  · have EV : Hid (lookV s i = ⟨1, ghK (readL s i 0), ghR (readL s i 0), ghS (readL s i 0)⟩) := by show _ = _; unfold lookV; rw [if_pos hg]
    rw [hg]
    clear hg HLN
    generalize ghK (readL s i 0) = v0 at *
    generalize ghR (readL s i 0) = v1 at *
    generalize ghS (readL s i 0) = v2 at *
    obtain ⟨w3, hw3⟩ : ∃ w3, w3 = w2.alloc (.cells #[.int .u8 (v0 : Nat), .int .u32 (v1 : Nat), .int .u64 (v2 : Nat)] 34) := ⟨_, rfl⟩
    have H3 : Hid (Blk w3 w2.heap.size 34 [.int .u8 (v0 : Nat), .int .u32 (v1 : Nat), .int .u64 (v2 : Nat)]) := by rw [hw3]; exact Blk.made w2 _ _
    have K3 : Hid (New w w3) := by rw [hw3]; exact N2.out.alloc _
    have HW3 := Lib.hid hw3
    clear hw3
    go_wp2_with fail
    rw [← HW3.out]
    have P3 := Lib.hid (HP.out.new K3.out)
    have d1 : w3.cell? ⟨gp, 1, none⟩ = some (.slice (some ⟨gb, 0, none⟩) s.nb s.nb) := P3.out.pool.cell 1
    have e0 : w3.cell? ⟨w2.heap.size, 0, none⟩ = some (.int .u8 (v0 : Nat)) := H3.out.cell 0
    have e1 : w3.cell? ⟨w2.heap.size, 1, none⟩ = some (.int .u32 (v1 : Nat)) := H3.out.cell 1
    have e2 : w3.cell? ⟨w2.heap.size, 2, none⟩ = some (.int .u64 (v2 : Nat)) := H3.out.cell 2
    clear HW3
    go_still_tail 8, (by kernel_rfl)
    change wpList _ _ _ _ _ w3.drew
    have P4 : Hid (PRep Qc w3.drew gp gb g s p) := P3.out.new ((Kept.refl _ _).drew)
    have K4 : Hid (New w w3.drew) := K3.out.drew
    clear d1 e0 e1 e2 P3 K3 H3
    generalize w3.drew = w4 at *
    have q0 := P4.out.blks.free (i * 4)
    have q1 := P4.out.blks.free (i * 4 + 1)
    have q2 := P4.out.blks.free (i * 4 + 2)
    have q3 := P4.out.blks.free (i * 4 + 3)
    obtain ⟨b, hb⟩ := P4.out.get HI.out
    have r0 : w4.cell? ⟨gb, i * 4, none⟩ = some (.int .u8 (b.w : Nat)) := P4.out.bcell (j := 0) hb (by omega) rfl
    have r1 : w4.cell? ⟨gb, i * 4 + 1, none⟩ = some (.int .u8 (b.k : Nat)) := P4.out.bcell (j := 1) hb (by omega) rfl
    have r2 : w4.cell? ⟨gb, i * 4 + 2, none⟩ = some (.int .u32 (b.e : Nat)) := P4.out.bcell (j := 2) hb (by omega) rfl
    have r3 : w4.cell? ⟨gb, i * 4 + 3, none⟩ = some (.int .u64 (b.s : Nat)) := P4.out.bcell (j := 3) hb (by omega) rfl
    obtain ⟨w5, hw5⟩ : ∃ w5, w5 = (((w4.setCell ⟨gb, i * 4, none⟩ (.int .u8 ((1 : Nat) : Int))).setCell ⟨gb, i * 4 + 1, none⟩ (.int .u8 (v0 : Nat))).setCell ⟨gb, i * 4 + 2, none⟩ (.int .u32 (v1 : Nat))).setCell ⟨gb, i * 4 + 3, none⟩ (.int .u64 (v2 : Nat)) := ⟨_, rfl⟩
    obtain ⟨bs, ks⟩ := blk_store (b := ⟨1, v0, v1, v2⟩) P4.out.blks hlt.out hw5
    have E5 : Hid (LookP Qc w gp gb g s { p with bl := p.bl.set i (lookV s i) } (.returned (.tuple #[])) w5) := by
      refine ⟨rfl, ?_, (K4.out.mono (S' := (· = gb)) fun _ _ f => f.elim).trans ks fun _ _ x => x⟩
      rw [EV.out]
      refine P4.out.put ks ?_ bs
      rw [← EV.out]
      exact HOK.out
    have HW5 := Lib.hid hw5
    clear hw5 bs ks hb
    go_wp2
    go_end0
    have E6 := E5.out
    rw [HW5.out] at E6
    exact E6
  · have EV : Hid (lookV s i = ⟨hlV s i, 0, 0, 0⟩) := by show _ = _; unfold lookV; rw [if_neg hg]
    have hq : (ghE (readL s i 0) == 0) = false := beq_eq_false_iff_ne.2 hg
    clear hg HLN
    generalize ghK (readL s i 0) = v0 at *
    generalize ghR (readL s i 0) = v1 at *
    generalize ghS (readL s i 0) = v2 at *
    generalize ghE (readL s i 0) = v3 at *
    obtain ⟨w3, hw3⟩ : ∃ w3, w3 = w2.alloc (.cells #[.int .u8 (v0 : Nat), .int .u32 (v1 : Nat), .int .u64 (v2 : Nat)] 34) := ⟨_, rfl⟩
    have K3 : Hid (New w w3) := by rw [hw3]; exact N2.out.alloc _
    have HW3 := Lib.hid hw3
    clear hw3
    go_wp2_with fail
    rw [← HW3.out]
    clear HW3
    have P3 : Hid (PRep Qc w3.drew gp gb g s p) := HP.out.new (K3.out.drew)
    have d1 : w3.drew.cell? ⟨gp, 1, none⟩ = some (.slice (some ⟨gb, 0, none⟩) s.nb s.nb) := P3.out.pool.cell 1
    go_region_with (go_at_call 52; refine (pHeadless_any _ _ _ _ _ _ i _ P3.out).mono ?_; rintro e w4 ⟨rfl, h4⟩; have P4 := Lib.hid (P3.out.new h4); have K4 := Lib.hid ((K3.out.drew).new h4); clear h4; have d2 : w4.cell? ⟨gp, 1, none⟩ = some (.slice (some ⟨gb, 0, none⟩) s.nb s.nb) := P4.out.pool.cell 1; have q0 := P4.out.blks.free (i * 4); have q1 := P4.out.blks.free (i * 4 + 1); have q2 := P4.out.blks.free (i * 4 + 2); have q3 := P4.out.blks.free (i * 4 + 3); obtain ⟨b, hb⟩ := P4.out.get HI.out; have r0 : w4.cell? ⟨gb, i * 4, none⟩ = some (.int .u8 (b.w : Nat)) := P4.out.bcell (j := 0) hb (by omega) rfl; have r1 : w4.cell? ⟨gb, i * 4 + 1, none⟩ = some (.int .u8 (b.k : Nat)) := P4.out.bcell (j := 1) hb (by omega) rfl; have r2 : w4.cell? ⟨gb, i * 4 + 2, none⟩ = some (.int .u32 (b.e : Nat)) := P4.out.bcell (j := 2) hb (by omega) rfl; have r3 : w4.cell? ⟨gb, i * 4 + 3, none⟩ = some (.int .u64 (b.s : Nat)) := P4.out.bcell (j := 3) hb (by omega) rfl; clear hb)
    all_goals
      obtain ⟨w5, hw5⟩ : ∃ w5, w5 = (((w4.setCell ⟨gb, i * 4, none⟩ (.int .u8 (hlV s i : Nat))).setCell ⟨gb, i * 4 + 1, none⟩ (.int .u8 ((0 : Nat) : Int))).setCell ⟨gb, i * 4 + 2, none⟩ (.int .u32 ((0 : Nat) : Int))).setCell ⟨gb, i * 4 + 3, none⟩ (.int .u64 ((0 : Nat) : Int)) := ⟨_, rfl⟩
      obtain ⟨bs, ks⟩ := blk_store (b := ⟨hlV s i, 0, 0, 0⟩) P4.out.blks hlt.out hw5
      have E5 : Hid (LookP Qc w gp gb g s { p with bl := p.bl.set i (lookV s i) } (.returned (.tuple #[])) w5) := by
        refine ⟨rfl, ?_, (K4.out.mono (S' := (· = gb)) fun _ _ f => f.elim).trans ks fun _ _ x => x⟩
        rw [EV.out]
        refine P4.out.put ks ?_ bs
        rw [← EV.out]
        exact HOK.out
      have HW5 := Lib.hid hw5
      clear hw5 bs ks
      go_wp2
      go_end0
      have E6 := E5.out
      rw [HW5.out] at E6
      exact E6
end Go.Proofs.YtgfdiboaiifdnaaGreat
