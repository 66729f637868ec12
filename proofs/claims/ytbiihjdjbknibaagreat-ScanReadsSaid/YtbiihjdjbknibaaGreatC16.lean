/-
  Layer 7: contracts (Gg Gh Gi Gj Gk Gl).
-/
import Derived.Test.YtbiihjdjbknibaaGreatC15
import Derived.StillTailTactics
namespace Go.Proofs.YtbiihjdjbknibaaGreat
set_option maxRecDepth 100000
set_option maxHeartbeats 8000000
set_option linter.unusedSimpArgs false
set_option linter.unusedVariables false
section
set_option maxRecDepth 100000
open Go.ChangeShapes Go.WideShapes Go.ChangeAt Go.RowKit
def allBl (s : CSt) (i : Nat) : Bool := (List.range s.np).all fun q => blank (readL s i q)
theorem allBl_iff (s : CSt) (i : Nat) : allBl s i = true ↔ ∀ q, q < s.np → blank (readL s i q) = true := by
  unfold allBl
  rw [List.all_eq_true]
  simp only [List.mem_range]
def hlV (s : CSt) (i : Nat) : Nat := if allBl s i = true then 0 else 2
def lookV (s : CSt) (i : Nat) : PB := if ghE (readL s i 0) = 0 then ⟨1, ghK (readL s i 0), ghR (readL s i 0), ghS (readL s i 0)⟩ else ⟨hlV s i, 0, 0, 0⟩
theorem readL_len (s : CSt) (b p : Int) (ok : s.Ok) : (readL s b p).length ≤ 256 := by
  have hz := ok.nz2
  unfold readL
  split
  · unfold pgL
    have := List.length_take_le s.nz (s.by_.drop (offP s b p))
    omega
  · simp
theorem pHeadless_any (Qc : Nat → Prop) (gp gb g : Nat) (s : CSt) (p : PSt) (i : Nat) (w : World) (h : PRep Qc w gp gb g s p) :
    Calls Tryz.prog 110 #[.pointer (some ⟨gp, 0, none⟩), .int .i64 (i : Nat)] w fun e w' => e = .returned (.int .u8 (hlV s i : Nat)) ∧ New w w' := by
  have HP := jH h
  have c0 := h.pool.q0
  have HLN := jH (fun q : Int => readL_len s i q h.chip.ok)
  have hnp := h.chip.ok.np2
  have hfd : ∀ w : World, (Instr.field 51 (.agg #[.int .i64 (s.nb : Nat), .int .i64 (s.np : Nat), .int .i64 (s.nz : Nat), .int .i64 (s.ns : Nat)]) 1).run Tryz.prog w = .ok (.int .i64 (s.np : Nat)) w := fun _ => by kernel_rfl
  clear h
  go_enter Tryz.func110, Tryz.ntmps110
  go_wp2_with fail
  refine (nGeo_any _ _ _ _ HP.out.chip).mono ?_
  rintro e w1 ⟨rfl, h1⟩
  have N1 := jH h1
  clear h1 c0
  go_wp2_with fail
  go_loopw [5, 6, 7, 14] (fun _ _ _ t wr => ∃ k : Nat, k ≤ s.np ∧ t = .int .i64 k ∧ Hid (∀ q, q < k → blank (readL s i q) = true) ∧ Hid (New w wr)) (fun _ _ _ t _ => s.np - (intOf t).toNat)
  case atStart => exact ⟨0, Nat.zero_le _, rfl, fun q hq => absurd hq (by omega), N1⟩
  case round =>
    obtain ⟨k, hk, rfl, VB, VN⟩ := hrel
    clear N1
    by_cases hlt : k < s.np
    · have PR := jH (HP.out.new VN.out)
      have c0 := PR.out.pool.q0
      go_wp2_with fail
      refine (nRead_any _ _ _ i k _ PR.out.chip).mono ?_
      rintro e w2 ⟨A2, c2, rfl, h1, h2⟩
      have O2 := jH h1
      have N2 : Hid (New w w2) := VN.out.new h2
      have HL2 := jH (HLN.out k)
      clear h1 h2 c0
      by_cases hb : blank (readL s i k) = true
      · have HB := jH hb
        have VB2 : Hid (∀ q, q < k + 1 → blank (readL s i q) = true) := fun q hq => by
          rcases Nat.lt_or_ge q k with h | h
          · exact VB.out q h
          · obtain rfl : q = k := by omega
            exact HB.out
        clear hb
        go_wp2_with fail
        refine (sBlank_any A2 _ c2 (readL s i k) _ O2.out.bts (by have := HL2.out; unfold maxLen; omega)).mono ?_
        rintro e w3 ⟨rfl, rfl⟩
        rw [HB.out]
        go_wp2
        go_roundw
        case rel => exact ⟨k + 1, by omega, by go_num, VB2, N2⟩
        case measure => simp [intOf]; omega
      · have hb2 : blank (readL s i k) = false := by simpa using hb
        have E : Hid (hlV s i = 2) := by
          show _ = _
          unfold hlV
          rw [if_neg fun h => hb ((allBl_iff s i).1 h k hlt)]
        have HB := jH hb2
        clear hb hb2
        go_wp2_with fail
        refine (sBlank_any A2 _ c2 (readL s i k) _ O2.out.bts (by have := HL2.out; unfold maxLen; omega)).mono ?_
        rintro e w3 ⟨rfl, rfl⟩
        rw [HB.out]
        go_wp2
        go_ret
        exact ⟨by rw [E.out]; rfl, N2.out⟩
    · have E : Hid (hlV s i = 0) := by
        show _ = _
        unfold hlV
        rw [if_pos ((allBl_iff s i).2 fun q hq => VB.out q (by omega))]
      go_wp2
      go_ret
      exact ⟨by rw [E.out]; rfl, VN.out⟩
theorem blk_store {w w' : World} {gb : Nat} {l : List PB} {b : PB} {i : Nat} (h : Blk w gb 163 (bCells l)) (hi : i < l.length)
    (hw : w' = (((w.setCell ⟨gb, i * 4, none⟩ (.int .u8 (b.w : Nat))).setCell ⟨gb, i * 4 + 1, none⟩ (.int .u8 (b.k : Nat))).setCell ⟨gb, i * 4 + 2, none⟩ (.int .u32 (b.e : Nat))).setCell ⟨gb, i * 4 + 3, none⟩ (.int .u64 (b.s : Nat))) :
    Blk w' gb 163 (bCells (l.set i b)) ∧ Kept (· = gb) w w' := by
  subst hw
  refine ⟨?_, (((Kept.set1 w gb _ _).setCell (p := ⟨gb, _, none⟩) (fun _ => rfl) _).setCell (p := ⟨gb, _, none⟩) (fun _ => rfl) _).setCell (p := ⟨gb, _, none⟩) (fun _ => rfl) _⟩
  have := (((h.put (i * 4) (.int .u8 (b.w : Nat))).put (i * 4 + 1) (.int .u8 (b.k : Nat))).put (i * 4 + 2) (.int .u32 (b.e : Nat))).put (i * 4 + 3) (.int .u64 (b.s : Nat))
  rw [bCells_set l b i hi] at this
  exact this
theorem PRep.put {Qc : Nat → Prop} {w w' : World} {gp gb g : Nat} {s : CSt} {p : PSt} {i : Nat} {b : PB} (h : PRep Qc w gp gb g s p) (hk : Kept (· = gb) w w') (hb : b.Ok) (hB : Blk w' gb 163 (bCells (p.bl.set i b))) : PRep Qc w' gp gb g s { p with bl := p.bl.set i b } :=
  { chip := h.chip.kept hk fun x q e => h.nb (e ▸ q), pool := h.pool.kept hk h.ne, blks := hB, len := by show (p.bl.set i b).length = _; rw [List.length_set]; exact h.len, next := h.next, last := h.last,
    okb := fun x hx => by
      rcases List.mem_or_eq_of_mem_set hx with hx | rfl
      · exact h.okb x hx
      · exact hb
    np := h.np, nb := h.nb }
theorem gh_bounds (l : List Nat) (hl : IsBytes l) : ghK l < 256 ∧ ghR l < 4294967296 ∧ ghS l < 18446744073709551616 := by
  by_cases h : ghE l = 0
  · have h1 : sGetE l = 0 ∧ (sGetL l).length = 13 := by
      unfold ghE at h
      split at h
      · rename_i h2; exact absurd h h2
      · rename_i h2
        split at h
        · rename_i h3; exact ⟨by simpa using h2, h3.1.2⟩
        · cases h
    have hb : IsBytes (sGetL l) := by
      unfold sGetL
      rw [if_pos h1.1]
      exact fun x hx => hl x (List.mem_of_mem_drop (List.mem_of_mem_take hx))
    unfold ghK ghR ghS
    rw [if_pos h, if_pos h, if_pos h]
    exact bd_lt _ hb h1.2
  · unfold ghK ghR ghS
    rw [if_neg h, if_neg h, if_neg h]
    omega
theorem hlV_le (s : CSt) (i : Nat) : hlV s i ≤ 2 := by unfold hlV; split <;> omega
theorem readL_bytes (s : CSt) (b p : Int) (ok : s.Ok) : IsBytes (readL s b p) := by
  unfold readL
  split
  · exact pg_bytes s ok b p
  · intro x hx; cases hx
theorem lookV_ok (s : CSt) (i : Nat) (ok : s.Ok) : (lookV s i).Ok := by
  obtain ⟨h1, h2, h3⟩ := gh_bounds _ (readL_bytes s i 0 ok)
  have h4 := hlV_le s i
  unfold lookV
  split
  · exact ⟨by show 1 ≤ 2; omega, h1, h2, h3⟩
  · exact ⟨h4, by show 0 < 256; omega, by show 0 < 4294967296; omega, by show 0 < 18446744073709551616; omega⟩
def LookP (Qc : Nat → Prop) (w : World) (gp gb g : Nat) (s : CSt) (p : PSt) (e : Ending) (w' : World) : Prop := e = .returned (.tuple #[]) ∧ PRep Qc w' gp gb g s p ∧ Kept (· = gb) w w'
theorem pLook_any (Qc : Nat → Prop) (gp gb g : Nat) (s : CSt) (p : PSt) (i : Nat) (w : World) (h : PRep Qc w gp gb g s p) (hi : i < s.nb) :
    Calls Tryz.prog 83 #[.pointer (some ⟨gp, 0, none⟩), .int .i64 (i : Nat)] w (LookP Qc w gp gb g s { p with bl := p.bl.set i (lookV s i) }) := by
  have HP := jH h
  have c0 := h.pool.q0
  have HLN := jH (readL_len s i 0 h.chip.ok)
  have HOK := jH (lookV_ok s i h.chip.ok)
  have HI := jH hi
  have hii : (i : Int) < (s.nb : Int) := by omega
  have hnb := h.chip.ok.nb2
  have hlt : Hid (i < p.bl.length) := by rw [h.len]; exact hi
  clear h
  go_enter Tryz.func83, Tryz.ntmps83
  go_wp2_with fail
  refine (nRead_any _ _ _ i 0 _ HP.out.chip).mono ?_
  rintro e w1 ⟨A1, c1, rfl, h1, h2⟩
  have O1 := jH h1
  have N1 := jH h2
  have hcl := h1.le
  unfold maxLen at hcl
  clear h1 h2 c0
  go_wp2_with fail
  refine (getHead_any A1 _ c1 (readL s i 0) _ O1.out.bts hcl.1 (by omega)).mono ?_
  rintro e w2 ⟨rfl, h2⟩
  have N2 : Hid (New w w2) := N1.out.new h2
  clear h2 hcl O1 N1
  by_cases hg : ghE (readL s i 0) = 0
  · have EV : Hid (lookV s i = ⟨1, ghK (readL s i 0), ghR (readL s i 0), ghS (readL s i 0)⟩) := by show _ = _; unfold lookV; rw [if_pos hg]
    rw [hg]
    clear hg HLN
    generalize ghK (readL s i 0) = v0 at *
    generalize ghR (readL s i 0) = v1 at *
    generalize ghS (readL s i 0) = v2 at *
    obtain ⟨w3, hw3⟩ : ∃ w3, w3 = w2.alloc (.cells #[.int .u8 (v0 : Nat), .int .u32 (v1 : Nat), .int .u64 (v2 : Nat)] 69) := ⟨_, rfl⟩
    have H3 : Hid (Blk w3 w2.heap.size 69 [.int .u8 (v0 : Nat), .int .u32 (v1 : Nat), .int .u64 (v2 : Nat)]) := by rw [hw3]; exact Blk.made w2 _ _
    have K3 : Hid (New w w3) := by rw [hw3]; exact N2.out.alloc _
    have HW3 := jH hw3
    clear hw3
    go_wp2_with fail
    rw [← HW3.out]
    have P3 := jH (HP.out.new K3.out)
    have d1 := P3.out.pool.q1
    obtain ⟨e0, e1, e2⟩ := H3.out.p3
    clear HW3
    go_still_tail 8, (by kernel_rfl)
    change wpList _ _ _ _ _ w3.drew
    have P4 : Hid (PRep Qc w3.drew gp gb g s p) := P3.out.new (kR.drew)
    have K4 : Hid (New w w3.drew) := K3.out.drew
    clear d1 e0 e1 e2 P3 K3 H3
    generalize w3.drew = w4 at *
    have q0 := P4.out.blks.free (i * 4)
    have q1 := P4.out.blks.free (i * 4 + 1)
    have q2 := P4.out.blks.free (i * 4 + 2)
    have q3 := P4.out.blks.free (i * 4 + 3)
    obtain ⟨b, hb⟩ := P4.out.get HI.out
    have r0 : w4.cell? ⟨gb, i * 4, none⟩ = some (.int .u8 (b.w : Nat)) := P4.out.bcell (j := 0) hb (by omega) rfl
    have r1 : w4.cell? ⟨gb, i * 4 + 1, none⟩ = some (.int .u8 (b.k : Nat)) := P4.out.bcell (j := 1) hb (by omega) rfl
    have r2 : w4.cell? ⟨gb, i * 4 + 2, none⟩ = some (.int .u32 (b.e : Nat)) := P4.out.bcell (j := 2) hb (by omega) rfl
    have r3 : w4.cell? ⟨gb, i * 4 + 3, none⟩ = some (.int .u64 (b.s : Nat)) := P4.out.bcell (j := 3) hb (by omega) rfl
    obtain ⟨w5, hw5⟩ : ∃ w5, w5 = (((w4.setCell ⟨gb, i * 4, none⟩ (.int .u8 ((1 : Nat) : Int))).setCell ⟨gb, i * 4 + 1, none⟩ (.int .u8 (v0 : Nat))).setCell ⟨gb, i * 4 + 2, none⟩ (.int .u32 (v1 : Nat))).setCell ⟨gb, i * 4 + 3, none⟩ (.int .u64 (v2 : Nat)) := ⟨_, rfl⟩
    obtain ⟨bs, ks⟩ := blk_store (b := ⟨1, v0, v1, v2⟩) P4.out.blks hlt.out hw5
    have E5 : Hid (LookP Qc w gp gb g s { p with bl := p.bl.set i (lookV s i) } (.returned (.tuple #[])) w5) := by
      refine ⟨rfl, ?_, (K4.out.mono (S' := (· = gb)) fun _ _ f => f.elim).trans ks fun _ _ x => x⟩
      rw [EV.out]
      refine P4.out.put ks ?_ bs
      rw [← EV.out]
      exact HOK.out
    have HW5 := jH hw5
    clear hw5 bs ks hb
    go_wp2
    go_end0
    have E6 := E5.out
    rw [HW5.out] at E6
    exact E6
  · have EV : Hid (lookV s i = ⟨hlV s i, 0, 0, 0⟩) := by show _ = _; unfold lookV; rw [if_neg hg]
    have hq : (ghE (readL s i 0) == 0) = false := beq_eq_false_iff_ne.2 hg
    clear hg HLN
    generalize ghK (readL s i 0) = v0 at *
    generalize ghR (readL s i 0) = v1 at *
    generalize ghS (readL s i 0) = v2 at *
    generalize ghE (readL s i 0) = v3 at *
    obtain ⟨w3, hw3⟩ : ∃ w3, w3 = w2.alloc (.cells #[.int .u8 (v0 : Nat), .int .u32 (v1 : Nat), .int .u64 (v2 : Nat)] 69) := ⟨_, rfl⟩
    have K3 : Hid (New w w3) := by rw [hw3]; exact N2.out.alloc _
    have HW3 := jH hw3
    clear hw3
    go_wp2_with fail
    rw [← HW3.out]
    clear HW3
    have P3 : Hid (PRep Qc w3.drew gp gb g s p) := HP.out.new (K3.out.drew)
    have d1 := P3.out.pool.q1
    go_region_with (go_at_call 110; refine (pHeadless_any _ _ _ _ _ _ i _ P3.out).mono ?_; rintro e w4 ⟨rfl, h4⟩; have P4 := jH (P3.out.new h4); have K4 := jH ((K3.out.drew).new h4); clear h4; have d2 := P4.out.pool.q1; have q0 := P4.out.blks.free (i * 4); have q1 := P4.out.blks.free (i * 4 + 1); have q2 := P4.out.blks.free (i * 4 + 2); have q3 := P4.out.blks.free (i * 4 + 3); obtain ⟨b, hb⟩ := P4.out.get HI.out; have r0 : w4.cell? ⟨gb, i * 4, none⟩ = some (.int .u8 (b.w : Nat)) := P4.out.bcell (j := 0) hb (by omega) rfl; have r1 : w4.cell? ⟨gb, i * 4 + 1, none⟩ = some (.int .u8 (b.k : Nat)) := P4.out.bcell (j := 1) hb (by omega) rfl; have r2 : w4.cell? ⟨gb, i * 4 + 2, none⟩ = some (.int .u32 (b.e : Nat)) := P4.out.bcell (j := 2) hb (by omega) rfl; have r3 : w4.cell? ⟨gb, i * 4 + 3, none⟩ = some (.int .u64 (b.s : Nat)) := P4.out.bcell (j := 3) hb (by omega) rfl; clear hb)
    all_goals
      obtain ⟨w5, hw5⟩ : ∃ w5, w5 = (((w4.setCell ⟨gb, i * 4, none⟩ (.int .u8 (hlV s i : Nat))).setCell ⟨gb, i * 4 + 1, none⟩ (.int .u8 ((0 : Nat) : Int))).setCell ⟨gb, i * 4 + 2, none⟩ (.int .u32 ((0 : Nat) : Int))).setCell ⟨gb, i * 4 + 3, none⟩ (.int .u64 ((0 : Nat) : Int)) := ⟨_, rfl⟩
      obtain ⟨bs, ks⟩ := blk_store (b := ⟨hlV s i, 0, 0, 0⟩) P4.out.blks hlt.out hw5
      have E5 : Hid (LookP Qc w gp gb g s { p with bl := p.bl.set i (lookV s i) } (.returned (.tuple #[])) w5) := by
        refine ⟨rfl, ?_, (K4.out.mono (S' := (· = gb)) fun _ _ f => f.elim).trans ks fun _ _ x => x⟩
        rw [EV.out]
        refine P4.out.put ks ?_ bs
        rw [← EV.out]
        exact HOK.out
      have HW5 := jH hw5
      clear hw5 bs ks
      go_wp2
      go_end0
      have E6 := E5.out
      rw [HW5.out] at E6
      exact E6
end
section
set_option maxRecDepth 100000
open Go.ChangeShapes Go.WideShapes Go.ChangeAt Go.RowKit
theorem PRep.step {Qc:Nat→Prop} {w w':World} {gp gb g:Nat} {s s':CSt} {p:PSt} (h:PRep Qc w gp gb g s p) (hk:Kept Qc w w') (hc:NChip Qc w' g s') (hn:s'.nb=s.nb):PRep Qc w' gp gb g s' p:=
 { chip:=hc,pool:=by rw[hn];exact h.pool.kept hk h.np,blks:=h.blks.kept hk h.nb,len:=by rw[hn];exact h.len,next:=by rw[hn];exact h.next,last:=h.last,okb:=h.okb,np:=h.np,nb:=h.nb }
end
section
set_option maxRecDepth 100000
open Go.ChangeShapes Go.WideShapes Go.ChangeAt Go.RowKit
theorem PRep.setLast {Qc:Nat→Prop} {w w':World} {gp gb g:Nat} {s:CSt} {p:PSt} {n:Nat} (h:PRep Qc w gp gb g s p) (hn:n < 18446744073709551616) (hw:w'=w.setCell ⟨gp,3,none⟩ (.int .u64 (n:Nat))):PRep Qc w' gp gb g s { p with last:=n }:=by
 subst hw;have hk:Kept (·=gp) w (w.setCell ⟨gp,3,none⟩ (.int .u64 (n:Nat))):=Kept.set1 _ _ _ _;exact { chip:=h.chip.kept hk fun x q e=>h.np (e ▸ q),pool:=h.pool.put 3 (.int .u64 (n:Nat)),blks:=h.blks.kept hk (Ne.symm h.ne),len:=h.len,next:=h.next,last:=hn,okb:=h.okb,np:=h.np,nb:=h.nb }
theorem PRep.setNext {Qc:Nat→Prop} {w w':World} {gp gb g:Nat} {s:CSt} {p:PSt} {n:Nat} (h:PRep Qc w gp gb g s p) (hn:n < s.nb) (hw:w'=w.setCell ⟨gp,2,none⟩ (.int .i64 (n:Nat))):PRep Qc w' gp gb g s { p with next:=n }:=by
 subst hw;have hk:Kept (·=gp) w (w.setCell ⟨gp,2,none⟩ (.int .i64 (n:Nat))):=Kept.set1 _ _ _ _;exact { chip:=h.chip.kept hk fun x q e=>h.np (e ▸ q),pool:=h.pool.put 2 (.int .i64 (n:Nat)),blks:=h.blks.kept hk (Ne.symm h.ne),len:=h.len,next:=hn,last:=h.last,okb:=h.okb,np:=h.np,nb:=h.nb }
end
section
set_option maxRecDepth 100000
open Go.ChangeShapes Go.WideShapes Go.ChangeAt Go.RowKit
theorem ref00 (s:CSt) (ok:s.Ok):readE s 0 0=if s.dead=true then 10 else 0:=by
 unfold readE refE
 split
 ·rfl
 ·rw[if_pos ⟨⟨by omega,by have:=ok.nb1;omega⟩,by omega,by have:=ok.np1;omega⟩]
end
section
set_option maxRecDepth 100000
open Go.ChangeShapes Go.WideShapes Go.ChangeAt Go.RowKit
end
section
set_option maxRecDepth 100000
open Go.ChangeShapes Go.WideShapes Go.ChangeAt Go.RowKit
structure TK where
 b:Nat
 k:Nat
 e:Nat
 s:Nat
 bad:Bool
def TK.cells (t:TK):List Value:=[.int .i64 (t.b:Nat),.int .u8 (t.k:Nat),.int .u32 (t.e:Nat),.int .u64 (t.s:Nat),.bool t.bad]
def tRow:List TK→List Value→List Value
 | [],junk=>junk
 | t::l,junk=>t.cells++tRow l junk
theorem tRow_get (junk:List Value) (l:List TK) (j:Nat) (v:Value):∀(i:Nat) (t:TK),l[i]?=some t→j < 5→t.cells[j]?=some v→(tRow l junk)[i*5+j]?=some v:=by
 induction l with
 | nil=>intro i b h;simp at h
 | cons c l ih=>
  intro i b h hj hv
  cases i with
  | zero=>
   simp at h;subst h;simp only[tRow,Nat.zero_mul,Nat.zero_add];rw[List.getElem?_append_left (by simp[TK.cells];omega)];exact hv
  | succ i=>
   simp only[tRow];rw[List.getElem?_append_right (by simp[TK.cells];omega),show (i+1)*5+j - c.cells.length=i*5+j by simp[TK.cells];omega];exact ih i b (by simpa using h) hj hv
theorem tRow_set (junk:List Value) (l:List TK) (b:TK):∀(i:Nat),i < l.length→(((((tRow l junk).set (i*5) (.int .i64 (b.b:Nat))).set (i*5+1) (.int .u8 (b.k:Nat))).set (i*5+2) (.int .u32 (b.e:Nat))).set (i*5+3) (.int .u64 (b.s:Nat))).set (i*5+4) (.bool b.bad)=tRow (l.set i b) junk:=by
 induction l with
 | nil=>intro i h;simp at h
 | cons c l ih=>
  intro i h
  cases i with
  | zero=>simp[tRow,TK.cells]
  | succ i=>
   have h1:=ih i (by simpa using h)
   have e0:(i+1)*5=i*5+1+1+1+1+1:=by omega
   simp only[tRow,List.set_cons_succ,TK.cells,e0,List.cons_append,List.nil_append];rw[←h1]
def seqAt (l:List TK) (i:Nat):Nat:=((l[i]?).map TK.s).getD 0
def swp (l:List TK) (j:Nat):List TK:=match l[j]?,l[j+1]? with|some x,some y=>(l.set (j+1) x).set j y|_,_=>l
def bub:Nat→List TK→List TK
 | 0,l=>l
 | j+1,l=>if seqAt l (j+1) < seqAt l j then bub j (swp l j) else l
def insG (l:List TK):Nat→List TK
 | 0=>l
 | k+1=>bub (k+1) (insG l k)
theorem swp_len (l:List TK) (j:Nat):(swp l j).length=l.length:=by unfold swp;split<;>simp
theorem bub_len:∀(j:Nat) (l:List TK),(bub j l).length=l.length:=by
 intro j
 induction j with
 | zero=>intro l;rfl
 | succ j ih=>
  intro l;simp only[bub]
  split
  ·rw[ih,swp_len]
  ·rfl
theorem insG_len (l:List TK):∀k,(insG l k).length=l.length:=by
 intro k
 induction k with
 | zero=>rfl
 | succ k ih=>simp only[insG];rw[bub_len,ih]
def cmpV (x y:Nat):Int:=if x < y then -1 else if y < x then 1 else 0
theorem cmpNaN_any (x:Nat) (w:World):Calls Tryz.prog 112 #[.int .u64 (x:Nat)] w fun e w'=>e=.returned (.bool false)∧w=w':=by
 go_enter Tryz.func112,Tryz.ntmps112;go_wp2;go_ret;exact⟨by simp,rfl⟩
theorem cmpU_any (x y:Nat) (w:World):Calls Tryz.prog 89 #[.int .u64 (x:Nat),.int .u64 (y:Nat)] w fun e w'=>e=.returned (.int .i64 (cmpV x y))∧w=w':=by
 rcases Nat.lt_trichotomy x y with h|h|h
 ·have E:cmpV x y=-1:=by unfold cmpV;rw[if_pos h]
  rw[E];have j1:decide (x < y)=true:=decide_eq_true h;go_enter Tryz.func89,Tryz.ntmps89
  go_wp2_with (first|(go_at_call 112;refine (cmpNaN_any _ _).mono ?_;rintro e w' ⟨rfl,rfl⟩))
  go_ret;exact⟨rfl,rfl⟩
 ·have E:cmpV x y=0:=by unfold cmpV;rw[if_neg (by omega),if_neg (by omega)]
  rw[E];subst h;go_enter Tryz.func89,Tryz.ntmps89
  go_wp2_with (first|(go_at_call 112;refine (cmpNaN_any _ _).mono ?_;rintro e w' ⟨rfl,rfl⟩))
  go_ret;exact⟨rfl,rfl⟩
 ·have E:cmpV x y=1:=by unfold cmpV;rw[if_neg (by omega),if_pos h]
  rw[E];have j1:decide (x < y)=false:=decide_eq_false (by omega);have j2:decide (y < x)=true:=decide_eq_true h;go_enter Tryz.func89,Tryz.ntmps89
  go_wp2_with (first|(go_at_call 112;refine (cmpNaN_any _ _).mono ?_;rintro e w' ⟨rfl,rfl⟩))
  go_ret;exact⟨rfl,rfl⟩
theorem tkCmp_any (x y:TK) (w:World):Calls Tryz.prog 88 #[.agg #[.int .i64 (x.b:Nat),.int .u8 (x.k:Nat),.int .u32 (x.e:Nat),.int .u64 (x.s:Nat),.bool x.bad],.agg #[.int .i64 (y.b:Nat),.int .u8 (y.k:Nat),.int .u32 (y.e:Nat),.int .u64 (y.s:Nat),.bool y.bad]] w
  fun e w'=>e=.returned (.int .i64 (cmpV x.s y.s))∧New w w':=by
 go_enter Tryz.func88,Tryz.ntmps88;go_wp2_with fail;refine (cmpU_any _ _ _).mono ?_;rintro e w' ⟨rfl,rfl⟩;go_wp2;go_ret;exact⟨rfl,(kR.alloc _).alloc _⟩
end
end Go.Proofs.YtbiihjdjbknibaaGreat
