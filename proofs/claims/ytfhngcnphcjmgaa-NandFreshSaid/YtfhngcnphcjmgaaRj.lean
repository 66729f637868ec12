/-
  The contracts of the reference's Erase and Power.
-/
import Derived.Test.YtfhngcnphcjmgaaRi
namespace Go.Proofs.Ytfhngcnphcjmgaa
open Go.ChangeShapes Go.WideShapes Go.ChangeAt Go.RowKit

set_option maxRecDepth 100000 in
set_option maxHeartbeats 1600000 in
theorem rErase_any (Q : Nat → Prop) (g : Nat) (s : CSt) (b : Int) (w : World) (h : RChip Q w g s) (hd : s.deeds < 4611686018427387904) :
    Calls Try.prog 97 #[.pointer (some ⟨g, 0, none⟩), .int .i64 b] w (RDeedP Q w g (erasS s b) (erasE s b)) := by
  have hstay := fun (w' : World) (hk : New w w') (er : Int) => RDeedP.stay h hk er
  obtain ⟨gc, gb, cc, cb, Ah, ch, h⟩ := h
  have H := Lib.hid h
  have HS := Lib.hid hstay
  have c8 := h.c8
  by_cases hdd : s.dead = true
  · have e : refE s b 0 = 10 := by unfold refE; rw [if_pos hdd]
    have e0 : erasR s b = 10 := by unfold erasR; rw [e, if_pos (by decide)]
    have e1 : erasE s b = 10 := by unfold erasE; rw [e0, if_neg (by decide)]
    have e2 : erasS s b = s := by unfold erasS; rw [e0, if_neg (by decide)]
    rw [e1, e2]
    rw [hdd] at c8
    clear h hstay hdd e e0 e1 e2 hd
    go_enter Try.func97, Try.ntmps97
    go_wp2
    go_ret
    exact HS.out _ (Kept.refl _ _) 10
  · have hdd' : s.dead = false := by simpa using hdd
    rw [hdd'] at c8
    by_cases ht : there s b 0
    · have hr : refE s b 0 = 0 := by unfold refE; rw [if_neg hdd, if_pos ht]
      have HT := Lib.hid (decide_eq_true ht)
      obtain ⟨b', rfl, hb⟩ := nat_of ht.1
      have HB := Lib.hid hb
      have HD := Lib.hid hd
      have HDD := Lib.hid hdd'
      have c5 := h.c5
      rw [h.ok.badl] at c5
      have hlt := h.chip.lt
      have hbi : (b' : Int) < ((s.nb : Nat) : Int) := by omega
      have hcb := h.badCell b' hb
      by_cases hbad : badAt s b' = true
      · have e0 : erasR s b' = 9 := by unfold erasR; rw [hr]; simp [hbad]
        have e1 : erasE s b' = 9 := by unfold erasE; rw [e0]; rfl
        have e2 : erasS s b' = s := by unfold erasS; rw [e0]; rfl
        rw [e1, e2]
        rw [hbad] at hcb
        clear h hr hdd hdd' ht hb hd e0 e1 e2 hbad hstay
        go_enter Try.func97, Try.ntmps97
        go_wp2_with fail
        refine (rThere_any _ _ _ _ _ _ _ _ _ _ _ _ H.out).mono ?_
        rintro e w' ⟨rfl, rfl⟩
        rw [HT.out]
        go_wp2
        go_ret
        exact HS.out _ (Kept.refl _ _) 9
      · have hbad' : badAt s b' = false := by simpa using hbad
        rw [hbad'] at hcb
        have e0 : erasR s b' = 0 := by unfold erasR; rw [hr]; simp [hbad']
        have e3 : offP s b' 0 = (b' * s.np + 0) * s.nz := by unfold offP; simp
        have HE1 : Hid (erasE s b' = deedE s ∧ erasS s b' = deedS s b' ((b' * s.np + 0) * s.nz) (List.replicate (s.np * s.nz) 255)) := by
          show _ ∧ _
          unfold erasE erasS
          rw [e0, if_pos rfl, if_pos rfl, e3]
          exact ⟨rfl, rfl⟩
        have hfit := (off_fit s h.ok b' 0 ht).1
        rw [e3] at hfit
        simp only [Int.toNat_zero, Nat.sub_zero] at hfit
        have HFI := Lib.hid hfit
        have hm1 : s.np * s.nz ≤ 8192 := by have := Nat.mul_le_mul h.ok.np2 h.ok.nz2; omega
        have hnp0 : 0 < s.np := by have := h.ok.np1; omega
        have HM1 := Lib.hid hm1
        have HNP := Lib.hid hnp0
        obtain ⟨i1, hi1, hz10, hz11, hz12⟩ := info_parts info_u8
        have hmk1 := fun u => run_make_bytes (P := Try.prog) 30 5 i1 Try.underlying30 hi1 hz10 hz11 hz12 .i64 .i64 ((s.np * s.nz : Nat) : Int) ((s.np * s.nz : Nat) : Int) (s.np * s.nz) (s.np * s.nz) rfl rfl (Nat.le_refl _) (by omega) u
        have hw : IntKind.i64.wrap ((s.np : Int) * (s.nz : Int)) = ((s.np * s.nz : Nat) : Int) := by rw [prod_int]; exact wrap_nat (by omega)
        have d1 := h.c1
        have d2 := h.c2
        generalize hN : s.np * s.nz = N at *
        have HN := Lib.hid hN
        clear h hr hdd hdd' ht hb hd e0 e3 hbad hbad' hfit hstay hm1 hi1 hz10 hz11 hz12 hnp0 hN
        go_enter Try.func97, Try.ntmps97
        go_wp2_with fail
        refine (rThere_any _ _ _ _ _ _ _ _ _ _ _ _ H.out).mono ?_
        rintro e w' ⟨rfl, rfl⟩
        rw [HT.out]
        go_wp2
        go_region
        have V0 : Hid (Blk ((w.alloc (.cells (rawB (List.replicate N 0)) 5)).drew) w.heap.size 5 ((List.replicate 0 255 ++ List.replicate (N - 0) 0).map byt)) := by
          have := (Blk.madeB w 5 (List.replicate N 0)).drew
          simpa [Hid] using this
        have K0 : Hid (New w ((w.alloc (.cells (rawB (List.replicate N 0)) 5)).drew)) := ((Kept.refl _ _).alloc _).drew
        have hNb := HM1.out
        generalize (w.alloc (.cells (rawB (List.replicate N 0)) 5)).drew = w0 at *
        go_wp2
        go_loopw [6] (fun i wr => ∃ k : Nat, k ≤ N ∧ i = .int .i64 k ∧ Hid (Blk wr w.heap.size 5 ((List.replicate k 255 ++ List.replicate (N - k) 0).map byt)) ∧ Hid (New w wr)) (fun i _ => N - (intOf i).toNat)
        case atStart => exact ⟨0, Nat.zero_le _, rfl, V0, K0⟩
        case round =>
          obtain ⟨k, hk, rfl, V1, V2⟩ := hrel
          clear V0 K0
          by_cases hlt2 : k < N
          · have hcell : wr.cell? ⟨w.heap.size, k, none⟩ = some (.int .u8 0) := by
              rw [V1.out.cell, show N - k = (N - (k + 1)) + 1 from by omega, List.replicate_succ]
              exact get_step _ _ _ _ (by simp)
            have hfree := V1.out.free k
            go_wp2
            go_roundw
            case rel =>
              have hb1 := V1.out.put k (.int .u8 255)
              rw [rnew_fill N k hlt2] at hb1
              exact ⟨k + 1, by omega, by go_num, hb1, V2.out.setCell (p := ⟨w.heap.size, k, none⟩) (fun hh => by simp at hh) _⟩
            case measure => simp [intOf]; omega
          · obtain rfl : k = N := by omega
            have BE : Hid (Bts wr (some ⟨w.heap.size, 0, none⟩) k (List.replicate k 255)) := by
              have := V1.out
              rw [Nat.sub_self, List.replicate_zero, List.append_nil] at this
              exact bts_of_ones (j := []) (by rw [List.append_nil]; exact this)
            have R1 := Lib.hid (H.out.new V2.out)
            have HA1 : Hid (∀ a, (some ⟨w.heap.size, 0, none⟩ : Option Addr) = some a → ¬ Q a.block) := fun a ha hq => by
              injection ha with ha
              subst ha
              have := H.out.low _ hq
              simp at this
            go_wp2_with fail
            refine (rAt_any _ _ _ _ _ _ _ _ _ _ 0 _ R1.out HB.out HNP.out).mono ?_
            rintro e w' ⟨q2, rfl, rfl⟩
            go_wp2_with fail
            refine (rDone_any Q g gc gb cc cb Ah ch s b' ((b' * s.np + 0) * s.nz) k (some ⟨w.heap.size, 0, none⟩) _ (List.replicate k 255) _ (R1.out.drewN q2) HD.out (BE.out.drewN q2) HA1.out HFI.out (by omega) HB.out HDD.out).mono ?_
            rintro e w4 ⟨rfl, hc, hk⟩
            have HC := Lib.hid hc
            have HK : Hid (Kept Q w w4) := (V2.out.mono (S' := Q) fun _ _ f => f.elim).trans (Kept.of_drewN hk) fun _ _ x => x
            clear hc hk
            generalize deedE s = E at *
            go_wp2
            go_ret
            exact RDeedP.of HE1.out.1 HE1.out.2 HC.out HK.out
    · have e : refE s b 0 = 2 := by unfold refE; rw [if_neg hdd, if_neg ht]
      have e0 : erasR s b = 2 := by unfold erasR; rw [e, if_pos (by decide)]
      have e1 : erasE s b = 2 := by unfold erasE; rw [e0, if_neg (by decide)]
      have e2 : erasS s b = s := by unfold erasS; rw [e0, if_neg (by decide)]
      rw [e1, e2]
      have HT := Lib.hid (decide_eq_false ht)
      clear h hstay hdd hdd' ht e e0 e1 e2 hd
      go_enter Try.func97, Try.ntmps97
      go_wp2_with fail
      refine (rThere_any _ _ _ _ _ _ _ _ _ _ _ _ H.out).mono ?_
      rintro e w' ⟨rfl, rfl⟩
      rw [HT.out]
      go_wp2
      go_ret
      exact HS.out _ (Kept.refl _ _) 2

theorem RRep.badRow {Q : Nat → Prop} {w : World} {g gc gb cc cb : Nat} {Ah : Option Addr} {ch : Nat} {s : CSt} (h : RRep Q w g gc gb cc cb Ah ch s) : RowV w (some ⟨gb, 0, none⟩) s.bad.length 1 (s.bad.map boolV) := by
  obtain ⟨j, hj⟩ := h.bads
  refine ⟨by simp, fun _ => ⟨gb, 0, rfl, fun i v hv => ?_⟩⟩
  have hi := (List.getElem?_eq_some_iff.1 hv).1
  rw [hj.cell, Nat.zero_add, List.getElem?_append_left hi, hv]

theorem ownG {w w7 : World} {t : TypeId} {sz n c : Nat} {A : Option Addr} {vs : List Value} (h : OwnV w7 t sz w.heap.size A (0 + n) c ([] ++ vs)) (hg : w.drew.grownBy w7 (Option.map (fun a : Addr => a.block) none)) : OwnV w7 t sz w.heap.size A n c vs ∧ New w.drew w7 := by
  rw [Nat.zero_add, List.nil_append] at h
  exact ⟨h, (Kept.refl _ _).grown hg (by simp)⟩

/-- The reference's chip alone comes back. -/
def RPowP (w : World) (s : CSt) (e : Ending) (w' : World) : Prop :=
  ∃ g Q, e = .returned (.pointer (some ⟨g, 0, none⟩)) ∧ RChip Q w' g s ∧ (∀ b, Q b → w.heap.size ≤ b) ∧ New w w'

theorem rpow_end {w w7 w8 : World} {s : CSt} {A5 A7 : Option Addr} {c5 c7 : Nat} {x : Nat} (ok : s.Ok) (B7 : Blk w7 w.heap.size 41 [.int .i64 (s.nb : Nat), .int .i64 (s.np : Nat), .int .i64 (s.nz : Nat), .int .i64 (s.ns : Nat), .slice A5 s.by_.length c5, .slice none 0 0, .slice none 0 0, .int .i64 0, .bool false, .int .i64 0])
    (N7 : New w w7) (_hx : w.heap.size ≤ x) (hA : OwnB w7 5 w.heap.size A5 c5 s.by_) (hB : OwnV w7 4 1 w.heap.size A7 s.bad.length c7 (s.bad.map boolV)) (hk : Kept (· = w.heap.size) w7 w8) (hw8 : w8 = w7.setCell ⟨w.heap.size, 5, none⟩ (.slice A7 s.bad.length c7)) :
    RPowP w (powS s) (.returned (.pointer (some ⟨w.heap.size, 0, none⟩))) w8 := by
  have hl1 : 0 < s.by_.length := by
    rw [ok.len]
    exact Nat.mul_pos (Nat.mul_pos (by have := ok.nb1; omega) (by have := ok.np1; omega)) (by have := ok.nz1; omega)
  have hl2 : 0 < s.bad.length := by rw [ok.badl]; have := ok.nb1; omega
  obtain ⟨gA, jA, rfl, sA, bA, cA⟩ := hA.blk hl1
  obtain ⟨gB, jB, rfl, sB, bB, cB⟩ := hB.blk hl2
  have hb := B7.put 5 (.slice (some ⟨gB, 0, none⟩) s.bad.length c7)
  rw [← hw8] at hb
  have bA8 := bA.kept hk (bA.ne_of B7 (by decide))
  have bB8 := bB.kept hk (bB.ne_of B7 (by decide))
  have hr : RRep (fun b => w.heap.size ≤ b ∧ b < w8.heap.size) w8 w.heap.size gA gB c5 c7 none 0 (powS s) := {
    low := fun b h => h.2, ok := powS_ok s ok, qg := ⟨Nat.le_refl _, hb.lt⟩, qc := ⟨sA, bA8.lt⟩, qb := ⟨sB, bB8.lt⟩
    chip := by simpa [rCells, powS] using hb
    cells := ⟨jA, bA8⟩, ccap := cA, bads := ⟨jB, bB8⟩, bcap := cB, hcap := ⟨Nat.le_refl _, by simp⟩, hits := HitsT.nil _ _ _ _ }
  exact ⟨w.heap.size, _, rfl, ⟨_, _, _, _, _, _, hr⟩, fun b h => h.1, N7.trans hk fun i hi e => by omega⟩

set_option maxRecDepth 100000 in
set_option maxHeartbeats 3200000 in
theorem rPower_any (Q : Nat → Prop) (g : Nat) (s : CSt) (w : World) (h : RChip Q w g s) :
    Calls Try.prog 99 #[.pointer (some ⟨g, 0, none⟩)] w (RPowP w (powS s)) := by
  obtain ⟨gc, gb, cc, cb, Ah, ch, h⟩ := h
  obtain ⟨i0, hi, hz0, hz1, hz2⟩ := info_parts info_u8
  obtain ⟨i1, hi1, hz10, hz11, hz12⟩ := info_parts info_bool
  have H := Lib.hid h
  have hlt := h.chip.lt
  have hsz := h.ok.size
  have hbl : s.bad.length ≤ 64 := by rw [h.ok.badl]; exact h.ok.nb2
  have c0 := h.c0
  have c1 := h.c1
  have c2 := h.c2
  have c3 := h.c3
  have HB1 : Hid (([] : List Nat).length + s.by_.length ≤ 140737488355328) := by show 0 + _ ≤ _; omega
  have hZs : Hid ((Value.bool false).cells.size = i1.size) := by show _ = _; rw [hz11]; rfl
  have hZ0 : Hid (0 < i1.size) := by show _ < _; rw [hz11]; omega
  have hZ1 : Hid ((0 + s.bad.length) * i1.bytes ≤ 140737488355328) := by show _ ≤ _; rw [hz12]; omega
  have hZ2 : Hid (0 + s.bad.length ≤ 140737488355328) := by show _ ≤ _; omega
  clear h
  obtain ⟨w1, hw1⟩ : ∃ w1, w1 = w.alloc (.cells #[.int .i64 (s.nb : Nat), .int .i64 (s.np : Nat), .int .i64 (s.nz : Nat), .int .i64 (s.ns : Nat), .slice none 0 0, .slice none 0 0, .slice none 0 0, .int .i64 0, .bool false, .int .i64 0] 41) := ⟨_, rfl⟩
  have HW1 := Lib.hid hw1
  have B1 : Hid (Blk w1 w.heap.size 41 [.int .i64 (s.nb : Nat), .int .i64 (s.np : Nat), .int .i64 (s.nz : Nat), .int .i64 (s.ns : Nat), .slice none 0 0, .slice none 0 0, .slice none 0 0, .int .i64 0, .bool false, .int .i64 0]) := by rw [hw1]; exact Blk.made w _ _
  have K1 : Hid (New w w1) := by rw [hw1]; exact (Kept.refl _ _).alloc _
  have R1 : Hid (RRep Q w1 g gc gb cc cb Ah ch s) := H.out.new K1.out
  clear hw1
  go_enter Try.func99, Try.ntmps99
  go_wp2_with fail
  rw [← HW1.out]
  have d4 := R1.out.c4
  have hlt1 := R1.out.chip.lt
  have n4 : w1.cell? ⟨w.heap.size, 4, none⟩ = some (.slice none 0 0) := B1.out.cell 4
  have nl := B1.out.lt
  have HR : Hid (Bts w1 (some ⟨gc, 0, none⟩) s.by_.length s.by_) := by simpa [Hid] using R1.out.cellBts 0 s.by_.length (by omega)
  have HN4 : Hid (∀ wx, New w1.drew wx → wx.cell? ⟨w.heap.size, 4, none⟩ = some (.slice none 0 0) ∧ wx.frozen? ⟨w.heap.size, 4, none⟩ = false) := fun wx hx => ⟨(B1.out.drew.new hx).cell 4, (B1.out.drew.new hx).free 4⟩
  clear c0 c1 c2 c3
  go_region_law (with_reducible refine step_append_bytesN (o := ⟨some 19, _, _, _, _, _⟩) rfl (.tmp 14) (.tmp 18) 30 rfl 5 i0 Try.underlying30 hi hz0 hz1 hz2 w1.heap.size none 0 0 [] ?_ (OwnB.nil _ _ _) rfl (some ⟨gc, 0, none⟩) s.by_.length cc s.by_ ?_ (HR.out.drew) HB1.out (Nat.le_refl _) ?_; (next => go_simp); (next => go_simp); intro A5 c5 w5 hown hg; have hk5 : New w1.drew w5 := (Kept.refl _ _).grown hg (by simp); have HO5 := Lib.hid hown; have HK5 := Lib.hid hk5; have m4 := (HN4.out _ hk5).1; have mf := (HN4.out _ hk5).2; clear hown hk5 hg)
  all_goals
    have B5 : Hid (Blk w5 w.heap.size 41 [.int .i64 (s.nb : Nat), .int .i64 (s.np : Nat), .int .i64 (s.nz : Nat), .int .i64 (s.ns : Nat), .slice none 0 0, .slice none 0 0, .slice none 0 0, .int .i64 0, .bool false, .int .i64 0]) := B1.out.drew.new HK5.out
    have N5 : Hid (New w w5) := (K1.out.drew).new HK5.out
    obtain ⟨w6, hw6⟩ : ∃ w6, w6 = w5.setCell ⟨w.heap.size, 4, none⟩ (.slice A5 s.by_.length c5) := ⟨_, rfl⟩
    have HW6 := Lib.hid hw6
    have KS6 : Hid (Kept (· = w.heap.size) w5 w6) := by rw [hw6]; exact Kept.set1 w5 _ _ _
    have B6 : Hid (Blk w6 w.heap.size 41 [.int .i64 (s.nb : Nat), .int .i64 (s.np : Nat), .int .i64 (s.nz : Nat), .int .i64 (s.ns : Nat), .slice A5 s.by_.length c5, .slice none 0 0, .slice none 0 0, .int .i64 0, .bool false, .int .i64 0]) := by
      rw [hw6]
      have := B5.out.put 4 (.slice A5 s.by_.length c5)
      simpa [Hid] using this
    have N6 : Hid (New w w6) := N5.out.trans KS6.out fun i hi e => by omega
    have O6 : Hid (OwnB w6 5 w1.heap.size A5 c5 s.by_) := by
      have h1 := HO5.out
      rw [List.nil_append] at h1
      exact h1.kept KS6.out fun a ha => (h1.at_ a ha).1.ne_of B5.out.at_ (by decide)
    have R6 : Hid (RRep Q w6 g gc gb cc cb Ah ch s) := H.out.new N6.out
    have HV6 : Hid (RowV w6 (some ⟨gb, 0, none⟩) s.bad.length 1 (s.bad.map boolV)) := R6.out.badRow
    have K1s : Hid (w.heap.size ≤ w1.heap.size) := K1.out.size
    clear m4 mf n4 d4 nl hlt1 HN4 HK5 HO5 B5 N5 KS6 hw6 HR R1 K1 B1
    go_wp2_with fail
    rw [← HW6.out]
    have d5 := R6.out.c5
    have hlt6 := R6.out.chip.lt
    have n5 : w6.cell? ⟨w.heap.size, 5, none⟩ = some (.slice none 0 0) := B6.out.cell 5
    have nl6 := B6.out.lt
    have HN5 : Hid (∀ wx, New w6.drew wx → wx.cell? ⟨w.heap.size, 5, none⟩ = some (.slice none 0 0) ∧ wx.frozen? ⟨w.heap.size, 5, none⟩ = false) := fun wx hx => ⟨(B6.out.drew.new hx).cell 5, (B6.out.drew.new hx).free 5⟩
    have hS1 : Hid (RowV w6.drew (some ⟨gb, 0, none⟩) s.bad.length i1.size (s.bad.map boolV)) := by rw [hz11]; exact HV6.out
    go_region_law (with_reducible refine step_append_rowV (o := ⟨some 31, _, _, _, _, _⟩) _ rfl (.tmp 26) (.tmp 30) 39 rfl 4 i1 (.bool false) Try.underlying39 hi1 hz10 hZs.out hZ0.out w6.heap.size none 0 0 [] ?_ (OwnV.nil _ _ _ _) (some ⟨gb, 0, none⟩) s.bad.length cb (s.bad.map boolV) ?_ hS1.out (bools_one _) hZ1.out hZ2.out (Nat.le_refl _) ?_; (next => go_simp); (next => go_simp); intro A7 c7 w7 hown hg _; have HOG := Lib.hid (ownG hown.out hg.out); have m5 := (HN5.out _ HOG.out.2).1; have mf5 := (HN5.out _ HOG.out.2).2; clear hown hg)
    all_goals
      have O7 := HOG.out.1
      rw [hz11] at O7
      have B7 : Blk w7 w.heap.size 41 [.int .i64 (s.nb : Nat), .int .i64 (s.np : Nat), .int .i64 (s.nz : Nat), .int .i64 (s.ns : Nat), .slice A5 s.by_.length c5, .slice none 0 0, .slice none 0 0, .int .i64 0, .bool false, .int .i64 0] := B6.out.drew.new HOG.out.2
      have N7 : New w w7 := (N6.out.drew).new HOG.out.2
      have OA7 : OwnB w7 5 w1.heap.size A5 c5 s.by_ := O6.out.new ((Kept.refl _ _).drew.new HOG.out.2)
      have hks : Kept (· = w.heap.size) w7 (w7.setCell ⟨w.heap.size, 5, none⟩ (.slice A7 s.bad.length c7)) := Kept.set1 w7 _ _ _
      have HR8 := Lib.hid (rpow_end (s := s) H.out.ok B7 N7 K1s.out (OA7.mono K1s.out) (O7.mono N6.out.size) hks rfl)
      clear O7 B7 N7 OA7 hks m5 mf5 n5 d5
      go_wp2
      go_ret
      exact HR8.out
end Go.Proofs.Ytfhngcnphcjmgaa
