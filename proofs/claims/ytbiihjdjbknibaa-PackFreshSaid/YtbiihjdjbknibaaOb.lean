/-
  Contracts: the reference's change of a list of facts.
-/
import Derived.Test.YtbiihjdjbknibaaOa
import Derived.Deep.CutBlock
import Derived.Deep.DeepCutAuto
namespace Go.Proofs.Ytbiihjdjbknibaa
set_option maxRecDepth 100000
open Go.ChangeShapes Go.WideShapes Go.ChangeAt Go.RowKit

/-- Facts come back, as a list that may share its values. -/
def OneP (w : World) (l : List FT) (e : Ending) (w' : World) : Prop := ∃ A c es, e = .returned (.slice A es.length c) ∧ FIn w' A es.length es ∧ fts es = l ∧ New w w' ∧ es.length ≤ c ∧ c ≤ maxLen

set_option maxRecDepth 100000 in
set_option maxHeartbeats 6400000 in
theorem rone_any (A : Option Addr) (n c : Nat) (es : List FE) (x : CE) (w : World) (h : FIn w A n es) (ho : ordF (fts es) = true) (hx : COk w x) (hk : ∀ e ∈ es, e.f.k.n.size ≤ maxLen) (hb : (n + 1) * 64 ≤ 140737488355328) :
    Calls Try.prog 42 #[.slice A n c, .agg #[.int .i64 x.f.k.i, .int .u8 (x.f.k.t : Nat), .string x.f.k.n, .int .i64 x.f.k.c, .slice x.A x.f.v.length x.c, .bool x.f.g]] w (OneP w (updF (fts es) x.f)) := by
  obtain ⟨i0, hi, hz0, hz1, hz2⟩ := info_parts info_u8
  have HN : Hid ((fts es).length = n) := by rw [Hid, fts_lenE, h.len]
  have HO := Lib.hid ho
  have HKN := Lib.hid hk
  have HXO := Lib.hid hx.2
  obtain ⟨w1, hw1⟩ : ∃ w1, w1 = w.alloc (.cells #[.int .i64 x.f.k.i, .int .u8 (x.f.k.t : Nat), .string x.f.k.n, .int .i64 x.f.k.c, .slice x.A x.f.v.length x.c, .bool x.f.g] 78) := ⟨_, rfl⟩
  have n1 : New w w1 := by rw [hw1]; exact (Kept.refl _ _).alloc _
  have BX : Hid (∀ u, New w1 u → Blk u w.heap.size 78 [.int .i64 x.f.k.i, .int .u8 (x.f.k.t : Nat), .string x.f.k.n, .int .i64 x.f.k.c, .slice x.A x.f.v.length x.c, .bool x.f.g]) := fun u hu => by rw [hw1] at hu; exact (Blk.made w _ _).kept hu id
  have XC : Hid (∀ u, New w1 u → u.cell? ⟨w.heap.size, 0, none⟩ = some (.int .i64 x.f.k.i) ∧ u.cell? ⟨w.heap.size, 1, none⟩ = some (.int .u8 (x.f.k.t : Nat)) ∧ u.cell? ⟨w.heap.size, 2, none⟩ = some (.string x.f.k.n) ∧ u.cell? ⟨w.heap.size, 3, none⟩ = some (.int .i64 x.f.k.c) ∧ u.cell? ⟨w.heap.size, 4, none⟩ = some (.slice x.A x.f.v.length x.c) ∧ u.cell? ⟨w.heap.size, 5, none⟩ = some (.bool x.f.g)) := fun u hu =>
    ⟨(BX.out u hu).cell 0, (BX.out u hu).cell 1, (BX.out u hu).cell 2, (BX.out u hu).cell 3, (BX.out u hu).cell 4, (BX.out u hu).cell 5⟩
  have H := Lib.hid (h.new n1)
  have HB := Lib.hid (hx.1.new n1)
  have N1 := Lib.hid n1
  have HW := Lib.hid hw1
  have hz : w.heap.size ≤ w1.heap.size := n1.size
  have ST := Lib.hid (OneI.start (fts es) x.f)
  clear h ho hx hk n1 hw1 BX
  obtain ⟨⟨kx, vx, gx⟩, Ax, cx⟩ := x
  dsimp only at *
  have hvx : vx.length ≤ 140737488351232 := HXO.out.2.1
  go_enter Try.func42, Try.ntmps42
  go_wp2_with (at_builtin; rw [← HW.out]; refine wpList_append_bytes _ rfl _ _ _ rfl 5 i0 Try.underlying25 hi hz0 hz1 hz2 w1.heap.size none 0 0 [] rfl (OwnB.nil _ _ _) rfl Ax vx.length cx vx rfl HB.out (by simp; omega) (Nat.le_refl _) ?_)
  intro A7 c7 w2 hown hg _
  have N2 : Hid (New w1 w2) := (Kept.refl _ _).grown hg (by simp)
  have OV : OwnB w2 5 w1.heap.size A7 c7 vx := by simpa using hown
  have NW2 := Lib.hid (N1.out.new N2.out)
  have H2 := Lib.hid (H.out.new N2.out)
  clear hown hg HW N1 H HB hi hz0 hz1 hz2
  have hz2 : w.heap.size ≤ w2.heap.size := NW2.out.size
  have OVB : Hid (OwnB w2 5 w.heap.size A7 c7 vx) := OV.mono hz
  clear OV hz
  go_wp2_with fail
  go_loopw [5, 6, 8] (fun tout td ti wr => ∃ (i : Nat) (Ao : Option Addr) (no co : Nat) (os : List FE) (d : Bool), i ≤ n ∧ no ≤ i + 1 ∧ ti = .int .i64 i ∧ tout = .slice Ao no co ∧ td = .bool d ∧ Hid (os.length = no) ∧ Hid (Mix wr w2.heap.size Ao co os) ∧ Hid (OneI (fts es) ⟨kx, vx, gx⟩ i (fts os) d) ∧ Hid (New w2 wr)) (fun _ _ i _ => n - (intOf i).toNat)
  case atStart => exact ⟨0, none, 0, 0, [], gx, Nat.zero_le _, by omega, rfl, rfl, rfl, rfl, Mix.nil _ _, ST, Kept.refl _ _⟩
  case round =>
    obtain ⟨i, Ao, no, co, os, d, hin, hno, rfl, rfl, rfl, VL, VM, VI, VN⟩ := hrel
    have HBX : Hid (New w1 wr) := N2.out.new VN.out
    have HOWN : Hid (∀ (w7 : World) (A2 : Option Addr) (c2 n2 : Nat) (vs : List Value), New w2 w7 → OwnV w7 27 5 w2.heap.size A2 n2 c2 vs → ∀ u, Kept (InRow A2) w7 u → EOk u ⟨⟨kx, vx⟩, A7, c7⟩) := fun w7 A2 c2 n2 vs h7 hv u hu =>
      own_beside (x := ⟨kx, vx⟩) (OVB.out.new h7) hv ⟨HXO.out.2.1, HXO.out.2.2⟩ hu
    have HMV : Hid (OwnV wr 27 5 w2.heap.size Ao no co (fes os)) := by
      have := VM.out.1
      rw [VL.out] at this
      exact this
    have hsz : w2.heap.size ≤ wr.heap.size := VN.out.size
    by_cases hlt : i < n
    · obtain ⟨g, o, y, eA, hy, hok, y0, y1, y2, y3, y4⟩ := (H2.out.new VN.out).at_ (i := i) hlt
      subst eA
      have HFY : Hid ((fts es)[i]? = some y.f) := by show _ = _; unfold fts; rw [List.getElem?_map, hy]; rfl
      have HYM : Hid (∀ u, New w2 u → EOk u y) := fun u hu => (H2.out.new hu).2 y (List.mem_of_getElem? hy)
      have HYC : Hid (∀ u, New w2 u → u.cell? ⟨g, o + i * 5, none⟩ = some (.int .i64 y.f.k.i) ∧ u.cell? ⟨g, o + i * 5 + 1, none⟩ = some (.int .u8 (y.f.k.t : Nat)) ∧ u.cell? ⟨g, o + i * 5 + 2, none⟩ = some (.string y.f.k.n) ∧ u.cell? ⟨g, o + i * 5 + 3, none⟩ = some (.int .i64 y.f.k.c) ∧ u.cell? ⟨g, o + i * 5 + 4, none⟩ = some (.slice y.A y.f.v.length y.c)) := fun u hu => by
        obtain ⟨g', o', y', eA', hy', _, z0, z1, z2, z3, z4⟩ := (H2.out.new hu).at_ (i := i) hlt
        injection eA' with eA'
        injection eA' with e1 e2
        subst e1 e2
        rw [hy] at hy'
        injection hy' with hy'
        subst hy'
        exact ⟨z0, z1, z2, z3, z4⟩
      have HKY : Hid (y.f.k.n.size ≤ maxLen) := HKN.out y (List.mem_of_getElem? hy)
      have ONE1 : Hid (∀ u ∈ [Value.int .i64 kx.i, .int .u8 (kx.t : Nat), .string kx.n, .int .i64 kx.c, .slice A7 vx.length c7], u.oneCell') := by intro u hu; simp at hu; rcases hu with rfl | rfl | rfl | rfl | rfl <;> rfl
      have ONE2 : Hid (∀ u ∈ [Value.int .i64 y.f.k.i, .int .u8 (y.f.k.t : Nat), .string y.f.k.n, .int .i64 y.f.k.c, .slice y.A y.f.v.length y.c], u.oneCell') := by intro u hu; simp at hu; rcases hu with rfl | rfl | rfl | rfl | rfl <;> rfl
      clear hy hok y0 y1 y2 y3 y4
      obtain ⟨y0, y1, y2, y3, y4⟩ := HYC.out wr VN.out
      obtain ⟨x0, x1, x2, x3, x4, x5⟩ := XC.out wr HBX.out
      have s1 : (0 : Int) ≤ (i : Int) := by omega
      have s3 : (i : Int) < (n : Int) := by omega
      have p0 := fun d os => cell_regrown y0 d os
      have p1 := fun d os => cell_regrown y1 d os
      have p2 := fun d os => cell_regrown y2 d os
      have p3 := fun d os => cell_regrown y3 d os
      have r0 := fun d os => cell_regrown x0 d os
      have r1 := fun d os => cell_regrown x1 d os
      have r2 := fun d os => cell_regrown x2 d os
      have r3 := fun d os => cell_regrown x3 d os
      clear y0 y1 y2 y3 y4 x0 x1 x2 x3 x4 x5
      by_cases he : y.f.k = kx
      · have HEQ : ∀ u, Sem.run Try.prog (binOp .eql 24 (.agg #[.int .i64 y.f.k.i, .int .u8 (y.f.k.t : Nat), .string y.f.k.n, .int .i64 y.f.k.c]) (.agg #[.int .i64 kx.i, .int .u8 (kx.t : Nat), .string kx.n, .int .i64 kx.c])) u = .ok (.bool true) u := fun u => by rw [key_eql, decide_eq_true he]
        have HE := Lib.hid he
        clear he
        go_wp2_with fail
        refine wp_region_quiet_below (by kernel_rfl) (by kernel_rfl) ?_
        repeat (quiet_step (fail))
        refine wpQuiet_nil ?_
        intro _ hw'
        obtain ⟨⟨dq, osq⟩, hw''⟩ := hw'
        subst hw''
        have K_w9 : Hid (New wr (Go.Sort.grow (redrawn wr dq) osq)) := new_regrown (Kept.refl _ _) dq osq
        generalize Go.Sort.grow (redrawn wr dq) osq = w9 at *
        clear p0 p1 p2 p3 r0 r1 r2 r3 HEQ
        have M9 := Lib.hid (VM.out.new K_w9.out)
        have V9 := Lib.hid (HMV.out.new K_w9.out)
        have N9 := Lib.hid (VN.out.new K_w9.out)
        have hb9 : w2.heap.size ≤ w9.heap.size := N9.out.size
        clear VM VN HMV
        cases d with
        | true =>
          have VI2 := Lib.hid (VI.out.eq1 HFY.out HE.out)
          clear VI V9
          go_wp2
          go_roundw
          case rel => exact ⟨i + 1, Ao, no, co, os, true, by omega, by omega, by go_num, by first | rfl | go_num, rfl, VL, M9, VI2, N9⟩
          case measure => simp [intOf]; omega
        | false =>
          have hni : no ≤ i := by have := VI.out.len0; rw [fts_lenE, VL.out] at this; exact this
          have hbtB : (no + 1) * 64 ≤ 140737488355328 := by omega
          have hbB := hb9
          have VI2 := Lib.hid (VI.out.eq0 HFY.out HE.out)
          clear VI
          obtain ⟨x0, x1, x2, x3, x4, x5⟩ := XC.out w9 (N2.out.new N9.out)
          go_wp2_with (at_builtin; refine wpList_append_fact (wb := w9) rfl (.tmp 31) (.tmp 36) rfl w2.heap.size Ao no co (fes os) rfl V9.out ((Kept.refl _ _).alloc _) w9.heap.size 1 [.int .i64 kx.i, .int .u8 (kx.t : Nat), .string kx.n, .int .i64 kx.c, .slice A7 vx.length c7] rfl (Blk.made _ _ _) rfl ONE1.out hbtB hbB ?_)
          intro AB cB w7 O7 K7 D7
          have NB := Lib.hid (new_row N9.out V9.out K7.out)
          have MB := Lib.hid (M9.out.more (e := (⟨⟨kx, vx⟩, A7, c7⟩ : FE)) VL.out O7.out K7.out D7.out (HOWN.out w7 AB cB _ _ NB.out O7.out))
          have VB : Hid (OwnV w7 27 5 w2.heap.size AB (no + 1) cB (fes (os ++ [(⟨⟨kx, vx⟩, A7, c7⟩ : FE)]))) := by
            have := MB.out.1
            rw [List.length_append, VL.out] at this
            exact this
          clear O7 K7 D7 x0 x1 x2 x3 x4 x5
          have L7 : Hid ((os ++ [(⟨⟨kx, vx⟩, A7, c7⟩ : FE)]).length = no + 1) := by rw [Hid, List.length_append, VL.out]; rfl
          have I7 : Hid (OneI (fts es) ⟨kx, vx, gx⟩ (i + 1) (fts (os ++ [(⟨⟨kx, vx⟩, A7, c7⟩ : FE)])) true) := by rw [Hid, fts_append]; exact VI2.out
          clear M9 V9 N9 VI2 K_w9
          go_wp2
          go_roundw
          case rel => exact ⟨i + 1, AB, no + 1, cB, _, true, by omega, by omega, by go_num, by first | rfl | go_num, rfl, L7, MB, I7, NB⟩
          case measure => simp [intOf]; omega
      · have HEQ : ∀ u, Sem.run Try.prog (binOp .eql 24 (.agg #[.int .i64 y.f.k.i, .int .u8 (y.f.k.t : Nat), .string y.f.k.n, .int .i64 y.f.k.c]) (.agg #[.int .i64 kx.i, .int .u8 (kx.t : Nat), .string kx.n, .int .i64 kx.c])) u = .ok (.bool false) u := fun u => by rw [key_eql, decide_eq_false he]
        have HE := Lib.hid he
        clear he
        go_wp2_with fail
        refine wp_region_quiet_below (by kernel_rfl) (by kernel_rfl) ?_
        repeat (quiet_step (fail))
        refine wpQuiet_nil ?_
        intro _ hw'
        obtain ⟨⟨dq, osq⟩, hw''⟩ := hw'
        subst hw''
        have K_w9 : Hid (New wr (Go.Sort.grow (redrawn wr dq) osq)) := new_regrown (Kept.refl _ _) dq osq
        generalize Go.Sort.grow (redrawn wr dq) osq = w9 at *
        clear p0 p1 p2 p3 r0 r1 r2 r3 HEQ
        have M9 := Lib.hid (VM.out.new K_w9.out)
        have V9 := Lib.hid (HMV.out.new K_w9.out)
        have N9 := Lib.hid (VN.out.new K_w9.out)
        clear VM VN HMV
        cases d with
        | true =>
          have hbtC : (no + 1) * 64 ≤ 140737488355328 := Nat.le_trans (Nat.mul_le_mul_right 64 (by omega : no + 1 ≤ n + 1)) hb
          have VI2 := Lib.hid (VI.out.on1 HO.out HFY.out HE.out)
          clear VI
          go_wp2_with fail
          go_quiet (fail)
          have K_w10 : Hid (New w9 (w9.drewN nq)) := (Kept.refl _ _).drewN nq
          generalize w9.drewN nq = w10 at *
          have MA := Lib.hid (M9.out.new K_w10.out)
          have VA := Lib.hid (V9.out.new K_w10.out)
          have NA := Lib.hid (N9.out.new K_w10.out)
          have hbC : w2.heap.size ≤ w10.heap.size := NA.out.size
          clear M9 V9 N9 K_w9 K_w10
          obtain ⟨x0, x1, x2, x3, x4⟩ := HYC.out w10 NA.out
          have x5 := True.intro
          go_wp2_with (at_builtin; refine wpList_append_fact (wb := w10) rfl (.tmp 57) (.tmp 62) rfl w2.heap.size Ao no co (fes os) rfl VA.out ((Kept.refl _ _).alloc _) w10.heap.size 1 [.int .i64 y.f.k.i, .int .u8 (y.f.k.t : Nat), .string y.f.k.n, .int .i64 y.f.k.c, .slice y.A y.f.v.length y.c] rfl (Blk.made _ _ _) rfl ONE2.out hbtC hbC ?_)
          intro AC cC w7 O7 K7 D7
          have NC := Lib.hid (new_row NA.out VA.out K7.out)
          have MC := Lib.hid (MA.out.more (e := y) VL.out O7.out K7.out D7.out (fun u hu => HYM.out u (new_row NC.out O7.out hu)))
          have VC : Hid (OwnV w7 27 5 w2.heap.size AC (no + 1) cC (fes (os ++ [y]))) := by
            have := MC.out.1
            rw [List.length_append, VL.out] at this
            exact this
          clear O7 K7 D7 x0 x1 x2 x3 x4 x5
          have L7 : Hid ((os ++ [y]).length = no + 1) := by rw [Hid, List.length_append, VL.out]; rfl
          have I7 : Hid (OneI (fts es) ⟨kx, vx, gx⟩ (i + 1) (fts (os ++ [y])) true) := by rw [Hid, fts_append]; exact VI2.out
          clear MA VA NA VI2
          go_wp2
          go_roundw
          case rel => exact ⟨i + 1, AC, no + 1, cC, _, true, by omega, by omega, by go_num, by first | rfl | go_num, rfl, L7, MC, I7, NC⟩
          case measure => simp [intOf]; omega
        | false =>
          have hni : no ≤ i := by have := VI.out.len0; rw [fts_lenE, VL.out] at this; exact this
          have hbtB : (no + 1) * 64 ≤ 140737488355328 := by omega
          have cB := Lib.hid (fun (d : Nat) (os : Array Obj) => Calls.regrown_of (d := d) (os := os) ((rbefore_any kx y.f.k (Go.Sort.grow (redrawn w9 d) os) HXO.out.2.2 HKY.out).mono fun e w' hh => ⟨hh.1, hh.2.below⟩))
          obtain ⟨x0, x1, x2, x3, _, _⟩ := XC.out w9 (N2.out.new N9.out)
          obtain ⟨y0, y1, y2, y3, _⟩ := HYC.out w9 N9.out
          have p0 := fun d os => cell_regrown y0 d os
          have p1 := fun d os => cell_regrown y1 d os
          have p2 := fun d os => cell_regrown y2 d os
          have p3 := fun d os => cell_regrown y3 d os
          have r0 := fun d os => cell_regrown x0 d os
          have r1 := fun d os => cell_regrown x1 d os
          have r2 := fun d os => cell_regrown x2 d os
          have r3 := fun d os => cell_regrown x3 d os
          clear x0 x1 x2 x3 y0 y1 y2 y3
          obtain ⟨bb, hbb⟩ : ∃ b, befK kx y.f.k = b := ⟨_, rfl⟩
          rw [hbb] at cB
          have HBB := Lib.hid hbb
          clear hbb
          cases bb with
          | true =>
            have hbtC : (no + 1 + 1) * 64 ≤ 140737488355328 := Nat.le_trans (Nat.mul_le_mul_right 64 (by omega : no + 1 + 1 ≤ n + 1)) hb
            have VI2 := Lib.hid (VI.out.put HFY.out HBB.out)
            clear VI
            go_wp2_with fail
            refine wp_region_quiet_below (by kernel_rfl) (by kernel_rfl) ?_
            repeat (quiet_step (first | (go_at_call 58; exact cB.out _ _)))
            refine wpQuiet_nil ?_
            intro _ hw'
            obtain ⟨⟨dq, osq⟩, hw''⟩ := hw'
            subst hw''
            have K_w10 : Hid (New w9 (Go.Sort.grow (redrawn w9 dq) osq)) := new_regrown (Kept.refl _ _) dq osq
            generalize Go.Sort.grow (redrawn w9 dq) osq = w10 at *
            clear cB p0 p1 p2 p3 r0 r1 r2 r3
            have MA := Lib.hid (M9.out.new K_w10.out)
            have VA := Lib.hid (V9.out.new K_w10.out)
            have NA := Lib.hid (N9.out.new K_w10.out)
            have hbB : w2.heap.size ≤ w10.heap.size := NA.out.size
            clear M9 V9 N9 K_w9 K_w10
            obtain ⟨x0, x1, x2, x3, x4, x5⟩ := XC.out w10 (N2.out.new NA.out)
            go_wp2_with (at_builtin; refine wpList_append_fact (wb := w10) rfl (.tmp 50) (.tmp 55) rfl w2.heap.size Ao no co (fes os) rfl VA.out ((Kept.refl _ _).alloc _) w10.heap.size 1 [.int .i64 kx.i, .int .u8 (kx.t : Nat), .string kx.n, .int .i64 kx.c, .slice A7 vx.length c7] rfl (Blk.made _ _ _) rfl ONE1.out hbtB hbB ?_)
            intro AB cB w7 O7 K7 D7
            have NB := Lib.hid (new_row NA.out VA.out K7.out)
            have MB := Lib.hid (MA.out.more (e := (⟨⟨kx, vx⟩, A7, c7⟩ : FE)) VL.out O7.out K7.out D7.out (HOWN.out w7 AB cB _ _ NB.out O7.out))
            have VB : Hid (OwnV w7 27 5 w2.heap.size AB (no + 1) cB (fes (os ++ [(⟨⟨kx, vx⟩, A7, c7⟩ : FE)]))) := by
              have := MB.out.1
              rw [List.length_append, VL.out] at this
              exact this
            clear O7 K7 D7 x0 x1 x2 x3 x4 x5
            have L7 : Hid ((os ++ [(⟨⟨kx, vx⟩, A7, c7⟩ : FE)]).length = no + 1) := by rw [Hid, List.length_append, VL.out]; rfl
            have hbC : w2.heap.size ≤ w7.heap.size := NB.out.size
            clear MA VA NA
            obtain ⟨x0, x1, x2, x3, x4⟩ := HYC.out w7 NB.out
            have x5 := True.intro
            go_wp2_with (at_builtin; refine wpList_append_fact (wb := w7) rfl (.tmp 57) (.tmp 62) rfl w2.heap.size AB (no + 1) cB (fes (os ++ [(⟨⟨kx, vx⟩, A7, c7⟩ : FE)])) rfl VB.out ((Kept.refl _ _).alloc _) w7.heap.size 1 [.int .i64 y.f.k.i, .int .u8 (y.f.k.t : Nat), .string y.f.k.n, .int .i64 y.f.k.c, .slice y.A y.f.v.length y.c] rfl (Blk.made _ _ _) rfl ONE2.out hbtC hbC ?_)
            intro AC cC w8 O7 K7 D7
            have NC := Lib.hid (new_row NB.out VB.out K7.out)
            have MC := Lib.hid (MB.out.more (e := y) L7.out O7.out K7.out D7.out (fun u hu => HYM.out u (new_row NC.out O7.out hu)))
            have VC : Hid (OwnV w8 27 5 w2.heap.size AC ((no + 1) + 1) cC (fes ((os ++ [(⟨⟨kx, vx⟩, A7, c7⟩ : FE)]) ++ [y]))) := by
              have := MC.out.1
              rw [List.length_append, L7.out] at this
              exact this
            clear O7 K7 D7 x0 x1 x2 x3 x4 x5
            have L8 : Hid (((os ++ [(⟨⟨kx, vx⟩, A7, c7⟩ : FE)]) ++ [y]).length = no + 1 + 1) := by rw [Hid, List.length_append, L7.out]; rfl
            have I7 : Hid (OneI (fts es) ⟨kx, vx, gx⟩ (i + 1) (fts ((os ++ [(⟨⟨kx, vx⟩, A7, c7⟩ : FE)]) ++ [y])) true) := by rw [Hid, fts_append, fts_append]; exact VI2.out
            clear MB VB NB VI2
            go_wp2
            go_roundw
            case rel => exact ⟨i + 1, AC, no + 1 + 1, cC, _, true, by omega, by omega, by go_num, by first | rfl | go_num, rfl, L8, MC, I7, NC⟩
            case measure => simp [intOf]; omega
          | false =>
            have VI2 := Lib.hid (VI.out.on0 HFY.out HBB.out HE.out)
            have hbtC := hbtB
            clear VI
            go_wp2_with fail
            refine wp_region_quiet_below (by kernel_rfl) (by kernel_rfl) ?_
            repeat (quiet_step (first | (go_at_call 58; exact cB.out _ _)))
            refine wpQuiet_nil ?_
            intro _ hw'
            obtain ⟨⟨dq, osq⟩, hw''⟩ := hw'
            subst hw''
            have K_w10 : Hid (New w9 (Go.Sort.grow (redrawn w9 dq) osq)) := new_regrown (Kept.refl _ _) dq osq
            generalize Go.Sort.grow (redrawn w9 dq) osq = w10 at *
            clear cB p0 p1 p2 p3 r0 r1 r2 r3
            have MA := Lib.hid (M9.out.new K_w10.out)
            have VA := Lib.hid (V9.out.new K_w10.out)
            have NA := Lib.hid (N9.out.new K_w10.out)
            have hbC : w2.heap.size ≤ w10.heap.size := NA.out.size
            clear M9 V9 N9 K_w9 K_w10
            obtain ⟨x0, x1, x2, x3, x4⟩ := HYC.out w10 NA.out
            have x5 := True.intro
            go_wp2_with (at_builtin; refine wpList_append_fact (wb := w10) rfl (.tmp 57) (.tmp 62) rfl w2.heap.size Ao no co (fes os) rfl VA.out ((Kept.refl _ _).alloc _) w10.heap.size 1 [.int .i64 y.f.k.i, .int .u8 (y.f.k.t : Nat), .string y.f.k.n, .int .i64 y.f.k.c, .slice y.A y.f.v.length y.c] rfl (Blk.made _ _ _) rfl ONE2.out hbtC hbC ?_)
            intro AC cC w7 O7 K7 D7
            have NC := Lib.hid (new_row NA.out VA.out K7.out)
            have MC := Lib.hid (MA.out.more (e := y) VL.out O7.out K7.out D7.out (fun u hu => HYM.out u (new_row NC.out O7.out hu)))
            have VC : Hid (OwnV w7 27 5 w2.heap.size AC (no + 1) cC (fes (os ++ [y]))) := by
              have := MC.out.1
              rw [List.length_append, VL.out] at this
              exact this
            clear O7 K7 D7 x0 x1 x2 x3 x4 x5
            have L7 : Hid ((os ++ [y]).length = no + 1) := by rw [Hid, List.length_append, VL.out]; rfl
            have I7 : Hid (OneI (fts es) ⟨kx, vx, gx⟩ (i + 1) (fts (os ++ [y])) false) := by rw [Hid, fts_append]; exact VI2.out
            clear MA VA NA VI2
            go_wp2
            go_roundw
            case rel => exact ⟨i + 1, AC, no + 1, cC, _, false, by omega, by omega, by go_num, by first | rfl | go_num, rfl, L7, MC, I7, NC⟩
            case measure => simp [intOf]; omega
    · have hin2 : i = n := by omega
      subst hin2
      have hlen : (fts es).length = i := HN.out
      have VI3 : OneI (fts es) ⟨kx, vx, gx⟩ (fts es).length (fts os) d := by rw [hlen]; exact VI.out
      clear hlen
      cases d with
      | true =>
        have E9 : Hid (OneP w (updF (fts es) ⟨kx, vx, gx⟩) (.returned (.slice Ao no co)) wr) := by
          have h9 := VM.out.1
          exact ⟨Ao, co, os, by rw [VL.out], VM.out.in_, VI3.fin1, NW2.out.new VN.out, h9.2.1, h9.2.2.1⟩
        clear VI VI3 VM VN HMV
        go_wp2
        go_ret
        exact E9.out
      | false =>
        have hni : no ≤ i := by have := VI.out.len0; rw [fts_lenE, VL.out] at this; exact this
        have hbtB : (no + 1) * 64 ≤ 140737488355328 := by omega
        have VI2 := Lib.hid VI3.fin0
        have hbB : w2.heap.size ≤ wr.heap.size := VN.out.size
        have ONE1 : Hid (∀ u ∈ [Value.int .i64 kx.i, .int .u8 (kx.t : Nat), .string kx.n, .int .i64 kx.c, .slice A7 vx.length c7], u.oneCell') := by intro u hu; simp at hu; rcases hu with rfl | rfl | rfl | rfl | rfl <;> rfl
        clear VI VI3
        obtain ⟨x0, x1, x2, x3, x4, x5⟩ := XC.out wr (N2.out.new VN.out)
        go_wp2_with (at_builtin; refine wpList_append_fact (wb := wr) rfl (.tmp 66) (.tmp 71) rfl w2.heap.size Ao no co (fes os) rfl HMV.out ((Kept.refl _ _).alloc _) wr.heap.size 1 [.int .i64 kx.i, .int .u8 (kx.t : Nat), .string kx.n, .int .i64 kx.c, .slice A7 vx.length c7] rfl (Blk.made _ _ _) rfl ONE1.out hbtB hbB ?_)
        intro AB cB w7 O7 K7 D7
        have NB := Lib.hid (new_row VN.out HMV.out K7.out)
        have MB := Lib.hid (VM.out.more (e := (⟨⟨kx, vx⟩, A7, c7⟩ : FE)) VL.out O7.out K7.out D7.out (HOWN.out w7 AB cB _ _ NB.out O7.out))
        have VB : Hid (OwnV w7 27 5 w2.heap.size AB (no + 1) cB (fes (os ++ [(⟨⟨kx, vx⟩, A7, c7⟩ : FE)]))) := by
          have := MB.out.1
          rw [List.length_append, VL.out] at this
          exact this
        clear O7 K7 D7 x0 x1 x2 x3 x4 x5
        have E9 : Hid (OneP w (updF (fts es) ⟨kx, vx, gx⟩) (.returned (.slice AB (no + 1) cB)) w7) := by
          have h9 := MB.out.1
          refine ⟨AB, cB, os ++ [(⟨⟨kx, vx⟩, A7, c7⟩ : FE)], by rw [List.length_append, VL.out]; rfl, MB.out.in_, ?_, NW2.out.new NB.out, h9.2.1, h9.2.2.1⟩
          rw [fts_append]
          exact VI2.out
        clear VI2 VM VN HMV MB NB VB
        go_wp2
        go_ret
        exact E9.out
end Go.Proofs.Ytbiihjdjbknibaa
