/-
  Contracts: the reference's finding; the comparison of lists of facts.
-/
import Derived.Test.YtgdhbnhdmhogkaaOc
namespace Go.Proofs.Ytgdhbnhdmhogkaa
open Go.ChangeShapes Go.WideShapes Go.ChangeAt Go.RowKit

theorem findF_take {l : List FT} {k : KY} {i : Nat} {x : FT} (h : findF l k = findF (l.drop i) k) (hx : l[i]? = some x) : (x.k = k → findF l k = some x.v) ∧ (¬ x.k = k → findF l k = findF (l.drop (i + 1)) k) := by
  obtain ⟨h1, e1⟩ := List.getElem?_eq_some_iff.1 hx
  have hd : l.drop i = x :: l.drop (i + 1) := by rw [List.drop_eq_getElem_cons h1, e1]
  rw [hd] at h
  exact ⟨fun e => by rw [h]; exact if_pos e, fun e => by rw [h]; exact if_neg e⟩

set_option maxRecDepth 100000 in
set_option maxHeartbeats 3200000 in
theorem rfind_any (A : Option Addr) (n c : Nat) (es : List FE) (k : KY) (w : World) (h : FIn w A n es) (hn : n ≤ maxLen) :
    Calls Try.prog 8 #[.slice A n c, .agg #[.int .i64 k.i, .int .u8 (k.t : Nat), .string k.n, .int .i64 k.c]] w (FndP w (fts es) k) := by
  obtain ⟨i0, hi, hz0, hz1, hz2⟩ := info_parts info_u8
  have NONE : Hid (∀ w', findR (fts es) k = none → New w w' → FndP w (fts es) k (.returned (.tuple #[.slice none 0 0, .bool false])) w') := fun w' hz hk => by
    unfold FndP
    rw [hz]
    exact ⟨none, 0, rfl, OwnB.nil _ _ _, hk⟩
  have SOME : Hid (∀ w' A4 c4 v, findR (fts es) k = some v → OwnB w' 5 w.heap.size A4 c4 v → New w w' → FndP w (fts es) k (.returned (.tuple #[.slice A4 v.length c4, .bool true])) w') := fun w' A4 c4 v hz ho hk => by
    unfold FndP
    rw [hz]
    exact ⟨A4, c4, rfl, ho, hk⟩
  obtain ⟨w1, hw1⟩ : ∃ w1, w1 = w.alloc (.cells #[.int .i64 k.i, .int .u8 (k.t : Nat), .string k.n, .int .i64 k.c] 25) := ⟨_, rfl⟩
  have n1 : New w w1 := by rw [hw1]; exact (Kept.refl _ _).alloc _
  have BK : Hid (∀ u, New w1 u → Blk u w.heap.size 25 [.int .i64 k.i, .int .u8 (k.t : Nat), .string k.n, .int .i64 k.c]) := fun u hu => by rw [hw1] at hu; exact (Blk.made w _ _).kept hu id
  have H := Lib.hid (h.new n1)
  have N1 := Lib.hid n1
  have HW := Lib.hid hw1
  have HN := Lib.hid hn
  have HL : Hid ((fts es).length = n) := by rw [Hid, fts_lenE, h.len]
  unfold maxLen at hn
  clear h n1 hw1
  have CO : Hid (∀ u, New w1 u → Calls Try.prog 21 #[.slice A n c] u (NewBool u (ordF (fts es)))) := fun u hu => rordered_any A n c es u (H.out.new hu) HN.out
  cases ho : ordF (fts es) with
  | false =>
    have HZ := Lib.hid (fun w' => NONE.out w' (by unfold findR; rw [ho]; rfl))
    rw [ho] at CO
    clear ho NONE SOME hi hz0 hz1 hz2
    go_enter Try.func8, Try.ntmps8
    go_wp2_with fail
    rw [← HW.out]
    refine (CO.out _ (Kept.refl _ _)).mono ?_
    rintro e w2 ⟨rfl, k2⟩
    have E9 := Lib.hid (HZ.out w2 (N1.out.new k2))
    clear k2
    go_wp2
    go_ret2
    exact E9.out
  | true =>
    rw [ho] at CO
    have HR : Hid (findR (fts es) k = findF (fts es) k) := by show _ = _; unfold findR; rw [if_pos ho]
    clear ho
    go_enter Try.func8, Try.ntmps8
    go_wp2_with fail
    rw [← HW.out]
    clear HW
    refine (CO.out _ (Kept.refl _ _)).mono ?_
    rintro e w2 ⟨rfl, k2⟩
    have K2 := Lib.hid k2
    clear k2 CO
    go_wp2_with fail
    go_loopw [6] (fun ti wr => ∃ i : Nat, i ≤ n ∧ ti = .int .i64 i ∧ Hid (findF (fts es) k = findF ((fts es).drop i) k) ∧ Hid (New w1 wr)) (fun ti _ => n - (intOf ti).toNat)
    case atStart => exact ⟨0, Nat.zero_le _, rfl, rfl, K2⟩
    case round =>
      obtain ⟨i, hin, rfl, VF, VN⟩ := hrel
      by_cases hlt : i < n
      · obtain ⟨g, o, y, eA, hy, hok, y0, y1, y2, y3, y4⟩ := (H.out.new VN.out).at_ (i := i) hlt
        subst eA
        have HYC : Hid (∀ u, New w1 u → u.cell? ⟨g, o + i * 5 + 4, none⟩ = some (.slice y.A y.f.v.length y.c)) := fun u hu => by
          obtain ⟨g', o', y', eA', hy', _, _, _, _, _, z4⟩ := (H.out.new hu).at_ (i := i) hlt
          injection eA' with eA'
          injection eA' with e1 e2
          subst e1 e2
          rw [hy] at hy'
          injection hy' with hy'
          subst hy'
          exact z4
        have HYB : Hid (∀ u, New w1 u → Bts u y.A y.f.v.length y.f.v) := fun u hu => ((H.out.new hu).2 y (List.mem_of_getElem? hy)).1
        have HFY : (fts es)[i]? = some y.f := by unfold fts; rw [List.getElem?_map, hy]; rfl
        have HFT := Lib.hid (findF_take VF.out HFY)
        have hvl : y.f.v.length ≤ 140737488351232 := hok.2.2.1
        obtain ⟨x0, x1, x2, x3⟩ := cells4 (BK.out wr VN.out)
        clear hy hok HFY VF
        have s1 : (0 : Int) ≤ (i : Int) := by omega
        have s3 : (i : Int) < (n : Int) := by omega
        have p0 := fun d os => cell_regrown y0 d os
        have p1 := fun d os => cell_regrown y1 d os
        have p2 := fun d os => cell_regrown y2 d os
        have p3 := fun d os => cell_regrown y3 d os
        have r0 := fun d os => cell_regrown x0 d os
        have r1 := fun d os => cell_regrown x1 d os
        have r2 := fun d os => cell_regrown x2 d os
        have r3 := fun d os => cell_regrown x3 d os
        clear y0 y1 y2 y3 y4 x0 x1 x2 x3
        by_cases he : y.f.k = k
        · have HEQ : ∀ u, Sem.run Try.prog (binOp .eql 25 (.agg #[.int .i64 y.f.k.i, .int .u8 (y.f.k.t : Nat), .string y.f.k.n, .int .i64 y.f.k.c]) (.agg #[.int .i64 k.i, .int .u8 (k.t : Nat), .string k.n, .int .i64 k.c])) u = .ok (.bool true) u := fun u => by rw [key_eql, decide_eq_true he]
          have HE : Hid (findR (fts es) k = some y.f.v) := HR.out.trans (HFT.out.1 he)
          clear he
          go_wp2_with fail
          refine wp_region_quiet_below (by kernel_rfl) (by kernel_rfl) ?_
          repeat (quiet_step (fail))
          refine wpQuiet_nil ?_
          intro _ hw'
          obtain ⟨⟨dq, osq⟩, hw''⟩ := hw'
          subst hw''
          have K9 : Hid (New w1 (Go.Sort.grow (redrawn wr dq) osq)) := new_regrown VN.out dq osq
          generalize Go.Sort.grow (redrawn wr dq) osq = w9 at *
          have y4 := HYC.out w9 K9.out
          have B9 := Lib.hid (HYB.out w9 K9.out)
          have N9 := Lib.hid (N1.out.new K9.out)
          have hz9 : w.heap.size ≤ w9.heap.size := N9.out.size
          clear p0 p1 p2 p3 r0 r1 r2 r3 HEQ HFT HR NONE
          go_wp2_with (at_builtin; refine wpList_append_bytes _ rfl _ _ _ rfl 5 i0 Try.underlying27 hi hz0 hz1 hz2 w.heap.size none 0 0 [] rfl (OwnB.nil _ _ _) rfl y.A y.f.v.length y.c y.f.v rfl B9.out (by simp; omega) hz9 ?_)
          intro A4 c4 w4 hown hg _
          have hown : OwnB w4 5 w.heap.size A4 c4 y.f.v := by simpa using hown
          have E9 := Lib.hid (SOME.out w4 A4 c4 y.f.v HE.out hown (N9.out.new ((Kept.refl _ _).grown hg (by simp))))
          clear hown hg B9 N9 y4
          go_wp2
          go_ret2
          exact E9.out
        · have HEQ : ∀ u, Sem.run Try.prog (binOp .eql 25 (.agg #[.int .i64 y.f.k.i, .int .u8 (y.f.k.t : Nat), .string y.f.k.n, .int .i64 y.f.k.c]) (.agg #[.int .i64 k.i, .int .u8 (k.t : Nat), .string k.n, .int .i64 k.c])) u = .ok (.bool false) u := fun u => by rw [key_eql, decide_eq_false he]
          have HE := Lib.hid (HFT.out.2 he)
          clear he
          go_wp2_with fail
          refine wp_region_quiet_below (by kernel_rfl) (by kernel_rfl) ?_
          repeat (quiet_step (fail))
          refine wpQuiet_nil ?_
          intro _ hw'
          obtain ⟨⟨dq, osq⟩, hw''⟩ := hw'
          subst hw''
          have K9 : Hid (New w1 (Go.Sort.grow (redrawn wr dq) osq)) := new_regrown VN.out dq osq
          clear p0 p1 p2 p3 r0 r1 r2 r3 HEQ HFT
          go_wp2
          go_roundw
          case rel => exact ⟨i + 1, by omega, by go_num, HE, K9⟩
          case measure => simp [intOf]; omega
      · have HF0 : findF (fts es) k = none := by
          have := VF.out
          rwa [List.drop_of_length_le (by rw [HL.out]; omega)] at this
        have E9 := Lib.hid (NONE.out wr (HR.out.trans HF0) (N1.out.new VN.out))
        clear HF0 VF
        go_wp2
        go_ret2
        exact E9.out

theorem same_new (A B : Option Addr) (n m c d : Nat) (l k : List Nat) (r : Bool) (h : decide (l = k) = r) (hn : n ≤ maxLen) (u : World) (ha : Bts u A n l) (hb : Bts u B m k) :
    Calls Try.prog 10 #[.slice A n c, .slice B m d] u fun e w' => e = .returned (.bool r) ∧ Below u.heap.size u w' :=
  (same_any A B n m c d l k u ha hb hn).mono fun e w' hh => by
    obtain ⟨z, he, hw⟩ := hh
    exact ⟨by rw [he, h], by rw [hw]; exact ((Kept.refl _ _).drewN z).below⟩

set_option maxRecDepth 100000 in
set_option maxHeartbeats 3200000 in
theorem facts0_any (A B : Option Addr) (n m c d : Nat) (es fs : List FE) (w : World) (ha : FIn w A n es) (hb : FIn w B m fs) (hn : n ≤ maxLen) :
    Calls Try.prog 9 #[.slice A n c, .slice B m d] w (NewBool w (decide (fts es = fts fs))) := by
  have LA : Hid ((fts es).length = n) := by rw [Hid, fts_lenE, ha.len]
  have LB : Hid ((fts fs).length = m) := by rw [Hid, fts_lenE, hb.len]
  have HA := Lib.hid ha
  have HB := Lib.hid hb
  unfold maxLen at hn
  clear ha hb
  by_cases hnm : n = m
  · subst hnm
    go_enter Try.func9, Try.ntmps9
    go_wp2_with fail
    go_loopw [5] (fun i wr => ∃ k : Nat, k ≤ n ∧ i = .int .i64 k ∧ Hid (New w wr) ∧ Hid ((fts es).take k = (fts fs).take k)) (fun i _ => n - (intOf i).toNat)
    case atStart => exact ⟨0, Nat.zero_le _, rfl, Kept.refl _ _, rfl⟩
    case round =>
      obtain ⟨k, hk, rfl, HN, HT⟩ := hrel
      by_cases hlt : k < n
      · obtain ⟨g, o, x, eA, hx, okx, x0, x1, x2, x3, x4⟩ := (HA.out.new HN.out).at_ (i := k) hlt
        obtain ⟨g', o', y, eB, hy, oky, y0, y1, y2, y3, y4⟩ := (HB.out.new HN.out).at_ (i := k) hlt
        subst eA eB
        have hfx : (fts es)[k]? = some x.f := by unfold fts; rw [List.getElem?_map, hx]; rfl
        have hfy : (fts fs)[k]? = some y.f := by unfold fts; rw [List.getElem?_map, hy]; rfl
        have HNX : Hid (x.f = y.f → (fts es).take (k + 1) = (fts fs).take (k + 1)) := fun e => by rw [List.take_add_one, List.take_add_one, hfx, hfy, HT.out, e]
        have HNO : Hid (x.f ≠ y.f → decide (fts es = fts fs) = false) := fun hne => decide_eq_false fun e => hne (by rw [e, hfy] at hfx; injection hfx with hfx; exact hfx.symm)
        have s1 : (0 : Int) ≤ (k : Int) := by omega
        have s3 : (k : Int) < (n : Int) := by omega
        have BX := Lib.hid okx.1
        have BY := Lib.hid oky.1
        have hxl : Hid (x.f.v.length ≤ maxLen) := Nat.le_trans okx.2.2.1 (by unfold maxLen; omega)
        clear hx hy hfx hfy okx oky
        by_cases e1 : x.f.k = y.f.k
        · have HNQ : ∀ u, Sem.run Try.prog (binOp .neq 25 (.agg #[.int .i64 x.f.k.i, .int .u8 (x.f.k.t : Nat), .string x.f.k.n, .int .i64 x.f.k.c]) (.agg #[.int .i64 y.f.k.i, .int .u8 (y.f.k.t : Nat), .string y.f.k.n, .int .i64 y.f.k.c])) u = .ok (.bool false) u := fun u => by rw [key_neq, decide_eq_true e1]; rfl
          have HE1 := Lib.hid e1
          obtain ⟨b, hbv⟩ : ∃ b, decide (x.f.v = y.f.v) = b := ⟨_, rfl⟩
          have CS := Lib.hid (fun (q : Nat) (os : Array Obj) => Calls.regrown_of (d := q) (os := os) (same_new x.A y.A x.f.v.length y.f.v.length x.c y.c x.f.v y.f.v _ rfl hxl.out (Go.Sort.grow (redrawn wr q) os) (BX.out.new (new_regrown (Kept.refl _ _) q os)) (BY.out.new (new_regrown (Kept.refl _ _) q os))))
          rw [hbv] at CS
          have HBV := Lib.hid hbv
          clear e1 hbv
          have p0 := fun d os => cell_regrown x0 d os
          have p1 := fun d os => cell_regrown x1 d os
          have p2 := fun d os => cell_regrown x2 d os
          have p3 := fun d os => cell_regrown x3 d os
          have p4 := fun d os => cell_regrown x4 d os
          have r0 := fun d os => cell_regrown y0 d os
          have r1 := fun d os => cell_regrown y1 d os
          have r2 := fun d os => cell_regrown y2 d os
          have r3 := fun d os => cell_regrown y3 d os
          have r4 := fun d os => cell_regrown y4 d os
          clear x0 x1 x2 x3 x4 y0 y1 y2 y3 y4
          go_wp2_with fail
          refine wp_region_quiet_below (by kernel_rfl) (by kernel_rfl) ?_
          repeat (quiet_step (first
            | (go_at_call 10; exact CS.out _ _)))
          refine wpQuiet_nil ?_
          intro _ hw'
          obtain ⟨⟨dq, osq⟩, hw''⟩ := hw'
          subst hw''
          have K9 : Hid (New w (Go.Sort.grow (redrawn wr dq) osq)) := new_regrown HN.out dq osq
          clear CS p0 p1 p2 p3 p4 r0 r1 r2 r3 r4 HNQ
          cases b with
          | true =>
            have HT2 := Lib.hid (HNX.out (ft_eq HE1.out (of_decide_eq_true HBV.out)))
            clear HNX HNO HT
            go_wp2
            go_roundw
            case rel => exact ⟨k + 1, by omega, by go_num, K9, HT2⟩
            case measure => simp [intOf]; omega
          | false =>
            have HZ := Lib.hid (HNO.out fun e => of_decide_eq_false HBV.out (by rw [e]))
            clear HNX HNO HT
            go_wp2
            go_ret
            exact ⟨by rw [HZ.out]; rfl, K9.out⟩
        · have HNQ : ∀ u, Sem.run Try.prog (binOp .neq 25 (.agg #[.int .i64 x.f.k.i, .int .u8 (x.f.k.t : Nat), .string x.f.k.n, .int .i64 x.f.k.c]) (.agg #[.int .i64 y.f.k.i, .int .u8 (y.f.k.t : Nat), .string y.f.k.n, .int .i64 y.f.k.c])) u = .ok (.bool true) u := fun u => by rw [key_neq, decide_eq_false e1]; rfl
          have HZ := Lib.hid (HNO.out fun e => e1 (by rw [e]))
          clear HNX HNO HT e1
          go_wp2_with fail
          go_quiet (fail)
          clear x0 x1 x2 x3 x4 y0 y1 y2 y3 y4 HNQ
          go_wp2
          go_ret
          exact ⟨by rw [HZ.out]; rfl, HN.out.drewN _⟩
      · have HZ : Hid (decide (fts es = fts fs) = true) := decide_eq_true (by
          have := HT.out
          rwa [List.take_of_length_le (by rw [LA.out]; omega), List.take_of_length_le (by rw [LB.out]; omega)] at this)
        clear HT
        go_wp2
        go_ret
        exact ⟨by rw [HZ.out]; rfl, HN.out⟩
  · have HZ : Hid (decide (fts es = fts fs) = false) := decide_eq_false fun e => hnm (by rw [← LA.out, ← LB.out, e])
    have d : ((n : Int) != (m : Int)) = true := bne_iff_ne.2 (by omega)
    clear hnm
    go_enter Try.func9, Try.ntmps9
    go_wp2
    go_ret
    exact ⟨by rw [HZ.out]; rfl, Kept.refl _ _⟩
end Go.Proofs.Ytgdhbnhdmhogkaa
