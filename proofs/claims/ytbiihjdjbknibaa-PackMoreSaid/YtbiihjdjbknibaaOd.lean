/-
  Contracts: the reference's finding; the comparison of lists of facts.
-/
import Derived.Test.YtbiihjdjbknibaaOc
namespace Go.Proofs.Ytbiihjdjbknibaa
set_option maxRecDepth 100000
open Go.ChangeShapes Go.WideShapes Go.ChangeAt Go.RowKit

theorem findF_take {l : List FT} {k : KY} {i : Nat} {x : FT} (h : findF l k = findF (l.drop i) k) (hx : l[i]? = some x) : (x.k = k → findF l k = some x.v) ∧ (¬ x.k = k → findF l k = findF (l.drop (i + 1)) k) := by
  obtain ⟨h1, e1⟩ := List.getElem?_eq_some_iff.1 hx
  have hd : l.drop i = x :: l.drop (i + 1) := by rw [List.drop_eq_getElem_cons h1, e1]
  rw [hd] at h
  exact ⟨fun e => by rw [h]; exact if_pos e, fun e => by rw [h]; exact if_neg e⟩

theorem same_new (A B : Option Addr) (n m c d : Nat) (l k : List Nat) (r : Bool) (h : decide (l = k) = r) (hn : n ≤ maxLen) (u : World) (ha : Bts u A n l) (hb : Bts u B m k) :
    Calls Try.prog 14 #[.slice A n c, .slice B m d] u fun e w' => e = .returned (.bool r) ∧ Below u.heap.size u w' :=
  (same_any A B n m c d l k u ha hb hn).mono fun e w' hh => by
    obtain ⟨z, he, hw⟩ := hh
    exact ⟨by rw [he, h], by rw [hw]; exact ((Kept.refl _ _).drewN z).below⟩

set_option maxRecDepth 100000 in
set_option maxHeartbeats 3200000 in
theorem facts0_any (A B : Option Addr) (n m c d : Nat) (es fs : List FE) (w : World) (ha : FIn w A n es) (hb : FIn w B m fs) (hn : n ≤ maxLen) :
    Calls Try.prog 19 #[.slice A n c, .slice B m d] w (NewBool w (decide (fts es = fts fs))) := by
  have LA : Hid ((fts es).length = n) := by rw [Hid, fts_lenE, ha.len]
  have LB : Hid ((fts fs).length = m) := by rw [Hid, fts_lenE, hb.len]
  have HA := Lib.hid ha
  have HB := Lib.hid hb
  unfold maxLen at hn
  clear ha hb
  by_cases hnm : n = m
  · subst hnm
    go_enter Try.func19, Try.ntmps19
    go_wp2_with fail
    go_loopw [5] (fun i wr => ∃ k : Nat, k ≤ n ∧ i = .int .i64 k ∧ Hid (New w wr) ∧ Hid ((fts es).take k = (fts fs).take k)) (fun i _ => n - (intOf i).toNat)
    case atStart => exact ⟨0, Nat.zero_le _, rfl, Kept.refl _ _, rfl⟩
    case round =>
      obtain ⟨k, hk, rfl, HN, HT⟩ := hrel
      by_cases hlt : k < n
      · obtain ⟨g, o, x, eA, hx, okx, x0, x1, x2, x3, x4⟩ := (HA.out.new HN.out).at_ (i := k) hlt
        obtain ⟨g', o', y, eB, hy, oky, y0, y1, y2, y3, y4⟩ := (HB.out.new HN.out).at_ (i := k) hlt
        subst eA eB
        have hfx : (fts es)[k]? = some x.f := by unfold fts; rw [List.getElem?_map, hx]; rfl
        have hfy : (fts fs)[k]? = some y.f := by unfold fts; rw [List.getElem?_map, hy]; rfl
        have HNX : Hid (x.f = y.f → (fts es).take (k + 1) = (fts fs).take (k + 1)) := fun e => by rw [List.take_add_one, List.take_add_one, hfx, hfy, HT.out, e]
        have HNO : Hid (x.f ≠ y.f → decide (fts es = fts fs) = false) := fun hne => decide_eq_false fun e => hne (by rw [e, hfy] at hfx; injection hfx with hfx; exact hfx.symm)
        have s1 : (0 : Int) ≤ (k : Int) := by omega
        have s3 : (k : Int) < (n : Int) := by omega
        have BX := Lib.hid okx.1
        have BY := Lib.hid oky.1
        have hxl : Hid (x.f.v.length ≤ maxLen) := Nat.le_trans okx.2.2.1 (by unfold maxLen; omega)
        clear hx hy hfx hfy okx oky
        by_cases e1 : x.f.k = y.f.k
        · have HNQ : ∀ u, Sem.run Try.prog (binOp .neq 24 (.agg #[.int .i64 x.f.k.i, .int .u8 (x.f.k.t : Nat), .string x.f.k.n, .int .i64 x.f.k.c]) (.agg #[.int .i64 y.f.k.i, .int .u8 (y.f.k.t : Nat), .string y.f.k.n, .int .i64 y.f.k.c])) u = .ok (.bool false) u := fun u => by rw [key_neq, decide_eq_true e1]; rfl
          have HE1 := Lib.hid e1
          obtain ⟨b, hbv⟩ : ∃ b, decide (x.f.v = y.f.v) = b := ⟨_, rfl⟩
          have CS := Lib.hid (fun (q : Nat) (os : Array Obj) => Calls.regrown_of (d := q) (os := os) (same_new x.A y.A x.f.v.length y.f.v.length x.c y.c x.f.v y.f.v _ rfl hxl.out (Go.Sort.grow (redrawn wr q) os) (BX.out.new (new_regrown (Kept.refl _ _) q os)) (BY.out.new (new_regrown (Kept.refl _ _) q os))))
          rw [hbv] at CS
          have HBV := Lib.hid hbv
          clear e1 hbv
          have p0 := fun d os => cell_regrown x0 d os
          have p1 := fun d os => cell_regrown x1 d os
          have p2 := fun d os => cell_regrown x2 d os
          have p3 := fun d os => cell_regrown x3 d os
          have p4 := fun d os => cell_regrown x4 d os
          have r0 := fun d os => cell_regrown y0 d os
          have r1 := fun d os => cell_regrown y1 d os
          have r2 := fun d os => cell_regrown y2 d os
          have r3 := fun d os => cell_regrown y3 d os
          have r4 := fun d os => cell_regrown y4 d os
          clear x0 x1 x2 x3 x4 y0 y1 y2 y3 y4
          go_wp2_with fail
          refine wp_region_quiet_below (by kernel_rfl) (by kernel_rfl) ?_
          repeat (quiet_step (first
            | (go_at_call 14; exact CS.out _ _)))
          refine wpQuiet_nil ?_
          intro _ hw'
          obtain ⟨⟨dq, osq⟩, hw''⟩ := hw'
          subst hw''
          have K9 : Hid (New w (Go.Sort.grow (redrawn wr dq) osq)) := new_regrown HN.out dq osq
          clear CS p0 p1 p2 p3 p4 r0 r1 r2 r3 r4 HNQ
          cases b with
          | true =>
            have HT2 := Lib.hid (HNX.out (ft_eq HE1.out (of_decide_eq_true HBV.out)))
            clear HNX HNO HT
            go_wp2
            go_roundw
            case rel => exact ⟨k + 1, by omega, by go_num, K9, HT2⟩
            case measure => simp [intOf]; omega
          | false =>
            have HZ := Lib.hid (HNO.out fun e => of_decide_eq_false HBV.out (by rw [e]))
            clear HNX HNO HT
            go_wp2
            go_ret
            exact ⟨by rw [HZ.out]; rfl, K9.out⟩
        · have HNQ : ∀ u, Sem.run Try.prog (binOp .neq 24 (.agg #[.int .i64 x.f.k.i, .int .u8 (x.f.k.t : Nat), .string x.f.k.n, .int .i64 x.f.k.c]) (.agg #[.int .i64 y.f.k.i, .int .u8 (y.f.k.t : Nat), .string y.f.k.n, .int .i64 y.f.k.c])) u = .ok (.bool true) u := fun u => by rw [key_neq, decide_eq_false e1]; rfl
          have HZ := Lib.hid (HNO.out fun e => e1 (by rw [e]))
          clear HNX HNO HT e1
          go_wp2_with fail
          go_quiet (fail)
          clear x0 x1 x2 x3 x4 y0 y1 y2 y3 y4 HNQ
          go_wp2
          go_ret
          exact ⟨by rw [HZ.out]; rfl, HN.out.drewN _⟩
      · have HZ : Hid (decide (fts es = fts fs) = true) := decide_eq_true (by
          have := HT.out
          rwa [List.take_of_length_le (by rw [LA.out]; omega), List.take_of_length_le (by rw [LB.out]; omega)] at this)
        clear HT
        go_wp2
        go_ret
        exact ⟨by rw [HZ.out]; rfl, HN.out⟩
  · have HZ : Hid (decide (fts es = fts fs) = false) := decide_eq_false fun e => hnm (by rw [← LA.out, ← LB.out, e])
    have d : ((n : Int) != (m : Int)) = true := bne_iff_ne.2 (by omega)
    clear hnm
    go_enter Try.func19, Try.ntmps19
    go_wp2
    go_ret
    exact ⟨by rw [HZ.out]; rfl, Kept.refl _ _⟩
end Go.Proofs.Ytbiihjdjbknibaa
