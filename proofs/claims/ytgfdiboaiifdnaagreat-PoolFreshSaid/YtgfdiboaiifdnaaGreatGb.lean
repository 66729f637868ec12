/-
  Heads: which may be, their bodies' bytes (over numbers); the calls that tell and make them.
-/
import Derived.Test.YtgfdiboaiifdnaaGreatGa
import Derived.Lib.AppendZerosOnto
namespace Go.Proofs.YtgfdiboaiifdnaaGreat
open Go.ChangeShapes Go.WideShapes Go.ChangeAt Go.RowKit

/-- Heads that may be. -/
def isHd (k e s : Nat) : Prop := (1 ≤ k ∧ k ≤ 3) ∧ 1 ≤ e ∧ 1 ≤ s
instance (k e s : Nat) : Decidable (isHd k e s) := by unfold isHd; infer_instance
def hdL (k e s : Nat) : List Nat := leB k 1 ++ leB e 4 ++ leB s 8
theorem hdL_length (k e s : Nat) : (hdL k e s).length = 13 := by simp [hdL, leB_length]
theorem leB1 (k : Nat) (h : k < 256) : leB k 1 = [k] := by
  unfold leB
  simp only [List.range_succ, List.range_zero, List.nil_append, List.map_cons, List.map_nil, Nat.pow_zero, Nat.div_one]
  rw [Nat.mod_eq_of_lt h]

set_option maxRecDepth 100000 in
set_option maxHeartbeats 800000 in
theorem kind_any (k : Nat) (w : World) : Calls Tryz.prog 54 #[.int .u8 (k : Nat)] w fun e w' => e = .returned (.bool (decide (1 ≤ k ∧ k ≤ 3))) ∧ w = w' := by
  by_cases h1 : 1 ≤ k
  · by_cases h2 : k ≤ 3
    · have e : decide (1 ≤ k ∧ k ≤ 3) = true := decide_eq_true ⟨h1, h2⟩
      rw [e]
      have h3 : decide ((k : Int) ≤ 3) = true := decide_eq_true (by omega)
      have h4 : decide ((1 : Int) ≤ (k : Int)) = true := decide_eq_true (by omega)
      clear e
      go_enter Tryz.func54, Tryz.ntmps54
      go_wp2
      go_ret
      exact ⟨rfl, rfl⟩
    · have e : decide (1 ≤ k ∧ k ≤ 3) = false := decide_eq_false (fun h => h2 h.2)
      rw [e]
      have h3 : decide ((k : Int) ≤ 3) = false := decide_eq_false (by omega)
      clear e
      go_enter Tryz.func54, Tryz.ntmps54
      go_wp2
      go_ret
      exact ⟨rfl, rfl⟩
  · have e : decide (1 ≤ k ∧ k ≤ 3) = false := decide_eq_false (fun h => h1 h.1)
    rw [e]
    obtain rfl : k = 0 := by omega
    clear e
    go_enter Tryz.func54, Tryz.ntmps54
    go_wp2
    go_ret
    exact ⟨rfl, rfl⟩

theorem hd_dec (k e s : Nat) : decide (isHd k e s) = (decide (1 ≤ k ∧ k ≤ 3) && (decide (1 ≤ e) && decide (1 ≤ s))) := by
  unfold isHd
  by_cases h1 : 1 ≤ k ∧ k ≤ 3 <;> by_cases h2 : 1 ≤ e <;> by_cases h3 : 1 ≤ s <;> simp [h1, h2, h3]

set_option maxRecDepth 100000 in
set_option maxHeartbeats 800000 in
theorem isHead_any (k e s : Nat) (w : World) : Calls Tryz.prog 68 #[.agg #[.int .u8 (k : Nat), .int .u32 (e : Nat), .int .u64 (s : Nat)]] w (BoolN w (decide (isHd k e s))) := by
  have HD := Lib.hid (hd_dec k e s)
  by_cases hk : 1 ≤ k ∧ k ≤ 3
  · have HK := Lib.hid (decide_eq_true hk)
    by_cases he : 1 ≤ e
    · have he2 : (0 : Int) < (e : Int) := by omega
      have he3 : 0 < e := he
      by_cases hs : 1 ≤ s
      · have hs2 : (0 : Int) < (s : Int) := by omega
        have hs3 : 0 < s := hs
        rw [HD.out, HK.out, decide_eq_true he, decide_eq_true hs]
        clear hk
        go_enter Tryz.func68, Tryz.ntmps68
        go_wp2_with fail
        refine (kind_any k _).mono ?_
        rintro e' w' ⟨rfl, rfl⟩
        rw [HK.out]
        go_wp2
        go_ret
        exact ⟨rfl, (Kept.refl _ _).alloc _⟩
      · obtain rfl : s = 0 := by omega
        rw [HD.out, HK.out, decide_eq_true he, decide_eq_false hs]
        clear hk
        go_enter Tryz.func68, Tryz.ntmps68
        go_wp2_with fail
        refine (kind_any k _).mono ?_
        rintro e' w' ⟨rfl, rfl⟩
        rw [HK.out]
        go_wp2
        go_ret
        exact ⟨rfl, (Kept.refl _ _).alloc _⟩
    · obtain rfl : e = 0 := by omega
      rw [HD.out, HK.out, decide_eq_false he, Bool.false_and, Bool.and_false]
      clear hk
      go_enter Tryz.func68, Tryz.ntmps68
      go_wp2_with fail
      refine (kind_any k _).mono ?_
      rintro e' w' ⟨rfl, rfl⟩
      rw [HK.out]
      go_wp2
      go_ret
      exact ⟨rfl, (Kept.refl _ _).alloc _⟩
  · have HK := Lib.hid (decide_eq_false hk)
    rw [HD.out, HK.out, Bool.false_and]
    clear hk
    go_enter Tryz.func68, Tryz.ntmps68
    go_wp2_with fail
    refine (kind_any k _).mono ?_
    rintro e' w' ⟨rfl, rfl⟩
    rw [HK.out]
    go_wp2
    go_ret
    exact ⟨rfl, (Kept.refl _ _).alloc _⟩

set_option maxRecDepth 100000 in
set_option maxHeartbeats 800000 in
theorem mayHead_any (k e s : Nat) (w : World) : Calls Tryz.prog 76 #[.agg #[.int .u8 (k : Nat), .int .u32 (e : Nat), .int .u64 (s : Nat)]] w (BoolN w (decide (isHd k e s))) := by
  by_cases h1 : 1 ≤ k
  · by_cases h2 : k ≤ 3
    · by_cases he : 1 ≤ e
      · by_cases hs : 1 ≤ s
        · have HD := Lib.hid (decide_eq_true (show isHd k e s from ⟨⟨h1, h2⟩, he, hs⟩))
          have h3 : decide ((k : Int) ≤ 3) = true := decide_eq_true (by omega)
          have h4 : decide ((1 : Int) ≤ (k : Int)) = true := decide_eq_true (by omega)
          have h5 : decide ((1 : Int) ≤ (e : Int)) = true := decide_eq_true (by omega)
          have h6 : decide ((1 : Int) ≤ (s : Int)) = true := decide_eq_true (by omega)
          rw [HD.out]
          go_enter Tryz.func76, Tryz.ntmps76
          go_wp2
          go_ret
          exact ⟨rfl, (Kept.refl _ _).alloc _⟩
        · have HD := Lib.hid (decide_eq_false (show ¬ isHd k e s from fun h => hs h.2.2))
          rw [HD.out]
          obtain rfl : s = 0 := by omega
          go_enter Tryz.func76, Tryz.ntmps76
          go_wp2
          go_ret
          exact ⟨rfl, (Kept.refl _ _).alloc _⟩
      · have HD := Lib.hid (decide_eq_false (show ¬ isHd k e s from fun h => he h.2.1))
        rw [HD.out]
        obtain rfl : e = 0 := by omega
        go_enter Tryz.func76, Tryz.ntmps76
        go_wp2
        go_ret
        exact ⟨rfl, (Kept.refl _ _).alloc _⟩
    · have HD := Lib.hid (decide_eq_false (show ¬ isHd k e s from fun h => h2 h.1.2))
      have h3 : decide ((k : Int) ≤ 3) = false := decide_eq_false (by omega)
      rw [HD.out]
      go_enter Tryz.func76, Tryz.ntmps76
      go_wp2
      go_ret
      exact ⟨rfl, (Kept.refl _ _).alloc _⟩
  · have HD := Lib.hid (decide_eq_false (show ¬ isHd k e s from fun h => h1 h.1.1))
    rw [HD.out]
    obtain rfl : k = 0 := by omega
    go_enter Tryz.func76, Tryz.ntmps76
    go_wp2
    go_ret
    exact ⟨rfl, (Kept.refl _ _).alloc _⟩

theorem grow13_run (w : World) (ty : TypeId) : (Builtin.append_ #[27, 3] ty #[.slice none 0 0, .int .i64 13]).run Tryz.prog w = .ok (.slice (some ⟨w.heap.size, 0, none⟩) 13 (grownCap w 13 0 5)) (w.drew.alloc (.cells (rawB (List.replicate (grownCap w 13 0 5) 0)) 5)) := by
  obtain ⟨i0, hi, hz0, hz1, hz2⟩ := info_parts info_u8
  have h := Lib.run_append_grow_zeros (P := Tryz.prog) w 27 3 ty 5 i0 (.int .u8 0) .i64 .i64 Tryz.underlying27 Tryz.underlying3 hi hz0 none 0 0 [] (run_firstCells_none _ _ _ _ _) 13 (by omega) (by rw [hz1]; omega) (by omega) (by omega) (by rw [hz2]; omega) (growslice_fits (by omega) (by rw [hz2]; omega))
  have hge := grownCap_ge w 13 0 5
  have h2 : ((13 : Nat) : Int) = 13 := rfl
  rw [h2, Nat.zero_add, zeros_u8, zeros_u8] at h
  rw [h]
  have e : (List.toArray [] ++ ((List.replicate 13 0).map byt).toArray ++ ((List.replicate (grownCap w 13 0 5 - 13) 0).map byt).toArray) = rawB (List.replicate (grownCap w 13 0 5) 0) := by
    generalize grownCap w 13 0 5 = c at *
    unfold rawB
    rw [Array.empty_append, List.append_toArray, ← List.map_append, List.replicate_append_replicate, show 13 + (c - 13) = c by omega]
  rw [e]

theorem wpList_grow13 {w : World} {ops : Array Oper} {rest : List Oper} {o : Oper} {a : Act} {Q : Exit → Act → World → Prop} (hgd : o.guard = none) (s x : Operand)
    (ho : o.op = .call { callee := .builtin .append, args := #[s, x], argTypes := #[27, 3] }) (hsv : a.eval s = .slice none 0 0) (hx : a.eval x = .int .i64 13)
    (h : ∀ c w', Hid (OwnB w' 5 w.heap.size (some ⟨w.heap.size, 0, none⟩) c []) → 13 ≤ c → Hid (New w w') → wpList Tryz.prog ops Q rest (a.put o.dst (.slice (some ⟨w.heap.size, 0, none⟩) 13 c)) w') :
    wpList Tryz.prog ops Q (o :: rest) a w := by
  refine wpList_plain hgd fun _ hK => ?_
  have hrun := grow13_run w o.type
  unfold Oper.wp execOp
  simp only [ho, resolve, invoke, builtin, Sem.run_bind, Sem.run_pure, Result.andThen_ok, List.map_toArray, List.map_cons, List.map_nil, hsv, hx, hrun]
  refine hK _ _ (h _ _ ?_ (grownCap_ge w 13 0 5) (((Kept.refl _ _).drew).alloc _))
  refine OwnB.of_blk (l := []) (sp := List.replicate (grownCap w 13 0 5) 0) ?_ (Nat.le_refl _) zeros_lt (by simp) (grownCap_le_maxLen w 13 0 5 (by unfold maxLen; omega))
  exact Blk.madeB w.drew 5 _

set_option maxRecDepth 100000 in
set_option maxHeartbeats 800000 in
/-- Grow of nil to 13: a new row with room. -/
theorem grow13_any (w : World) : Calls Tryz.prog 101 #[.slice none 0 0, .int .i64 13] w fun e w' => ∃ c, e = .returned (.slice (some ⟨w.heap.size, 0, none⟩) 0 c) ∧ Hid (OwnB w' 5 w.heap.size (some ⟨w.heap.size, 0, none⟩) c []) ∧ Hid (New w w') := by
  go_enter Tryz.func101, Tryz.ntmps101
  go_wp2_with (at_builtin; refine wpList_grow13 rfl _ _ rfl rfl rfl ?_)
  intro c w2 ho hc hn
  have hc2 : (13 : Int) ≤ (c : Int) := by omega
  go_wp2
  go_ret
  exact ⟨c, rfl, ho, hn⟩

/-- Where a row of three rows lies. -/
def sum3 (k : Nat) : Nat := if k = 0 then 0 else if k = 1 then 1 else if k = 2 then 5 else 13
def cat3 (a b c : List Nat) (k : Nat) : List Nat := if k = 0 then [] else if k = 1 then a else if k = 2 then a ++ b else a ++ (b ++ c)

set_option maxRecDepth 100000 in
set_option maxHeartbeats 1600000 in
theorem concat3_any (g : Nat) (A0 A1 A2 : Option Addr) (c0 c1 c2 : Nat) (l0 l1 l2 : List Nat) (w : World) (hg : Blk w g 27 [.slice A0 1 c0, .slice A1 4 c1, .slice A2 8 c2]) (h0 : Bts w A0 1 l0) (h1 : Bts w A1 4 l1) (h2 : Bts w A2 8 l2) :
    Calls Tryz.prog 99 #[.slice (some ⟨g, 0, none⟩) 3 3] w (fun e w' => ∃ A c, e = .returned (.slice A 13 c) ∧ Hid (OwnB w' 5 w.heap.size A c (l0 ++ (l1 ++ l2))) ∧ Hid (New w w')) := by
  obtain ⟨i0, hi, hz0, hz1, hz2⟩ := info_parts info_u8
  have H0 := Lib.hid h0
  have H1 := Lib.hid h1
  have H2 := Lib.hid h2
  have HG := Lib.hid hg
  have e0 : w.cell? ⟨g, 0, none⟩ = some (.slice A0 1 c0) := hg.cell 0
  have e1 : w.cell? ⟨g, 1, none⟩ = some (.slice A1 4 c1) := hg.cell 1
  have e2 : w.cell? ⟨g, 2, none⟩ = some (.slice A2 8 c2) := hg.cell 2
  have hlt := hg.lt
  clear h0 h1 h2 hg
  go_enter Tryz.func99, Tryz.ntmps99
  go_wp2
  go_loop [3, 5, 11] (fun s _ i => ∃ k : Nat, k ≤ 3 ∧ s = .int .i64 (sum3 k : Nat) ∧ i = .int .i64 k) (fun _ _ i => 3 - (intOf i).toNat)
  case atStart => exact ⟨0, by omega, rfl, rfl⟩
  case round =>
    obtain ⟨k, hk, rfl, rfl⟩ := hrel
    obtain rfl | rfl | rfl | rfl : k = 0 ∨ k = 1 ∨ k = 2 ∨ k = 3 := by omega
    · rw [show ((sum3 0 : Nat) : Int) = 0 from rfl]
      go_wp2
      go_round
      case rel => exact ⟨1, by omega, rfl, rfl⟩
      case measure => simp [intOf]
    · rw [show ((sum3 1 : Nat) : Int) = 1 from rfl]
      go_wp2
      go_round
      case rel => exact ⟨2, by omega, rfl, rfl⟩
      case measure => simp [intOf]
    · rw [show ((sum3 2 : Nat) : Int) = 5 from rfl]
      go_wp2
      go_round
      case rel => exact ⟨3, by omega, rfl, rfl⟩
      case measure => simp [intOf]
    · rw [show ((sum3 3 : Nat) : Int) = 13 from rfl]
      have HLEN : Hid (∀ k, k ≤ 3 → sum3 k = (cat3 l0 l1 l2 k).length) := fun k hk => by
        have q0 := H0.out.1
        have q1 := H1.out.1
        have q2 := H2.out.1
        obtain rfl | rfl | rfl | rfl : k = 0 ∨ k = 1 ∨ k = 2 ∨ k = 3 := by omega
        · rfl
        · exact q0.symm
        · show 5 = (l0 ++ l1).length; rw [List.length_append]; omega
        · show 13 = (l0 ++ (l1 ++ l2)).length; rw [List.length_append, List.length_append]; omega
      have HCAT0 : Hid (cat3 l0 l1 l2 1 = cat3 l0 l1 l2 0 ++ l0) := by show l0 = [] ++ l0; simp
      have HCAT1 : Hid (cat3 l0 l1 l2 2 = cat3 l0 l1 l2 1 ++ l1) := rfl
      have HCAT2 : Hid (cat3 l0 l1 l2 3 = cat3 l0 l1 l2 2 ++ l2) := by show l0 ++ (l1 ++ l2) = (l0 ++ l1) ++ l2; simp
      go_wp2_with fail
      refine (grow13_any _).mono ?_
      rintro e w2 ⟨c, rfl, ho, hn⟩
      have f0 : w2.cell? ⟨g, 0, none⟩ = some (.slice A0 1 c0) := hn.out.cell e0 fun f => f
      go_wp2_with fail
      go_loopw [6, 8, 27] (fun r _ i wr => ∃ (k : Nat) (A : Option Addr) (c : Nat), k ≤ 3 ∧ r = .slice A (sum3 k) c ∧ i = .int .i64 k ∧ Hid (OwnB wr 5 w.heap.size A c (cat3 l0 l1 l2 k)) ∧ Hid (New w wr)) (fun _ _ i _ => 3 - (intOf i).toNat)
      case atStart => exact ⟨0, _, c, by omega, rfl, rfl, ho, hn⟩
      case round =>
        obtain ⟨k, A, c, hk, rfl, rfl, VO, VN⟩ := hrel
        clear ho hn f0
        obtain rfl | rfl | rfl | rfl : k = 0 ∨ k = 1 ∨ k = 2 ∨ k = 3 := by omega
        · have d0 : wr.cell? ⟨g, 0, none⟩ = some (.slice A0 1 c0) := (VN.out.cell e0 fun f => f)
          have B0 : Hid (Bts wr A0 1 l0) := H0.out.new VN.out
          have LN : Hid (0 = (cat3 l0 l1 l2 0).length) := HLEN.out 0 (by omega)
          have LB : Hid ((cat3 l0 l1 l2 0).length + 1 ≤ 140737488355328) := by rw [← LN.out]; show _ ≤ _; omega
          have HSZ : Hid (w.heap.size ≤ wr.heap.size) := VN.out.size
          rw [show sum3 0 = 0 from rfl]
          go_wp2_with (at_builtin; refine wpList_append_bytes _ rfl _ _ _ rfl 5 i0 Tryz.underlying27 hi hz0 hz1 hz2 w.heap.size A 0 c (cat3 l0 l1 l2 0) rfl VO.out LN.out A0 1 c0 l0 rfl B0.out LB.out HSZ.out ?_)
          intro A5 c5 w5 hown hgr _
          have VO2 : Hid (OwnB w5 5 w.heap.size A5 c5 (cat3 l0 l1 l2 1)) := by rw [HCAT0.out]; first | exact hown | exact hown.out
          have VN2 : Hid (New w w5) := Kept.of_own VN.out VO.out (by first | exact hgr | exact hgr.out)
          clear hown hgr LB d0
          go_wp2
          go_roundw
          case rel => exact ⟨1, A5, c5, by omega, by first | rfl | trivial, by first | rfl | trivial, VO2, VN2⟩
          case measure => simp [intOf]
        · have d0 : wr.cell? ⟨g, 1, none⟩ = some (.slice A1 4 c1) := (VN.out.cell e1 fun f => f)
          have B0 : Hid (Bts wr A1 4 l1) := H1.out.new VN.out
          have LN : Hid (1 = (cat3 l0 l1 l2 1).length) := HLEN.out 1 (by omega)
          have LB : Hid ((cat3 l0 l1 l2 1).length + 4 ≤ 140737488355328) := by rw [← LN.out]; show _ ≤ _; omega
          have HSZ : Hid (w.heap.size ≤ wr.heap.size) := VN.out.size
          rw [show sum3 1 = 1 from rfl]
          go_wp2_with (at_builtin; refine wpList_append_bytes _ rfl _ _ _ rfl 5 i0 Tryz.underlying27 hi hz0 hz1 hz2 w.heap.size A 1 c (cat3 l0 l1 l2 1) rfl VO.out LN.out A1 4 c1 l1 rfl B0.out LB.out HSZ.out ?_)
          intro A5 c5 w5 hown hgr _
          have VO2 : Hid (OwnB w5 5 w.heap.size A5 c5 (cat3 l0 l1 l2 2)) := by rw [HCAT1.out]; first | exact hown | exact hown.out
          have VN2 : Hid (New w w5) := Kept.of_own VN.out VO.out (by first | exact hgr | exact hgr.out)
          clear hown hgr LB d0
          go_wp2
          go_roundw
          case rel => exact ⟨2, A5, c5, by omega, by first | rfl | trivial, by first | rfl | trivial, VO2, VN2⟩
          case measure => simp [intOf]
        · have d0 : wr.cell? ⟨g, 2, none⟩ = some (.slice A2 8 c2) := (VN.out.cell e2 fun f => f)
          have B0 : Hid (Bts wr A2 8 l2) := H2.out.new VN.out
          have LN : Hid (5 = (cat3 l0 l1 l2 2).length) := HLEN.out 2 (by omega)
          have LB : Hid ((cat3 l0 l1 l2 2).length + 8 ≤ 140737488355328) := by rw [← LN.out]; show _ ≤ _; omega
          have HSZ : Hid (w.heap.size ≤ wr.heap.size) := VN.out.size
          rw [show sum3 2 = 5 from rfl]
          go_wp2_with (at_builtin; refine wpList_append_bytes _ rfl _ _ _ rfl 5 i0 Tryz.underlying27 hi hz0 hz1 hz2 w.heap.size A 5 c (cat3 l0 l1 l2 2) rfl VO.out LN.out A2 8 c2 l2 rfl B0.out LB.out HSZ.out ?_)
          intro A5 c5 w5 hown hgr _
          have VO2 : Hid (OwnB w5 5 w.heap.size A5 c5 (cat3 l0 l1 l2 3)) := by rw [HCAT2.out]; first | exact hown | exact hown.out
          have VN2 : Hid (New w w5) := Kept.of_own VN.out VO.out (by first | exact hgr | exact hgr.out)
          clear hown hgr LB d0
          go_wp2
          go_roundw
          case rel => exact ⟨3, A5, c5, by omega, by first | rfl | trivial, by first | rfl | trivial, VO2, VN2⟩
          case measure => simp [intOf]
        · rw [show sum3 3 = 13 from rfl]
          go_wp2
          go_ret
          exact ⟨A, c, rfl, VO, VN⟩

end Go.Proofs.YtgfdiboaiifdnaaGreat
