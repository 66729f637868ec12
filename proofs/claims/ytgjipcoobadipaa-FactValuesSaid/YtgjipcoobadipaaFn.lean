/-
  Contracts: what values say, on both sides; two nodes compared.
-/
import Derived.Test.YtgjipcoobadipaaFm
import Derived.Handy
import Derived.StillTailTactics
namespace Go.Proofs.Ytgjipcoobadipaa
open Go.RowKit

/-- Are bytes a node's value? -/
def isNV (l : List Nat) : Prop := l.length = 4 ∧ (l.getD 0 0 = 1 ∨ l.getD 0 0 = 2)
instance (l : List Nat) : Decidable (isNV l) := by unfold isNV; infer_instance
def nodK (l : List Nat) : Nat := if isNV l then l.getD 0 0 else 0
def nodN (l : List Nat) : Nat := if isNV l then l.getD 1 0 else 0
def nodZ (l : List Nat) : Nat := if isNV l then l.getD 2 0 + 256 * l.getD 3 0 else 0
def nodE (l : List Nat) : Int := if isNV l then 0 else 5
def entV (l : List Nat) : Nat := if l.length = 2 then l.getD 0 0 + 256 * l.getD 1 0 else 0
def entE (l : List Nat) : Int := if l.length = 2 ∧ l.getD 0 0 + 256 * l.getD 1 0 ≠ 0 then 0 else 5

def NodP (w : World) (l : List Nat) (e : Ending) (w' : World) : Prop :=
  e = .returned (.tuple #[.agg #[.int .u8 (nodK l : Nat), .int .i64 (nodN l : Nat), .int .i64 (nodZ l : Nat)], .int .i64 (nodE l)]) ∧ New w w'
def EntP (w : World) (l : List Nat) (e : Ending) (w' : World) : Prop :=
  e = .returned (.tuple #[.int .i64 (entV l : Nat), .int .i64 (entE l)]) ∧ New w w'

theorem NodP.bad {w w' : World} {l : List Nat} (h : ¬ isNV l) (k : New w w') : NodP w l (.returned (.tuple #[.agg #[.int .u8 0, .int .i64 0, .int .i64 0], .int .i64 5])) w' := by
  unfold NodP nodK nodN nodZ nodE
  rw [if_neg h, if_neg h, if_neg h, if_neg h]
  exact ⟨rfl, k⟩
theorem NodP.ok {w w' : World} {a b c d : Nat} (h : a = 1 ∨ a = 2) (k : New w w') (z : Int) (hz : z = (c : Int) + 256 * (d : Int)) : NodP w [a, b, c, d] (.returned (.tuple #[.agg #[.int .u8 (a : Nat), .int .i64 (b : Nat), .int .i64 z], .int .i64 0])) w' := by
  have hi : isNV [a, b, c, d] := ⟨rfl, h⟩
  subst hz
  unfold NodP nodK nodN nodZ nodE
  rw [if_pos hi, if_pos hi, if_pos hi, if_pos hi]
  exact ⟨rfl, k⟩

theorem node_store {w w' : World} {g k0 : Nat} {l0 z0 : Int} {k : Nat} {l z : Int} (h : Blk w g 44 [.int .u8 (k0 : Nat), .int .i64 l0, .int .i64 z0])
    (hw : w' = ((w.setCell ⟨g, 0, none⟩ (.int .u8 (k : Nat))).setCell ⟨g, 1, none⟩ (.int .i64 l)).setCell ⟨g, 2, none⟩ (.int .i64 z)) :
    Blk w' g 44 [.int .u8 (k : Nat), .int .i64 l, .int .i64 z] ∧ Kept (· = g) w w' := by
  subst hw
  exact ⟨((h.put 0 (.int .u8 (k : Nat))).put 1 (.int .i64 l)).put 2 (.int .i64 z), ((Kept.set1 w g _ _).setCell (p := ⟨g, _, none⟩) (fun _ => rfl) _).setCell (p := ⟨g, _, none⟩) (fun _ => rfl) _⟩
theorem ncells3 {w : World} {g k : Nat} {l z : Int} (h : Blk w g 44 [.int .u8 (k : Nat), .int .i64 l, .int .i64 z]) :
    w.cell? ⟨g, 0, none⟩ = some (.int .u8 (k : Nat)) ∧ w.cell? ⟨g, 1, none⟩ = some (.int .i64 l) ∧ w.cell? ⟨g, 2, none⟩ = some (.int .i64 z) := ⟨h.cell 0, h.cell 1, h.cell 2⟩
theorem nfree3 {w : World} {g k : Nat} {l z : Int} (h : Blk w g 44 [.int .u8 (k : Nat), .int .i64 l, .int .i64 z]) :
    w.frozen? ⟨g, 0, none⟩ = false ∧ w.frozen? ⟨g, 1, none⟩ = false ∧ w.frozen? ⟨g, 2, none⟩ = false := ⟨h.free 0, h.free 1, h.free 2⟩

theorem four {l : List Nat} (h : l.length = 4) : ∃ a b c d, l = [a, b, c, d] := by
  match l, h with
  | [a, b, c, d], _ => exact ⟨a, b, c, d, rfl⟩
theorem two_ {l : List Nat} (h : l.length = 2) : ∃ a b, l = [a, b] := by
  match l, h with
  | [a, b], _ => exact ⟨a, b, rfl⟩

set_option maxRecDepth 100000 in
set_option maxHeartbeats 1600000 in
theorem node_any (A : Option Addr) (n c : Nat) (l : List Nat) (w : World) (hb : Bts w A n l) (hn : n ≤ 140737488351232) :
    Calls Try.prog 30 #[.slice A n c] w (NodP w l) := by
  have hl := hb.1
  by_cases h4 : n = 4
  · subst h4
    obtain ⟨x0, x1, x2, x3, rfl⟩ := four hl
    obtain ⟨g, o, y, rfl, hy, hyb, hc⟩ := hb.at_ (k := 0) (by omega)
    obtain rfl : x0 = y := by simpa using hy
    have HB := Lib.hid hb
    rw [Nat.add_zero] at hc
    have c0 : (w.alloc (.cells #[.int .u8 0, .int .i64 0, .int .i64 0] 44)).cell? ⟨g, o, none⟩ = some (.int .u8 (x0 : Nat)) := by
      have := (Kept.refl (fun _ => False) w).alloc (.cells #[.int .u8 0, .int .i64 0, .int .i64 0] 44)
      exact this.cell hc id
    have hg : g < w.heap.size := World.block_lt_of_cell? w _ hc
    have B0 : Hid (Blk (w.alloc (.cells #[.int .u8 ((0 : Nat) : Int), .int .i64 0, .int .i64 0] 44)) w.heap.size 44 [.int .u8 ((0 : Nat) : Int), .int .i64 0, .int .i64 0]) := Blk.made w _ _
    clear hb hl hy
    by_cases hk : x0 = 1 ∨ x0 = 2
    · have HK : Hid (decide (x0 = 1 ∨ x0 = 2) = true) := decide_eq_true hk
      have HKK := Lib.hid hk
      clear hk
      go_enter Try.func30, Try.ntmps30
      go_wp2_with fail
      refine (isKind_any x0 _).mono ?_
      rw [HK.out]
      rintro e w1 ⟨rfl, rfl⟩
      go_wp2_with fail
      refine (new_any _ 4 c [x0, x1, x2, x3] _ (HB.out.new ((Kept.refl _ _).alloc _)) (by omega) (fun h => by cases h)).mono ?_
      rintro e w2 ⟨gr, rfl, r2, hg2, k2⟩
      have R2 := Lib.hid r2.any
      have B2 : Hid (Blk w2 w.heap.size 44 [.int .u8 ((0 : Nat) : Int), .int .i64 0, .int .i64 0]) := B0.out.kept k2 id
      have K2 : Hid (New w w2) := ((Kept.refl _ _).alloc _).new k2
      rw [World.size_alloc] at hg2
      have hx1 : x1 < 256 := HB.out.2.1 _ (by simp)
      have hx2 : x2 < 256 := HB.out.2.1 _ (by simp)
      have hx3 : x3 < 256 := HB.out.2.1 _ (by simp)
      generalize hgw : w.heap.size = gw at *
      have HGW := Lib.hid hgw
      clear r2 k2 B0 c0 hc hgw
      go_wp2_with fail
      refine (etake_ok gr _ 1 _ R2.out sz1 (by simp)).mono ?_
      rintro e w3 ⟨rfl, r3, k3⟩
      have R3 : Hid (Rdr Any w3 gr [x1, x2, x3]) := r3
      have B3 := Lib.hid (B2.out.kept k3 (by omega))
      have K3 : Hid (New w w3) := K2.out.trans k3 fun i hi e => by have := HGW.out; omega
      rw [show leV (([x0, x1, x2, x3] : List Nat).take 1) = x0 from by simp [leV]]
      clear r3 k3 R2 B2 K2
      go_wp2_with fail
      refine (etake_ok gr _ 1 _ R3.out sz1 (by simp)).mono ?_
      rintro e w4 ⟨rfl, r4, k4⟩
      have R4 : Hid (Rdr Any w4 gr [x2, x3]) := r4
      have B4 := Lib.hid (B3.out.kept k4 (by omega))
      have K4 : Hid (New w w4) := K3.out.trans k4 fun i hi e => by have := HGW.out; omega
      rw [show leV (([x1, x2, x3] : List Nat).take 1) = x1 from by simp [leV]]
      clear r4 k4 R3 B3 K3
      go_wp2_with fail
      refine (etake_ok gr _ 2 _ R4.out sz2 (by simp)).mono ?_
      rintro e w5 ⟨rfl, r5, k5⟩
      have B5 := Lib.hid (B4.out.kept k5 (by omega))
      have K5 : Hid (New w w5) := K4.out.trans k5 fun i hi e => by have := HGW.out; omega
      rw [show leV (([x2, x3] : List Nat).take 2) = x2 + 256 * x3 from by simp [leV]]
      have hz : x2 + 256 * x3 < 65536 := by omega
      have HZ : Hid (((x2 + 256 * x3 : Nat) : Int) = (x2 : Int) + 256 * (x3 : Int)) := by show _ = _; omega
      generalize x2 + 256 * x3 = z at *
      clear r5 k5 R4 B4 K4 hx2 hx3
      obtain ⟨q0, q1, q2⟩ := ncells3 B5.out
      obtain ⟨f0, f1, f2⟩ := nfree3 B5.out
      obtain ⟨w9, hw9⟩ : ∃ w9, w9 = ((w5.setCell ⟨gw, 0, none⟩ (.int .u8 (x0 : Nat))).setCell ⟨gw, 1, none⟩ (.int .i64 (x1 : Nat))).setCell ⟨gw, 2, none⟩ (.int .i64 (z : Nat)) := ⟨_, rfl⟩
      obtain ⟨bs, ks⟩ := node_store B5.out hw9
      have E9 : Hid (NodP w [x0, x1, x2, x3] (.returned (.tuple #[.agg #[.int .u8 (x0 : Nat), .int .i64 (x1 : Nat), .int .i64 (z : Nat)], .int .i64 0])) w9) :=
        NodP.ok HKK.out (K5.out.trans ks fun i hi e => by have := HGW.out; omega) _ HZ.out
      obtain ⟨d0, d1, d2⟩ := ncells3 bs
      have HW9 := Lib.hid hw9
      clear hw9 bs ks
      go_wp2
      rw [← HW9.out]
      clear HW9 q0 q1 q2 f0 f1 f2
      (try simp only [Exit.inBlock, Exit.then])
      refine bodyPost_ret (by simp [results, Try.results30, go_sem, d0, d1, d2]; try rfl) rfl ?_
      exact E9.out
    · have HK : Hid (decide (x0 = 1 ∨ x0 = 2) = false) := decide_eq_false hk
      have HN : Hid (¬ isNV [x0, x1, x2, x3]) := fun h => hk h.2
      clear hk
      go_enter Try.func30, Try.ntmps30
      go_wp2_with fail
      refine (isKind_any x0 _).mono ?_
      rw [HK.out]
      rintro e w1 ⟨rfl, rfl⟩
      go_wp2
      go_returns
      exact NodP.bad HN.out (by repeat (first | exact Kept.refl _ _ | refine Kept.alloc ?_ _ | refine Kept.setCell ?_ (fun h => absurd h (by simp)) _))
  · have HN : Hid (¬ isNV l) := fun h => h4 (by rw [← hl]; exact h.1)
    have d : ((n : Int) != 4) = true := bne_iff_ne.2 (by omega)
    clear hb hl h4
    go_enter Try.func30, Try.ntmps30
    go_wp2
    go_returns
    exact NodP.bad HN.out (by repeat (first | exact Kept.refl _ _ | refine Kept.alloc ?_ _ | refine Kept.setCell ?_ (fun h => absurd h (by simp)) _))

set_option maxRecDepth 100000 in
set_option maxHeartbeats 1600000 in
theorem rnode_any (A : Option Addr) (n c : Nat) (l : List Nat) (w : World) (hb : Bts w A n l) :
    Calls Try.prog 31 #[.slice A n c] w (NodP w l) := by
  have hl := hb.1
  by_cases h4 : n = 4
  · subst h4
    obtain ⟨x0, x1, x2, x3, rfl⟩ := four hl
    obtain ⟨g, o, y, rfl, hy, hyb, hc0⟩ := hb.at_ (k := 0) (by omega)
    obtain rfl : x0 = y := by simpa using hy
    obtain ⟨_, _, y1, e1, hy1, hyb1, hc1⟩ := hb.at_ (k := 1) (by omega)
    obtain ⟨_, _, y2, e2, hy2, hyb2, hc2⟩ := hb.at_ (k := 2) (by omega)
    obtain ⟨_, _, y3, e3, hy3, hyb3, hc3⟩ := hb.at_ (k := 3) (by omega)
    injection e1 with e1; injection e1 with e1 e1'; subst e1 e1'
    injection e2 with e2; injection e2 with e2 e2'; subst e2 e2'
    injection e3 with e3; injection e3 with e3 e3'; subst e3 e3'
    obtain rfl : x1 = y1 := by simpa using hy1
    obtain rfl : x2 = y2 := by simpa using hy2
    obtain rfl : x3 = y3 := by simpa using hy3
    rw [Nat.add_zero] at hc0
    have hg : g < w.heap.size := World.block_lt_of_cell? w _ hc0
    obtain ⟨w1, hw1⟩ : ∃ w1, w1 = w.alloc (.cells #[.int .u8 0, .int .i64 0, .int .i64 0] 44) := ⟨_, rfl⟩
    have n1 : New w w1 := by rw [hw1]; exact (Kept.refl _ _).alloc _
    have B1 : Hid (Blk w1 w.heap.size 44 [.int .u8 ((0 : Nat) : Int), .int .i64 0, .int .i64 0]) := by rw [hw1]; exact Blk.made w _ _
    have c0 : w1.cell? ⟨g, o, none⟩ = some (.int .u8 (x0 : Nat)) := n1.cell hc0 id
    have c1 : w1.cell? ⟨g, o + 1, none⟩ = some (.int .u8 (x1 : Nat)) := n1.cell hc1 id
    have c2 : w1.cell? ⟨g, o + 2, none⟩ = some (.int .u8 (x2 : Nat)) := n1.cell hc2 id
    have c3 : w1.cell? ⟨g, o + 3, none⟩ = some (.int .u8 (x3 : Nat)) := n1.cell hc3 id
    have N1 := Lib.hid n1
    have HW1 := Lib.hid hw1
    clear hb hl hy hy1 hy2 hy3 hc1 hc2 hc3 n1 hw1
    by_cases hk : x0 = 1 ∨ x0 = 2
    · have HKK := Lib.hid hk
      have hkk : ((x0 : Int) != 1) = false ∨ ((x0 : Int) != 1) = true ∧ ((x0 : Int) != 2) = false := by
        rcases hk with rfl | rfl
        · exact .inl rfl
        · exact .inr ⟨rfl, rfl⟩
      have m1 : IntKind.i64.wrap (256 * (x3 : Int)) = 256 * (x3 : Int) := by rw [IntKind.wrap_i64]; omega
      have m2 : IntKind.i64.wrap ((x2 : Int) + 256 * (x3 : Int)) = (x2 : Int) + 256 * (x3 : Int) := by rw [IntKind.wrap_i64]; omega
      have FIN : Hid (∀ w9, w9 = ((w1.drew.setCell ⟨w.heap.size, 0, none⟩ (.int .u8 (x0 : Nat))).setCell ⟨w.heap.size, 1, none⟩ (.int .i64 (x1 : Nat))).setCell ⟨w.heap.size, 2, none⟩ (.int .i64 ((x2 : Int) + 256 * (x3 : Int))) →
          NodP w [x0, x1, x2, x3] (.returned (.tuple #[.agg #[.int .u8 (x0 : Nat), .int .i64 (x1 : Nat), .int .i64 ((x2 : Int) + 256 * (x3 : Int))], .int .i64 0])) w9 ∧ Blk w9 w.heap.size 44 [.int .u8 (x0 : Nat), .int .i64 (x1 : Nat), .int .i64 ((x2 : Int) + 256 * (x3 : Int))]) := by
        intro w9 hw9
        obtain ⟨bs, ks⟩ := node_store (B1.out.drew) hw9
        exact ⟨NodP.ok HKK.out (N1.out.drew.trans ks fun i hi e => by omega) _ rfl, bs⟩
      clear hk
      rcases hkk with d1 | ⟨d1, d2⟩
      all_goals
        go_enter Try.func31, Try.ntmps31
        go_wp2_with fail
        rw [← HW1.out]
        clear HW1 hc0
        generalize hgw : w.heap.size = gw at *
        clear hgw
        go_still_tail 18, (by kernel_rfl)
        change wpList _ _ _ _ _ w1.drew
        have B2 : Hid (Blk w1.drew gw 44 [.int .u8 ((0 : Nat) : Int), .int .i64 0, .int .i64 0]) := B1.out.drew
        clear c0 c1 c2 c3
        generalize w1.drew = w2 at *
        obtain ⟨q0, q1, q2⟩ := ncells3 B2.out
        obtain ⟨f0, f1, f2⟩ := nfree3 B2.out
        obtain ⟨w9, hw9⟩ : ∃ w9, w9 = ((w2.setCell ⟨gw, 0, none⟩ (.int .u8 (x0 : Nat))).setCell ⟨gw, 1, none⟩ (.int .i64 (x1 : Nat))).setCell ⟨gw, 2, none⟩ (.int .i64 ((x2 : Int) + 256 * (x3 : Int))) := ⟨_, rfl⟩
        obtain ⟨E, bs⟩ := FIN.out w9 hw9
        have E9 := Lib.hid E
        obtain ⟨z0, z1, z2⟩ := ncells3 bs
        have HW9 := Lib.hid hw9
        clear hw9 bs E FIN
        go_wp2
        rw [← HW9.out]
        clear HW9 q0 q1 q2 f0 f1 f2
        (try simp only [Exit.inBlock, Exit.then])
        refine bodyPost_ret (by simp [results, Try.results31, go_sem, z0, z1, z2]; try rfl) rfl ?_
        exact E9.out
    · have HN : Hid (¬ isNV [x0, x1, x2, x3]) := fun h => hk h.2
      have d1 : ((x0 : Int) != 1) = true := bne_iff_ne.2 (by omega)
      have d2 : ((x0 : Int) != 2) = true := bne_iff_ne.2 (by omega)
      clear hk
      go_enter Try.func31, Try.ntmps31
      go_wp2
      go_returns
      exact NodP.bad HN.out (by repeat (first | exact Kept.refl _ _ | refine Kept.alloc ?_ _ | refine Kept.setCell ?_ (fun h => absurd h (by simp)) _))
  · have HN : Hid (¬ isNV l) := fun h => h4 (by rw [← hl]; exact h.1)
    have d : ((n : Int) != 4) = true := bne_iff_ne.2 (by omega)
    clear hb hl h4
    go_enter Try.func31, Try.ntmps31
    go_wp2
    go_returns
    exact NodP.bad HN.out (by repeat (first | exact Kept.refl _ _ | refine Kept.alloc ?_ _ | refine Kept.setCell ?_ (fun h => absurd h (by simp)) _))

set_option maxRecDepth 100000 in
set_option maxHeartbeats 1600000 in
theorem entry_any (A : Option Addr) (n c : Nat) (l : List Nat) (w : World) (hb : Bts w A n l) (hn : n ≤ 140737488351232) :
    Calls Try.prog 32 #[.slice A n c] w (EntP w l) := by
  have hl := hb.1
  by_cases h2 : n = 2
  · subst h2
    obtain ⟨x0, x1, rfl⟩ := two_ hl
    obtain ⟨g, o, _, rfl, _, _, _⟩ := hb.at_ (k := 0) (by omega)
    have hx0 : x0 < 256 := hb.2.1 _ (by simp)
    have hx1 : x1 < 256 := hb.2.1 _ (by simp)
    have HB := Lib.hid hb
    clear hb hl
    go_enter Try.func32, Try.ntmps32
    go_wp2_with fail
    refine (new_any _ 2 c [x0, x1] _ HB.out (by omega) (fun h => by cases h)).mono ?_
    rintro e w2 ⟨gr, rfl, r2, hg2, k2⟩
    have R2 := Lib.hid r2.any
    have K2 := Lib.hid k2
    clear r2 k2
    go_wp2_with fail
    refine (etake_ok gr _ 2 _ R2.out sz2 (by simp)).mono ?_
    rintro e w3 ⟨rfl, r3, k3⟩
    have K3 : Hid (New w w3) := K2.out.trans k3 fun i hi e => by omega
    rw [show leV (([x0, x1] : List Nat).take 2) = x0 + 256 * x1 from by simp [leV]]
    have HZ : Hid (x0 + 256 * x1 = entV [x0, x1] ∧ x0 + 256 * x1 < 65536) := ⟨rfl, by omega⟩
    have HE : Hid (entE [x0, x1] = if x0 + 256 * x1 ≠ 0 then 0 else 5) := by
      show entE [x0, x1] = _
      unfold entE
      by_cases h : x0 + 256 * x1 = 0
      · rw [if_neg (fun hh => hh.2 h), if_neg (fun hh => hh h)]
      · rw [if_pos ⟨rfl, h⟩, if_pos h]
    generalize x0 + 256 * x1 = z at *
    have hz := HZ.out.2
    clear r3 k3 R2 K2
    go_wp2_with fail
    refine (isIno_any (z : Nat) _).mono ?_
    rintro e w4 ⟨rfl, rfl⟩
    by_cases h0 : z = 0
    · have E9 : Hid (EntP w [x0, x1] (.returned (.tuple #[.int .i64 0, .int .i64 5])) w3) := by
        refine ⟨?_, K3.out⟩
        rw [← HZ.out.1, HE.out, if_neg (fun hh => hh h0), h0]
        rfl
      rw [decide_eq_false (by omega)]
      clear h0 HZ HE
      go_wp2
      go_ret2
      exact E9.out
    · have E9 : Hid (EntP w [x0, x1] (.returned (.tuple #[.int .i64 (z : Nat), .int .i64 0])) w3) := by
        refine ⟨?_, K3.out⟩
        rw [← HZ.out.1, HE.out, if_pos h0]
      rw [decide_eq_true (by omega)]
      clear h0 HZ HE
      go_wp2
      go_ret2
      exact E9.out
  · have E9 : Hid (EntP w l (.returned (.tuple #[.int .i64 0, .int .i64 5])) w) := by
      refine ⟨?_, Kept.refl _ _⟩
      unfold entV entE
      rw [if_neg (by omega), if_neg (fun h => h2 (by rw [← hl]; exact h.1))]
      rfl
    have d : ((n : Int) != 2) = true := bne_iff_ne.2 (by omega)
    clear hb hl h2
    go_enter Try.func32, Try.ntmps32
    go_wp2
    go_ret2
    exact E9.out

set_option maxRecDepth 100000 in
set_option maxHeartbeats 1600000 in
theorem rentry_any (A : Option Addr) (n c : Nat) (l : List Nat) (w : World) (hb : Bts w A n l) :
    Calls Try.prog 33 #[.slice A n c] w (EntP w l) := by
  have hl := hb.1
  by_cases h2 : n = 2
  · subst h2
    obtain ⟨x0, x1, rfl⟩ := two_ hl
    obtain ⟨g, o, y, rfl, hy, hyb, hc0⟩ := hb.at_ (k := 0) (by omega)
    obtain rfl : x0 = y := by simpa using hy
    obtain ⟨_, _, y1, e1, hy1, hyb1, hc1⟩ := hb.at_ (k := 1) (by omega)
    injection e1 with e1; injection e1 with e1 e1'; subst e1 e1'
    obtain rfl : x1 = y1 := by simpa using hy1
    rw [Nat.add_zero] at hc0
    have m1 : IntKind.i64.wrap (256 * (x1 : Int)) = 256 * (x1 : Int) := by rw [IntKind.wrap_i64]; omega
    have m2 : IntKind.i64.wrap ((x0 : Int) + 256 * (x1 : Int)) = (x0 : Int) + 256 * (x1 : Int) := by rw [IntKind.wrap_i64]; omega
    have E0 : Hid (x0 = 0 → x1 = 0 → EntP w [x0, x1] (.returned (.tuple #[.int .i64 0, .int .i64 5])) w) := by
      intro h0 h1
      refine ⟨?_, Kept.refl _ _⟩
      subst h0 h1
      rfl
    have E1 : Hid (¬ (x0 = 0 ∧ x1 = 0) → ∀ q, EntP w [x0, x1] (.returned (.tuple #[.int .i64 ((x0 : Int) + 256 * (x1 : Int)), .int .i64 0])) (w.drewN q)) := by
      intro h q
      refine ⟨?_, (Kept.refl _ _).drewN q⟩
      have e1 : entE [x0, x1] = 0 := by unfold entE; rw [if_pos ⟨rfl, by show x0 + 256 * x1 ≠ 0; omega⟩]
      have e2 : entV [x0, x1] = x0 + 256 * x1 := rfl
      rw [e1, e2]
      congr 4
    clear hb hl hy hy1
    by_cases h0 : x0 = 0
    · have d0 : ((x0 : Int) == 0) = true := by rw [h0]; rfl
      by_cases h1 : x1 = 0
      · have d1 : ((x1 : Int) == 0) = true := by rw [h1]; rfl
        have E9 := Lib.hid (E0.out h0 h1)
        clear h0 h1 E0 E1
        go_enter Try.func33, Try.ntmps33
        go_wp2
        go_ret2
        exact E9.out
      · have d1 : ((x1 : Int) == 0) = false := beq_eq_false_iff_ne.2 (by omega)
        have E9 := Lib.hid (E1.out fun h => h1 h.2)
        clear h0 h1 E0 E1
        go_enter Try.func33, Try.ntmps33
        go_wp2_with fail
        go_quiet (fail)
        go_wp2
        go_ret2
        exact E9.out _
    · have d0 : ((x0 : Int) == 0) = false := beq_eq_false_iff_ne.2 (by omega)
      have E9 := Lib.hid (E1.out fun h => h0 h.1)
      clear h0 E0 E1
      go_enter Try.func33, Try.ntmps33
      go_wp2_with fail
      go_quiet (fail)
      go_wp2
      go_ret2
      exact E9.out _
  · have E9 : Hid (EntP w l (.returned (.tuple #[.int .i64 0, .int .i64 5])) w) := by
      refine ⟨?_, Kept.refl _ _⟩
      unfold entV entE
      rw [if_neg (by omega), if_neg (fun h => h2 (by rw [← hl]; exact h.1))]
      rfl
    have d : ((n : Int) != 2) = true := bne_iff_ne.2 (by omega)
    clear hb hl h2
    go_enter Try.func33, Try.ntmps33
    go_wp2
    go_ret2
    exact E9.out

theorem node_eql (k : Nat) (l z : Int) (w : World) :
    Sem.run Try.prog (binOp .eql 44 (.agg #[.int .u8 (k : Nat), .int .i64 l, .int .i64 z]) (.agg #[.int .u8 (k : Nat), .int .i64 l, .int .i64 z])) w = .ok (.bool true) w := by
  have hS : Try.prog.underlying 44 = some (.struct (Try.prog.fieldsOf 44)) := by kernel_rfl
  have hp : Try.prog.stoodInHeld 44 = false := by kernel_rfl
  rw [run_eql_struct, show (10000 : Nat) = 9999 + 1 from rfl, run_equalIn_agg w 9999 44 _ _ hS hp]
  simp only [Program.fieldsOf, Try.underlying44]
  go_simp
end Go.Proofs.Ytgjipcoobadipaa
