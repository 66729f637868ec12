/-
  Contracts of the reference's deeds: a mask's bit, what is struck.
-/
import Derived.Test.YtfhngcnphcjmgaaRf
namespace Go.Proofs.Ytfhngcnphcjmgaa
open Go.ChangeShapes Go.WideShapes Go.ChangeAt Go.RowKit

set_option maxRecDepth 100000 in
theorem rBit_any (A : Option Addr) (m c : Nat) (ml : List Nat) (a k : Nat) (w : World) (hA : Bts w A m ml) (hm : m ≤ 140737488351232) (hk : k < 8) (ha : a ≤ 524288) (b : Bool) (hb : (maskF ml a).testBit k = b) :
    Calls Try.prog 106 #[.slice A m c, .int .i64 ((8 * a + k : Nat) : Int)] w fun e w' => e = .returned (.bool b) ∧ w = w' := by
  by_cases h0 : m = 0
  · subst h0
    obtain rfl : ml = [] := List.eq_nil_of_length_eq_zero hA.1
    have e : b = false := by rw [← hb]; show (0 : Nat).testBit k = false; simp
    subst e
    clear hA hb
    go_enter Try.func106, Try.ntmps106
    go_wp2
    go_ret
    exact ⟨rfl, rfl⟩
  · obtain ⟨q, hq⟩ : ∃ q, q = a % m := ⟨_, rfl⟩
    have hqm : q < m := by rw [hq]; exact Nat.mod_lt _ (by omega)
    obtain ⟨g, o, x, rfl, hx, hxb, hc⟩ := hA.at_ hqm
    have hmf : maskF ml a = x := by
      unfold maskF
      rw [hA.1, ← hq, List.getD_eq_getElem?_getD, hx]
      rfl
    rw [hmf] at hb
    have hr : (8 * a + k) % (8 * m) = 8 * q + k := by
      rw [hq]
      have h1 := Nat.mod_add_div a m
      have h2 : 8 * a + k = (8 * (a % m) + k) + (8 * m) * (a / m) := by
        have : 8 * a = 8 * (a % m) + 8 * m * (a / m) := by
          conv => lhs; rw [← h1]
          rw [Nat.mul_add, Nat.mul_assoc]
        omega
      rw [h2, Nat.add_mul_mod_self_left]
      exact Nat.mod_eq_of_lt (by omega)
    obtain ⟨j, hj⟩ : ∃ j, j = 8 * a + k := ⟨_, rfl⟩
    obtain ⟨r, hrr⟩ : ∃ r, r = 8 * q + k := ⟨_, rfl⟩
    rw [← hj, ← hrr] at hr
    rw [← hj]
    have hj2 : j ≤ 4194312 := by omega
    have d1 : ((j : Int) % (8 * (m : Int))) = (r : Int) := by
      have h := congrArg (fun z : Nat => (z : Int)) hr
      simpa using h
    have d2 : ((r : Int) / 8) = (q : Int) := by omega
    have d3 : ((r : Int) % 8) = (k : Int) := by omega
    have hne : (m == 0) = false := beq_eq_false_iff_ne.2 h0
    have hne2 : ((m : Int) == 0) = false := beq_eq_false_iff_ne.2 (by omega)
    have hqi : (q : Int) < (m : Int) := by omega
    have hmi : (0 : Int) < 8 * (m : Int) := by omega
    have hr8 : r < 8 * m := by omega
    have hbit0 : ((x : Int) / 2 ^ k % 2) = if b = true then 1 else 0 := by
      have h1 := bit_two x k
      have e1 : ((x : Int) / 2 ^ k % 2) = ((x / 2 ^ k % 2 : Nat) : Int) := by rw [Int.natCast_emod, Int.natCast_ediv, Int.natCast_pow]; rfl
      rw [e1]
      cases b
      · rw [(bit_zero x k).2 hb]; rfl
      · rw [(bit_test x k).2 hb]; rfl
    have hbit : ((x : Int) / 2 ^ k).tmod 2 = if b = true then 1 else 0 := by
      rw [Int.tmod_eq_emod_of_nonneg (Int.ediv_nonneg (Int.natCast_nonneg _) (Int.le_of_lt (Int.pow_pos (by omega))))]
      exact hbit0
    clear hA hx hmf hb hr hj hrr hq h0 hbit0
    cases b
    all_goals
      simp only [if_true, Bool.false_eq_true, if_false] at hbit
      go_enter Try.func106, Try.ntmps106
      go_wp2
      go_ret
      exact ⟨rfl, rfl⟩

def rzHit : Value := .agg #[.int .i64 0, .bool false, .slice none 0 0]

/-- What asking the reference's chip leaves. -/
def RAskP (Q : Nat → Prop) (w : World) (g gc gb cc cb : Nat) (s2 : CSt) (w' : World) : Prop := (∃ Ah ch, RRep Q w' g gc gb cc cb Ah ch s2) ∧ Kept (· = g) w w'
def RAskS (Q : Nat → Prop) (w : World) (g gc gb cc cb : Nat) (s2 : CSt) (Am : Option Addr) (cm : Nat) (ml : List Nat) (w' : World) : Prop := (∃ Ah ch, RRep Q w' g gc gb cc cb Ah ch s2) ∧ Kept (· = g) w w' ∧ MaskAt Q w' gc Am cm ml

theorem rc_set9 (s : CSt) (gc cc gb cb : Nat) (Ah : Option Addr) (ch : Nat) : (rCells s gc cc gb cb Ah ch).set 9 (.int .i64 ((s.deeds : Int) + 1)) = rCells { s with deeds := s.deeds + 1 } gc cc gb cb Ah ch := by
  simp [rCells]
theorem rc_set7 (s : CSt) (gc cc gb cb : Nat) (Ah : Option Addr) (ch : Nat) : (rCells s gc cc gb cb Ah ch).set 7 (.int .i64 ((s.since : Int) + 1)) = rCells { s with since := s.since + 1 } gc cc gb cb Ah ch := by
  simp [rCells]
theorem rc_set7z (s : CSt) (gc cc gb cb : Nat) (Ah : Option Addr) (ch : Nat) : (rCells s gc cc gb cb Ah ch).set 7 (.int .i64 0) = rCells { s with since := 0 } gc cc gb cb Ah ch := by
  simp [rCells]
theorem rc_set6 (s : CSt) (gc cc gb cb : Nat) (Ah Ah' : Option Addr) (ch ch' : Nat) (t : List Hit) (n : Nat) (hn : t.length = n) : (rCells s gc cc gb cb Ah ch).set 6 (.slice Ah' n ch') = rCells { s with hits := t } gc cc gb cb Ah' ch' := by
  subst hn
  simp [rCells]
theorem rc_set8 (s : CSt) (gc cc gb cb : Nat) (Ah : Option Addr) (ch : Nat) : (rCells s gc cc gb cb Ah ch).set 8 (.bool true) = rCells { s with dead := true } gc cc gb cb Ah ch := by
  simp [rCells]

theorem rdeed1 {Q : Nat → Prop} {w : World} {g gc gb cc cb : Nat} {Ah : Option Addr} {ch : Nat} {s : CSt} (h : RRep Q w g gc gb cc cb Ah ch s) (hd : s.deeds < 4611686018427387904) :
    RRep Q (w.setCell ⟨g, 9, none⟩ (.int .i64 ((s.deeds : Int) + 1))) g gc gb cc cb Ah ch { s with deeds := s.deeds + 1 } := by
  have hb := h.chip.put 9 (.int .i64 ((s.deeds : Int) + 1))
  rw [rc_set9] at hb
  exact h.setChip (Kept.set1 w g 9 _) _ _ _ { h.ok with deeds := hd } rfl rfl h.hcap h.hits hb

set_option maxRecDepth 100000 in
set_option maxHeartbeats 1600000 in
theorem rStruck_none (Q : Nat → Prop) (g gc gb cc cb : Nat) (Ah : Option Addr) (ch : Nat) (s : CSt) (w : World) (h : RRep Q w g gc gb cc cb Ah ch s) (hd : s.deeds < 4611686018427387904) (hh : s.hits = []) :
    Calls Try.prog 105 #[.pointer (some ⟨g, 0, none⟩)] w fun e w' => e = .returned (.tuple #[.agg #[.int .i64 0, .bool false, .slice none 0 0], .bool false]) ∧ RAskP Q w g gc gb cc cb { s with deeds := s.deeds + 1 } w' := by
  have c9 := h.c9
  have c6 := h.c6
  rw [hh] at c6
  simp only [List.length_nil] at c6
  have f9 := h.chip.free 9
  have hlt := h.chip.lt
  have hdi : (s.deeds : Int) < 4611686018427387904 := by omega
  have H0 := Lib.hid h
  have HD := Lib.hid hd
  clear h hh hd
  go_enter Try.func105, Try.ntmps105
  go_wp2
  refine bodyPost_ret (v := .tuple #[.agg #[.int .i64 0, .bool false, .slice none 0 0], .bool false]) (by simp [results, Try.results105, go_sem]) rfl ⟨rfl, ?_⟩
  exact ⟨⟨_, _, (rdeed1 H0.out HD.out).new ((Kept.refl _ _).alloc _)⟩, (Kept.set1 w g 9 _).alloc _⟩

theorem RRep.set3 {Q : Nat → Prop} {w : World} {g gc gb cc cb : Nat} {Ah : Option Addr} {ch : Nat} {s : CSt} (h : RRep Q w g gc gb cc cb Ah ch s) (B : Nat) (hB : ¬ Q B) (a b c : Value) : RRep Q (((w.setCell ⟨B, 0, none⟩ a).setCell ⟨B, 1, none⟩ b).setCell ⟨B, 2, none⟩ c) g gc gb cc cb Ah ch s :=
  h.kept (kept_set3 w B a b c) fun k hk e => hB (by rw [← e]; exact hk)
theorem Kept.set3new {w0 w : World} {S : Nat → Prop} (h : Kept S w0 w) (B : Nat) (hB : w0.heap.size ≤ B) (a b c : Value) : Kept S w0 (((w.setCell ⟨B, 0, none⟩ a).setCell ⟨B, 1, none⟩ b).setCell ⟨B, 2, none⟩ c) :=
  h.trans (kept_set3 w B a b c) fun i hi e => by omega
theorem RRep.put7 {Q : Nat → Prop} {w : World} {g gc gb cc cb : Nat} {Ah : Option Addr} {ch : Nat} {s : CSt} (h : RRep Q w g gc gb cc cb Ah ch s) (hs : s.since < 9223372036854775807) :
    RRep Q (w.setCell ⟨g, 7, none⟩ (.int .i64 ((s.since : Int) + 1))) g gc gb cc cb Ah ch { s with since := s.since + 1 } := by
  have hb := h.chip.put 7 (.int .i64 ((s.since : Int) + 1))
  rw [rc_set7] at hb
  exact h.setChip (Kept.set1 w g 7 _) _ _ _ { h.ok with since := hs } rfl rfl h.hcap h.hits hb
theorem RRep.put7z {Q : Nat → Prop} {w : World} {g gc gb cc cb : Nat} {Ah : Option Addr} {ch : Nat} {s : CSt} (h : RRep Q w g gc gb cc cb Ah ch s) :
    RRep Q (w.setCell ⟨g, 7, none⟩ (.int .i64 0)) g gc gb cc cb Ah ch { s with since := 0 } := by
  have hb := h.chip.put 7 (.int .i64 0)
  rw [rc_set7z] at hb
  exact h.setChip (Kept.set1 w g 7 _) _ _ _ { h.ok with since := Nat.zero_le _ } rfl rfl h.hcap h.hits hb
theorem RRep.put6 {Q : Nat → Prop} {w : World} {g gc gb cc cb : Nat} {Ah : Option Addr} {ch : Nat} {s : CSt} (h : RRep Q w g gc gb cc cb Ah ch s) (Ah' : Option Addr) (ch' n : Nat) (t : List Hit) (hn : t.length = n) (hc : n ≤ ch' ∧ ch' ≤ maxLen) (hok : ∀ x ∈ t, HitOk x) (hh : HitsT Q w gc Ah' t) :
    RRep Q (w.setCell ⟨g, 6, none⟩ (.slice Ah' n ch')) g gc gb cc cb Ah' ch' { s with hits := t } := by
  have hb := h.chip.put 6 (.slice Ah' n ch')
  rw [rc_set6 (hn := hn)] at hb
  exact h.setChip (Kept.set1 w g 6 _) _ _ _ { h.ok with hits := hok } rfl rfl (by show t.length ≤ _ ∧ _; rw [hn]; exact hc) hh hb
theorem RRep.put8 {Q : Nat → Prop} {w : World} {g gc gb cc cb : Nat} {Ah : Option Addr} {ch : Nat} {s : CSt} (h : RRep Q w g gc gb cc cb Ah ch s) :
    RRep Q (w.setCell ⟨g, 8, none⟩ (.bool true)) g gc gb cc cb Ah ch { s with dead := true } := by
  have hb := h.chip.put 8 (.bool true)
  rw [rc_set8] at hb
  exact h.setChip (Kept.set1 w g 8 _) _ _ _ { h.ok with } rfl rfl h.hcap h.hits hb

set_option maxRecDepth 100000 in
set_option maxHeartbeats 1600000 in
theorem rStruck_not (Q : Nat → Prop) (g gc gb cc cb gh oh : Nat) (ch : Nat) (s : CSt) (after : Nat) (w : World) (h : RRep Q w g gc gb cc cb (some ⟨gh, oh, none⟩) ch s) (hd : s.deeds < 4611686018427387904) (h0 : 0 < s.hits.length) (hc0 : w.cell? ⟨gh, oh, none⟩ = some (.int .i64 (after : Nat))) (hne : gh ≠ g) (hlt2 : s.since < after) (ha : after ≤ 9223372036854775807) :
    Calls Try.prog 105 #[.pointer (some ⟨g, 0, none⟩)] w fun e w' => e = .returned (.tuple #[.agg #[.int .i64 0, .bool false, .slice none 0 0], .bool false]) ∧ RAskP Q w g gc gb cc cb { s with deeds := s.deeds + 1, since := s.since + 1 } w' := by
  have c9 := h.c9
  have c7 := h.c7
  have c6 := h.c6
  have f9 := h.chip.free 9
  have f7 := h.chip.free 7
  have hlt := h.chip.lt
  have hgh : gh < w.heap.size := World.block_lt_of_cell? w _ hc0
  have hdi : (s.deeds : Int) < 4611686018427387904 := by omega
  have hne1 : (s.hits.length == 0) = false := beq_eq_false_iff_ne.2 (by omega)
  have hne2 : ((s.hits.length : Int) == 0) = false := beq_eq_false_iff_ne.2 (by omega)
  have hlti : (s.since : Int) < (after : Int) := by omega
  have hn1 : (0 : Int) < (s.hits.length : Int) := by omega
  have hne3 : ¬ gh = g := hne
  have hne4 : ¬ g = gh := fun e => hne e.symm
  have H0 := Lib.hid h
  have HD := Lib.hid hd
  generalize hL : s.hits.length = L at *
  clear h hd hL hne
  go_enter Try.func105, Try.ntmps105
  go_wp2
  go_quiet (fail)
  go_wp2
  refine bodyPost_ret (v := .tuple #[.agg #[.int .i64 0, .bool false, .slice none 0 0], .bool false]) (by simp [results, Try.results105, go_sem]) rfl ⟨rfl, ?_⟩
  have h1 := (((rdeed1 H0.out HD.out).new ((Kept.refl _ _).alloc (.cells #[.int .i64 0, .bool false, .slice none 0 0] 52))).drewN nq).put7 (by show s.since < _; omega)
  have hB : ¬ Q w.heap.size := fun hq => by have := H0.out.low _ hq; omega
  exact ⟨⟨_, _, h1.set3 _ hB _ _ _⟩, ((((Kept.set1 w g 9 _).alloc _).drewN nq).setCell (p := ⟨g, 7, none⟩) (fun _ => rfl) _).set3new _ (Nat.le_refl _) _ _ _⟩

theorem rstruck_end {Q : Nat → Prop} {w : World} {g gc gb cc cb gh oh ch : Nat} {s : CSt} (h : RRep Q w g gc gb cc cb (some ⟨gh, oh, none⟩) ch s) (hd : s.deeds < 4611686018427387904) (t : List Hit) (L : Nat) (hL : t.length = L) (A' : Option Addr) (ch' : Nat) (hcap : L ≤ ch' ∧ ch' ≤ maxLen) (hok : ∀ y ∈ t, HitOk y) (hT : HitsT Q w gc A' t)
    (Am : Option Addr) (cm : Nat) (ml : List Nat) (hm : MaskAt Q w gc Am cm ml) (o o' : Obj) (q : Nat) (a b c : Value) :
    RAskS Q w g gc gb cc cb { s with deeds := s.deeds + 1, hits := t, since := 0 } Am cm ml
      ((((((((((w.setCell ⟨g, 9, none⟩ (.int .i64 ((s.deeds : Int) + 1))).alloc o).drewN q).setCell ⟨g, 6, none⟩ (.slice A' L ch')).setCell ⟨g, 7, none⟩ (.int .i64 0)).setCell ⟨w.heap.size, 0, none⟩ a).setCell ⟨w.heap.size, 1, none⟩ b).setCell ⟨w.heap.size, 2, none⟩ c).alloc o')) := by
  have k1 : Kept (· = g) w (((w.setCell ⟨g, 9, none⟩ (.int .i64 ((s.deeds : Int) + 1))).alloc o).drewN q) := ((Kept.set1 w g 9 _).alloc _).drewN q
  have h1 : RRep Q (((w.setCell ⟨g, 9, none⟩ (.int .i64 ((s.deeds : Int) + 1))).alloc o).drewN q) g gc gb cc cb _ ch { s with deeds := s.deeds + 1 } := ((rdeed1 h hd).new ((Kept.refl _ _).alloc o)).drewN q
  have hT1 : HitsT Q (((w.setCell ⟨g, 9, none⟩ (.int .i64 ((s.deeds : Int) + 1))).alloc o).drewN q) gc A' t := hT.kept k1 (fun b _ hb => hb.ne_of h.chip.at_ (by decide)) (fun b _ _ hb => hb.ne_of h.chip.at_ (by decide)) (fun _ hb _ => hb)
  have hB : ¬ Q w.heap.size := fun hq => by have := h.low _ hq; omega
  have h2 := ((h1.put6 A' ch' L t hL hcap hok hT1).put7z.set3 w.heap.size hB a b c).new ((Kept.refl _ _).alloc o')
  have k2 := ((((k1.setCell (p := ⟨g, 6, none⟩) (fun _ => rfl) (.slice A' L ch')).setCell (p := ⟨g, 7, none⟩) (fun _ => rfl) (.int .i64 0)).set3new w.heap.size (Nat.le_refl _) a b c)).alloc o'
  exact ⟨⟨_, _, h2⟩, k2, hm.kept k2 (fun b _ _ hb => hb.ne_of h.chip.at_ (by decide)) (fun _ hb _ => hb)⟩

set_option maxRecDepth 100000 in
set_option maxHeartbeats 1600000 in
theorem rStruck_yes (Q : Nat → Prop) (g gc gb cc cb gh oh : Nat) (ch : Nat) (s : CSt) (x : Hit) (t : List Hit) (Am : Option Addr) (cm : Nat) (w : World) (h : RRep Q w g gc gb cc cb (some ⟨gh, oh, none⟩) ch s) (hd : s.deeds < 4611686018427387904) (hx : s.hits = x :: t) (hc0 : w.cell? ⟨gh, oh, none⟩ = some (.int .i64 (x.after : Nat))) (hc1 : w.cell? ⟨gh, oh + 1, none⟩ = some (.bool x.fails)) (hc2 : w.cell? ⟨gh, oh + 2, none⟩ = some (.slice Am x.mask.length cm)) (hm : MaskAt Q w gc Am cm x.mask)
    (hne : gh ≠ g) (hlt2 : ¬ s.since < x.after) :
    Calls Try.prog 105 #[.pointer (some ⟨g, 0, none⟩)] w fun e w' => e = .returned (.tuple #[.agg #[.int .i64 (x.after : Nat), .bool x.fails, .slice Am x.mask.length cm], .bool true]) ∧ RAskS Q w g gc gb cc cb { s with deeds := s.deeds + 1, hits := t, since := 0 } Am cm x.mask w' := by
  have c9 := h.c9
  have c7 := h.c7
  have c6 := h.c6
  have f9 := h.chip.free 9
  have f7 := h.chip.free 7
  have f6 := h.chip.free 6
  have hlt := h.chip.lt
  have hgh : gh < w.heap.size := World.block_lt_of_cell? w _ hc0
  have hdi : (s.deeds : Int) < 4611686018427387904 := by omega
  have hl1 : s.hits.length = t.length + 1 := by rw [hx]; simp
  rw [hl1] at c6
  have hcp := h.hcap
  rw [hl1] at hcp
  have hcp1 := hcp.1
  have hcp2 := hcp.2
  unfold maxLen at hcp2
  have hlti : ¬ (s.since : Int) < (x.after : Int) := by omega
  have hne3 : ¬ gh = g := hne
  have hne4 : ¬ g = gh := fun e => hne e.symm
  have H0 := Lib.hid h
  have HD := Lib.hid hd
  have HX := Lib.hid hx
  have HM := Lib.hid hm
  have h0 : 0 < s.hits.length := by omega
  have hT : ∀ A', (0 < t.length → A' = some ⟨gh, oh + 3, none⟩) → HitsT Q w gc A' t := fun A' hA ht0 => by
    obtain ⟨g1, o1, e1, hq, hat, hc⟩ := h.hits h0
    injection e1 with e1
    injection e1 with e1 e2 _
    subst e1 e2
    refine ⟨gh, oh + 3, hA ht0, hq, hat, fun i y hy => ?_⟩
    have := hc (i + 1) y (by rw [hx]; simpa using hy)
    rw [show oh + 3 * (i + 1) = oh + 3 + 3 * i from by omega] at this
    exact this
  have HT := Lib.hid hT
  have HOk := Lib.hid (show ∀ y ∈ t, HitOk y from fun y hy => h.ok.hits y (by rw [hx]; exact List.mem_cons_of_mem _ hy))
  clear hT
  generalize hL : t.length = L at *
  have HL := Lib.hid hL
  generalize x.after = xa at *
  generalize x.fails = xf at *
  generalize x.mask.length = xm at *
  have hne1 : (L + 1 == 0) = false := beq_eq_false_iff_ne.2 (by omega)
  have hne2 : ((L : Int) + 1 == 0) = false := beq_eq_false_iff_ne.2 (by omega)
  have hn1 : (0 : Int) < (L : Int) + 1 := by omega
  have hn2 : (1 : Int) ≤ (L : Int) + 1 := by omega
  clear h hd hL hne hx hm h0 hl1 hcp
  by_cases hc1' : ch = 1
  · have hL0 : L = 0 := by omega
    subst hc1' hL0
    go_enter Try.func105, Try.ntmps105
    go_wp2
    go_quiet (fail)
    go_wp2
    refine bodyPost_ret (v := .tuple #[.agg #[.int .i64 (xa : Nat), .bool xf, .slice Am xm cm], .bool true]) (by simp [results, Try.results105, go_sem]) rfl ⟨rfl, ?_⟩
    exact rstruck_end H0.out HD.out t 0 HL.out _ 0 ⟨Nat.le_refl _, by simp⟩ HOk.out (HT.out _ (fun h => absurd h (by omega))) Am cm x.mask HM.out _ _ nq _ _ _
  · have hc3 : ¬ (ch : Int) = 1 := by omega
    go_enter Try.func105, Try.ntmps105
    go_wp2
    go_quiet (fail)
    go_wp2
    refine bodyPost_ret (v := .tuple #[.agg #[.int .i64 (xa : Nat), .bool xf, .slice Am xm cm], .bool true]) (by simp [results, Try.results105, go_sem]) rfl ⟨rfl, ?_⟩
    exact rstruck_end H0.out HD.out t L HL.out _ (ch - 1) ⟨by omega, by unfold maxLen; omega⟩ HOk.out (HT.out _ (fun _ => rfl)) Am cm x.mask HM.out _ _ nq _ _ _
end Go.Proofs.Ytfhngcnphcjmgaa
