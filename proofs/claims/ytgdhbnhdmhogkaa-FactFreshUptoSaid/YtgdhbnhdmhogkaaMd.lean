/-
  Contracts over lists of facts: where a key stands; what is found.
-/
import Derived.Test.YtgdhbnhdmhogkaaMc
namespace Go.Proofs.Ytgdhbnhdmhogkaa
open Go.RowKit

/-- At which place a key's fact stands, or would; does it stand there? -/
def plN (l : List FT) (k : KY) : Nat := (l.takeWhile fun f => befK f.k k).length
def plB (l : List FT) (k : KY) : Bool := match l[plN l k]? with
  | some x => decide (x.k = k)
  | none => false

theorem plN_le (l : List FT) (k : KY) : plN l k ≤ l.length := by
  unfold plN
  induction l with
  | nil => simp
  | cons f r ih => rw [List.takeWhile_cons]; split <;> simp <;> omega
theorem plN_iff {l : List FT} (h : ordF l = true) (k : KY) {i : Nat} {x : FT} (hx : l[i]? = some x) : befK x.k k = decide (i < plN l k) := by
  induction l generalizing i with
  | nil => simp at hx
  | cons f r ih =>
    obtain ⟨h1, h2⟩ := ordF_cons.1 h
    unfold plN
    rw [List.takeWhile_cons]
    cases hf : befK f.k k with
    | true =>
      simp only [if_true, List.length_cons]
      cases i with
      | zero =>
        simp at hx
        subst hx
        rw [hf]
        simp
      | succ i =>
        rw [ih h2 (by simpa using hx)]
        unfold plN
        simp
    | false =>
      simp only [Bool.false_eq_true, if_false, List.length_nil, Nat.not_lt_zero, decide_false]
      cases i with
      | zero =>
        simp at hx
        subst hx
        exact hf
      | succ i =>
        cases hb : befK x.k k with
        | false => rfl
        | true => rw [befK_trans (h1 x (List.mem_of_getElem? (by simpa using hx))) hb] at hf; cases hf

def PlP (w : World) (l : List FT) (k : KY) (e : Ending) (w' : World) : Prop := e = .returned (.tuple #[.int .i64 (plN l k : Nat), .bool (plB l k)]) ∧ New w w'

set_option maxRecDepth 100000 in
set_option maxHeartbeats 3200000 in
theorem place_any (A : Option Addr) (n c : Nat) (es : List FE) (k : KY) (w : World) (h : FIn w A n es) (ho : ordF (fts es) = true) (hn : n ≤ maxLen) :
    Calls Try.prog 19 #[.slice A n c, .agg #[.int .i64 k.i, .int .u8 (k.t : Nat), .string k.n, .int .i64 k.c]] w (PlP w (fts es) k) := by
  have HL : Hid ((fts es).length = n) := by show _ = _; unfold fts; rw [List.length_map, h.len]
  have HI : Hid (∀ i x, (fts es)[i]? = some x → befK x.k k = decide (i < plN (fts es) k)) := fun i x hx => plN_iff ho k hx
  have HP : Hid (plN (fts es) k ≤ n) := by have := plN_le (fts es) k; rw [HL.out] at this; exact this
  have HF : Hid (plB (fts es) k = match (fts es)[plN (fts es) k]? with | some x => decide (x.k = k) | none => false) := rfl
  unfold PlP
  generalize plN (fts es) k = p at *
  generalize plB (fts es) k = q at *
  obtain ⟨w1, hw1⟩ : ∃ w1, w1 = w.alloc (.cells #[.int .i64 k.i, .int .u8 (k.t : Nat), .string k.n, .int .i64 k.c] 25) := ⟨_, rfl⟩
  have n1 : New w w1 := by rw [hw1]; exact (Kept.refl _ _).alloc _
  have BK : Hid (∀ u, New w1 u → Blk u w.heap.size 25 [.int .i64 k.i, .int .u8 (k.t : Nat), .string k.n, .int .i64 k.c]) := fun u hu => by rw [hw1] at hu; exact (Blk.made w _ _).kept hu id
  have H := Lib.hid (h.new n1)
  have N1 := Lib.hid n1
  have HW := Lib.hid hw1
  unfold maxLen at hn
  clear h ho n1 hw1
  go_enter Try.func19, Try.ntmps19
  go_wp2_with fail
  rw [← HW.out]
  clear HW
  generalize w.heap.size = gk at *
  go_loopw [6, 7] (fun x y wr => ∃ a b : Nat, a ≤ b ∧ b ≤ n ∧ x = .int .i64 a ∧ y = .int .i64 b ∧ Hid (a ≤ p ∧ p ≤ b) ∧ Hid (New w1 wr)) (fun x y _ => (intOf y).toNat - (intOf x).toNat)
  case atStart => exact ⟨0, n, Nat.zero_le _, Nat.le_refl _, rfl, rfl, ⟨Nat.zero_le _, HP.out⟩, Kept.refl _ _⟩
  case round =>
    obtain ⟨a, b, hab, hbn, rfl, rfl, HAB, HN⟩ := hrel
    by_cases hlt : a < b
    · obtain ⟨m, hm⟩ : ∃ m : Nat, m = a + (b - a) / 2 := ⟨_, rfl⟩
      have hm1 : a ≤ m := by omega
      have hm2 : m < b := by omega
      obtain ⟨g, o, x, eA, hx, _, x0, x1, x2, x3, _⟩ := (H.out.new HN.out).at_ (i := m) (by omega)
      subst eA
      have hfx : (fts es)[m]? = some x.f := by unfold fts; rw [List.getElem?_map, hx]; rfl
      have HB := Lib.hid (HI.out m x.f hfx)
      obtain ⟨b0, b1, b2, b3⟩ := cells4 (BK.out wr HN.out)
      clear hx hfx
      have s0 : (a : Int) + ((b : Int) - (a : Int)) / 2 = (m : Int) := by omega
      clear hm
      have s1 : (m : Int) < (n : Int) := by omega
      have p0 := fun d os => cell_regrown x0 d os
      have p1 := fun d os => cell_regrown x1 d os
      have p2 := fun d os => cell_regrown x2 d os
      have p3 := fun d os => cell_regrown x3 d os
      have r0 := fun d os => cell_regrown b0 d os
      have r1 := fun d os => cell_regrown b1 d os
      have r2 := fun d os => cell_regrown b2 d os
      have r3 := fun d os => cell_regrown b3 d os
      have cB := Lib.hid (fun (d : Nat) (os : Array Obj) => Calls.regrown_of (d := d) (os := os) (before_new x.f.k k _ rfl (Go.Sort.grow (redrawn wr d) os)))
      clear x0 x1 x2 x3 b0 b1 b2 b3
      generalize befK x.f.k k = bb at *
      cases bb
      · have HB2 : Hid (a ≤ p ∧ p ≤ m) := ⟨HAB.out.1, by have := of_decide_eq_false HB.out.symm; omega⟩
        clear HB HAB
        go_wp2_with fail
        refine wp_region_quiet_below (by kernel_rfl) (by kernel_rfl) ?_
        repeat (quiet_step (first
          | (go_at_call 28; exact cB.out _ _)))
        refine wpQuiet_nil ?_
        intro _ hw'
        obtain ⟨⟨dq, osq⟩, hw''⟩ := hw'
        subst hw''
        have K9 : Hid (New w1 (Go.Sort.grow (redrawn wr dq) osq)) := new_regrown HN.out dq osq
        clear cB p0 p1 p2 p3 r0 r1 r2 r3
        go_wp2
        go_roundw
        case rel => exact ⟨a, m, by omega, by omega, rfl, rfl, HB2, K9⟩
        case measure => simp [intOf]; omega
      · have HB2 : Hid (m + 1 ≤ p ∧ p ≤ b) := ⟨by have := of_decide_eq_true HB.out.symm; omega, HAB.out.2⟩
        clear HB HAB
        go_wp2_with fail
        refine wp_region_quiet_below (by kernel_rfl) (by kernel_rfl) ?_
        repeat (quiet_step (first
          | (go_at_call 28; exact cB.out _ _)))
        refine wpQuiet_nil ?_
        intro _ hw'
        obtain ⟨⟨dq, osq⟩, hw''⟩ := hw'
        subst hw''
        have K9 : Hid (New w1 (Go.Sort.grow (redrawn wr dq) osq)) := new_regrown HN.out dq osq
        clear cB p0 p1 p2 p3 r0 r1 r2 r3
        go_wp2
        go_roundw
        case rel => exact ⟨m + 1, b, by omega, by omega, by go_num, rfl, HB2, K9⟩
        case measure => simp [intOf]; omega
    · obtain rfl : a = b := by omega
      have hap : a = p := by have := HAB.out; omega
      subst hap
      clear HAB
      by_cases hpn : a < n
      · obtain ⟨g, o, x, eA, hx, _, x0, x1, x2, x3, _⟩ := (H.out.new HN.out).at_ (i := a) hpn
        subst eA
        have hfx : (fts es)[a]? = some x.f := by unfold fts; rw [List.getElem?_map, hx]; rfl
        have HQ : Hid (q = decide (x.f.k = k)) := by
          have := HF.out
          rw [hfx] at this
          exact this
        obtain ⟨b0, b1, b2, b3⟩ := cells4 (BK.out wr HN.out)
        have HEQ := fun u => key_eql x.f.k k u
        clear hx hfx HF
        rw [← HQ.out] at HEQ
        clear HQ
        generalize x.f.k = kx at *
        go_wp2_with fail
        go_quiet (fail)
        go_wp2
        go_ret2
        exact ⟨rfl, (N1.out.new HN.out).drewN _⟩
      · have HQ : Hid (q = false) := by
          have := HF.out
          rw [List.getElem?_eq_none (by rw [HL.out]; omega)] at this
          exact this
        have d1 : decide ((a : Int) < (n : Int)) = false := decide_eq_false (by omega)
        clear HF
        go_wp2_with fail
        go_quiet (fail)
        go_wp2
        go_ret2
        exact ⟨by rw [HQ.out]; rfl, (N1.out.new HN.out).drewN _⟩
end Go.Proofs.Ytgdhbnhdmhogkaa
