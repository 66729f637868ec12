/-
  Contracts of the reference's chip: Page, Read, New.
-/
import Derived.Test.YtfhngcnphcjmgaaRa
namespace Go.Proofs.Ytfhngcnphcjmgaa
open Go.ChangeShapes Go.WideShapes Go.ChangeAt Go.RowKit

theorem step_append_bytesN {P : Program} {w : World} {ops : Array Oper} {o : Oper} {a : Act} {K : Act → World → Prop} {Q : Exit → Act → World → Prop} {E : Prop} (hgd : o.guard = none) (s x : Operand) (t : TypeId)
    (ho : o.op = .call { callee := .builtin .append, args := #[s, x], argTypes := #[t, t] })
    (e : TypeId) (i : TypeInfo) (ht : P.underlying t = some (.slice e)) (hi : P.info? e = some i) (hz : i.zero = some (.int .u8 0)) (hs : i.size = 1) (hby : i.bytes = 1)
    (B : Nat) (A : Option Addr) (n c : Nat) (l : List Nat) (hsv : a.eval s = .slice A n c) (hown : OwnB w e B A c l) (hn : n = l.length)
    (A' : Option Addr) (m c' : Nat) (k : List Nat) (hx : a.eval x = .slice A' m c') (hr : Bts w A' m k)
    (hbytes : l.length + m ≤ 140737488355328) (hbase : B ≤ w.heap.size)
    (h : ∀ A2 c2 w', OwnB w' e B A2 c2 (l ++ k) → w.grownBy w' (A.map (·.block)) → K (a.put o.dst (.slice A2 (n + m) c2)) w') :
    if Region.wanted o (yielded ops a.tmps) = true then Oper.wp P o a w K Q else E := by
  have hw : Region.wanted o (yielded ops a.tmps) = true := by simp [Region.wanted, hgd]
  rw [if_pos hw]
  obtain ⟨A2, c2, w', hrun, h2, h3, h4⟩ := run_append_bytes (P := P) w t o.type e i ht hi hz hs hby B A c l hown A' m c' k hr hbytes hbase n hn
  unfold Oper.wp
  simp [execOp, ho, resolve, invoke, builtin, hsv, hx, hrun, Result.andThen]
  exact h A2 c2 w' h2 h3

set_option maxRecDepth 100000 in
set_option maxHeartbeats 800000 in
theorem rPage_any (Q : Nat → Prop) (g gc gb cc cb : Nat) (Ah : Option Addr) (ch : Nat) (s : CSt) (b p : Nat) (w : World) (h : RRep Q w g gc gb cc cb Ah ch s) (hb : b < s.nb) (hp : p < s.np) :
    Calls Try.prog 64 #[.pointer (some ⟨g, 0, none⟩), .int .i64 b, .int .i64 p] w (RetL w (pgL s b p)) := by
  obtain ⟨i0, hi, hz0, hz1, hz2⟩ := info_parts info_u8
  have ht : there s b p := ⟨⟨by omega, by omega⟩, by omega, by omega⟩
  have hfit := (off_fit s h.ok b p ht).2.2
  have hbt := h.cellBts (offP s b p) s.nz hfit
  have HL := Lib.hid (pg_len s h.ok b p ht)
  have eo : offP s b p = (b * s.np + p) * s.nz := by unfold offP; simp
  rw [eo] at hfit hbt
  have hpg : pgL s b p = (s.by_.drop ((b * s.np + p) * s.nz)).take s.nz := by unfold pgL; rw [eo]
  rw [← hpg] at hbt
  have H := Lib.hid h
  have HB := Lib.hid hb
  have HP := Lib.hid hp
  have hlt := h.chip.lt
  have hcap := h.ccap
  have hsz := h.ok.size
  have hz1' := h.ok.nz1
  have hz2' := h.ok.nz2
  unfold maxLen at hcap
  have hc1 := hcap.1
  have hc2 := hcap.2
  have HBt := Lib.hid hbt
  have hB1 : Hid (s.nz + 0 ≤ 140737488355328) := by show _ ≤ _; omega
  clear h hb hp ht hbt eo hcap hpg
  generalize pgL s b p = P at *
  generalize hz : (b * s.np + p) * s.nz = z at *
  have HZ := Lib.hid hz
  clear hz
  have hw1 : IntKind.i64.wrap ((z : Int) + (s.nz : Int)) = ((z + s.nz : Nat) : Int) := by rw [IntKind.wrap_i64]; omega
  have q1 : (z : Int) ≤ ((z + s.nz : Nat) : Int) := by omega
  have q2 : ((z + s.nz : Nat) : Int) ≤ (cc : Int) := by omega
  have q3 : z + s.nz - z = s.nz := by omega
  have r1 : (0 : Int) ≤ (z : Int) + (s.nz : Int) := by omega
  have r2 : (z : Int) + (s.nz : Int) ≤ (cc : Int) := by omega
  have r3 : ((z : Int) + (s.nz : Int)).toNat = z + s.nz := by omega
  have r4 : z ≤ z + s.nz := by omega
  have q4 : ¬ (cc : Int) = (z : Int) := by omega
  have q5 : ¬ cc = z := by omega
  go_enter Try.func64, Try.ntmps64
  go_wp2_with fail
  refine (rAt_any _ _ _ _ _ _ _ _ _ _ _ _ H.out HB.out HP.out).mono ?_
  rintro e w' ⟨q, rfl, rfl⟩
  rw [HZ.out]
  have d2 := H.out.c2
  have d4 := H.out.c4
  go_wp2_with fail
  go_region_law (with_reducible refine step_append_bytesN (o := ⟨some 27, _, _, _, _, _⟩) rfl (.tmp 13) (.tmp 26) 30 rfl 5 i0 Try.underlying30 hi hz0 hz1 hz2 w.heap.size none 0 0 [] ?_ (OwnB.nil _ _ _) rfl (some ⟨gc, z, none⟩) s.nz (cc - z) P ?_ (HBt.out.drewN (q + 1)) ?_ (Nat.le_refl _) ?_; (next => go_simp); (next => go_simp); (next => simp; omega); intro A5 c5 w5 hown hg; have hk5 : New (w.drewN (q + 1)) w5 := (Kept.refl _ _).grown hg (by simp); have HO5 := Lib.hid hown; have HK5 := Lib.hid hk5; clear hown hk5 hg)
  all_goals go_simp
  all_goals go_wp2
  all_goals go_ret
  all_goals refine ⟨A5, c5, ?_, by simpa using HO5.out, HK5.out.of_drewN⟩
  all_goals rw [HL.out]
  all_goals first | rfl | simp

theorem rRead_any (Q : Nat → Prop) (g : Nat) (s : CSt) (b p : Int) (w : World) (h : RChip Q w g s) :
    Calls Try.prog 98 #[.pointer (some ⟨g, 0, none⟩), .int .i64 b, .int .i64 p] w (RetB w (readL s b p) (readE s b p)) := by
  obtain ⟨gc, gb, cc, cb, Ah, ch, h⟩ := h
  have H := Lib.hid h
  have c8 := h.c8
  by_cases hd : s.dead = true
  · have e0 : refE s b p = 10 := by unfold refE; rw [if_pos hd]
    have e1 : readL s b p = [] := by unfold readL; rw [if_neg (by rw [e0]; decide)]
    have e2 : readE s b p = 10 := e0
    rw [e1, e2]
    rw [hd] at c8
    clear h e0 e1 e2 hd
    go_enter Try.func98, Try.ntmps98
    go_wp2
    go_ret2
    exact RetB.nil _ _ _ (Kept.refl _ _)
  · have hd' : s.dead = false := by simpa using hd
    rw [hd'] at c8
    by_cases ht : there s b p
    · have e0 : refE s b p = 0 := by unfold refE; rw [if_neg hd, if_pos ht]
      have e1 : readL s b p = pgL s b p := by unfold readL; rw [if_pos e0]
      have e2 : readE s b p = 0 := e0
      rw [e1, e2]
      have HL := Lib.hid (pg_len s h.ok b p ht)
      have HT := Lib.hid (decide_eq_true ht)
      obtain ⟨b', rfl, hb⟩ := nat_of ht.1
      obtain ⟨p', rfl, hp⟩ := nat_of ht.2
      have HB := Lib.hid hb
      have HP := Lib.hid hp
      clear h e0 e1 e2 hd hd' hb hp ht
      go_enter Try.func98, Try.ntmps98
      go_wp2_with fail
      refine (rThere_any _ _ _ _ _ _ _ _ _ _ _ _ H.out).mono ?_
      rintro e w' ⟨rfl, rfl⟩
      rw [HT.out]
      go_wp2_with fail
      refine (rPage_any _ _ _ _ _ _ _ _ _ _ _ _ H.out HB.out HP.out).mono ?_
      rintro e w2 ⟨A2, c2, rfl, ho, hk⟩
      have HO := Lib.hid ho
      have HK := Lib.hid hk
      clear ho hk
      rw [HL.out]
      go_wp2
      go_ret2
      exact ⟨A2, c2, by rw [HL.out]; rfl, HO.out, HK.out⟩
    · have e0 : refE s b p = 2 := by unfold refE; rw [if_neg hd, if_neg ht]
      have e1 : readL s b p = [] := by unfold readL; rw [if_neg (by rw [e0]; decide)]
      have e2 : readE s b p = 2 := e0
      rw [e1, e2]
      have HT := Lib.hid (decide_eq_false ht)
      clear h e0 e1 e2 hd hd' ht
      go_enter Try.func98, Try.ntmps98
      go_wp2_with fail
      refine (rThere_any _ _ _ _ _ _ _ _ _ _ _ _ H.out).mono ?_
      rintro e w' ⟨rfl, rfl⟩
      rw [HT.out]
      go_wp2
      go_ret2
      exact RetB.nil _ _ _ (Kept.refl _ _)
end Go.Proofs.Ytfhngcnphcjmgaa
