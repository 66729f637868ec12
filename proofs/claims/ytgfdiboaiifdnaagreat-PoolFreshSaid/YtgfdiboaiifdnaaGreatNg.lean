/-
  Contracts of what only reads a chip: refuses, blockOf, pageOf, isFree, Read, Bad, Deeds, Bytes, Geo.
-/
import Derived.Test.YtgfdiboaiifdnaaGreatNf
namespace Go.Proofs.YtgfdiboaiifdnaaGreat
open Go.ChangeShapes Go.WideShapes Go.ChangeAt Go.RowKit

theorem there_dec (s : CSt) (b p : Int) : decide (there s b p) = (inB b 0 (s.nb - 1) && inB p 0 (s.np - 1)) := by
  rw [Bool.eq_iff_iff, decide_eq_true_iff]
  unfold there inB
  simp only [Bool.and_eq_true, decide_eq_true_iff]
  omega

theorem refuses_any (Q : Nat → Prop) (g gc gb bl bb cc cb : Nat) (Ah : Option Addr) (ch : Nat) (s : CSt) (b p : Int) (w : World) (h : NRep Q w g gc gb bl bb cc cb Ah ch s) :
    Calls Tryz.prog 42 #[.pointer (some ⟨g, 0, none⟩), .int .i64 b, .int .i64 p] w fun e w' => e = .returned (.int .i64 (refE s b p)) ∧ w = w' := by
  have c0 := h.c0
  have c1 := h.c1
  have c6 := h.c6
  have hnb := h.ok.nb2
  have hnp := h.ok.np2
  have hnb1 := h.ok.nb1
  have hnp1 := h.ok.np1
  have H := Lib.hid h
  have HT := Lib.hid (there_dec s b p)
  clear h
  by_cases hd : s.dead = true
  · have e : refE s b p = 10 := by unfold refE; rw [if_pos hd]
    rw [e]
    rw [hd] at c6
    clear e hd
    go_enter Tryz.func42, Tryz.ntmps42
    go_wp2_with (go_at_call 17; refine (cNone_no _ _ _ _ _ _ _ _ _ _ _ _ H.out).mono ?_; rintro e w' ⟨rfl, rfl⟩)
    go_ret
    exact ⟨rfl, rfl⟩
  · have hd' : s.dead = false := by simpa using hd
    rw [hd'] at c6
    have er : refE s b p = if decide (there s b p) = true then 0 else 2 := by unfold refE; rw [if_neg hd]; simp
    rw [er, HT.out]
    clear er hd hd'
    have HH := Lib.hid H.out.chip
    generalize hx : inB b 0 ((s.nb : Int) - 1) = x at *
    have HX := Lib.hid hx
    clear hx
    generalize hy : inB p 0 ((s.np : Int) - 1) = y at *
    have HY := Lib.hid hy
    clear hy
    cases x
    · go_enter Tryz.func42, Tryz.ntmps42
      go_wp2_with (first
        | (go_at_call 17; refine (cNone_no _ _ _ _ _ _ _ _ _ _ _ _ H.out).mono ?_; rintro e w' ⟨rfl, rfl⟩)
        | (go_at_call 57; refine (within_any _ _ _ _).mono ?_; rintro e w' ⟨rfl, rfl⟩; (first | rw [HX.out] | rw [HY.out])))
      go_ret
      exact ⟨rfl, rfl⟩
    · cases y
      all_goals
        go_enter Tryz.func42, Tryz.ntmps42
        go_wp2_with (first
          | (go_at_call 17; refine (cNone_no _ _ _ _ _ _ _ _ _ _ _ _ H.out).mono ?_; rintro e w' ⟨rfl, rfl⟩)
          | (go_at_call 57; refine (within_any _ _ _ _).mono ?_; rintro e w' ⟨rfl, rfl⟩; (first | rw [HX.out] | rw [HY.out])))
        go_ret
        exact ⟨rfl, rfl⟩

theorem mul_i64 {a b k : Nat} (h : a * b = k) (hk : k ≤ 524288) : IntKind.i64.wrap ((a : Int) * (b : Int)) = (k : Int) ∧ wrap64 ((a : Int) * (b : Int)) = (k : Int) := by
  subst h
  rw [prod_int]
  exact ⟨wrap_nat (by omega), wrap64_of (by omega) (by omega)⟩

theorem ret_sl {A : Option Addr} {n c n' c' : Nat} (h1 : n = n') (h2 : c = c') : Ending.returned (.slice A n c) = .returned (.slice A n' c') := by rw [h1, h2]

/-- The cells of a block. -/
theorem blockOf_any (Q : Nat → Prop) (g gc gb bl bb cc cb : Nat) (Ah : Option Addr) (ch : Nat) (s : CSt) (b : Nat) (w : World) (h : NRep Q w g gc gb bl bb cc cb Ah ch s) (hb : b < s.nb) :
    Calls Tryz.prog 61 #[.pointer (some ⟨g, 0, none⟩), .int .i64 b] w (RetV w (.slice (some ⟨gc, b * (s.np * s.nz), none⟩) (s.np * s.nz) (s.np * s.nz))) := by
  have c1 := h.c1
  have c2 := h.c2
  have c4 := h.c4
  have hcap := h.ccap
  have hsz := h.ok.size
  have hlen := h.ok.len
  have hz1 := h.ok.nz1
  have hp1 := h.ok.np1
  have hlt : g < w.heap.size := h.chip.lt
  have hm1 : s.np * s.nz ≤ 8192 := by have := Nat.mul_le_mul h.ok.np2 h.ok.nz2; omega
  have hm0 : 0 < s.np * s.nz := Nat.mul_pos (by omega) (by omega)
  have hfit : b * (s.np * s.nz) + s.np * s.nz ≤ s.by_.length := by
    rw [hlen, Nat.mul_assoc]
    have := Nat.mul_le_mul_right (s.np * s.nz) (show b + 1 ≤ s.nb from hb)
    rw [Nat.add_mul, Nat.one_mul] at this
    exact this
  have hbb : b * (s.np * s.nz) ≤ 524288 := by omega
  obtain ⟨w1, w1'⟩ := mul_i64 (rfl : s.np * s.nz = _) (by omega)
  obtain ⟨w2, w2'⟩ := mul_i64 (rfl : b * (s.np * s.nz) = _) hbb
  unfold maxLen at hcap
  have hc1 := hcap.1
  have hc2 := hcap.2
  clear h hb hlen hz1 hp1 hcap
  generalize s.np * s.nz = z at *
  generalize b * z = o at *
  generalize s.by_.length = L at *
  have hne : ¬ (cc : Int) = (o : Int) := by omega
  have hne2 : ¬ cc = o := by omega
  have w3 : IntKind.i64.wrap ((o : Int) + (z : Int)) = ((o + z : Nat) : Int) := by rw [IntKind.wrap_i64]; omega
  have q1 : (0 : Int) ≤ (o : Int) := by omega
  have q2 : (o : Int) ≤ ((o + z : Nat) : Int) := by omega
  have q3 : ((o + z : Nat) : Int) ≤ (cc : Int) := by omega
  go_enter Tryz.func61, Tryz.ntmps61
  go_wp2
  go_quiet (fail)
  go_wp2
  go_ret
  exact ⟨nq, ret_sl (by omega) (by omega), rfl⟩

/-- The cells of a page. -/
theorem pageOf_any (Q : Nat → Prop) (g gc gb bl bb cc cb : Nat) (Ah : Option Addr) (ch : Nat) (s : CSt) (b p : Nat) (w : World) (h : NRep Q w g gc gb bl bb cc cb Ah ch s) (hb : b < s.nb) (hp : p < s.np) :
    Calls Tryz.prog 45 #[.pointer (some ⟨g, 0, none⟩), .int .i64 b, .int .i64 p] w (RetV w (.slice (some ⟨gc, (b * s.np + p) * s.nz, none⟩) s.nz s.nz)) := by
  have c2 := h.c2
  have hz1 := h.ok.nz1
  have hz2 := h.ok.nz2
  have H := Lib.hid h
  have hlt : g < w.heap.size := h.chip.lt
  have hm1 : s.np * s.nz ≤ 8192 := by have := Nat.mul_le_mul h.ok.np2 h.ok.nz2; omega
  have hpz : p * s.nz + s.nz ≤ s.np * s.nz := by
    have := Nat.mul_le_mul_right s.nz (show p + 1 ≤ s.np from hp)
    rw [Nat.add_mul, Nat.one_mul] at this
    exact this
  obtain ⟨w1, w1'⟩ := mul_i64 (rfl : p * s.nz = _) (by omega)
  have heq : (b * s.np + p) * s.nz = b * (s.np * s.nz) + p * s.nz := by rw [Nat.add_mul, Nat.mul_assoc]
  rw [heq]
  have HB := Lib.hid hb
  clear h hb hp heq
  generalize hZ : s.np * s.nz = Z at *
  have HZ := Lib.hid hZ
  clear hZ
  generalize p * s.nz = o at *
  generalize hO : b * Z = O at *
  have HO := Lib.hid hO
  clear hO
  generalize hz : s.nz = z at *
  have Hz := Lib.hid hz
  clear hz
  have hne : ¬ (Z : Int) = (o : Int) := by omega
  have hne2 : ¬ Z = o := by omega
  have w3 : IntKind.i64.wrap ((o : Int) + (z : Int)) = ((o + z : Nat) : Int) := by rw [IntKind.wrap_i64]; omega
  have hoz : o + z - o = z := by omega
  go_enter Tryz.func45, Tryz.ntmps45
  go_wp2_with fail
  refine (blockOf_any _ _ _ _ _ _ _ _ _ _ _ _ _ H.out HB.out).mono ?_
  rintro e w' ⟨q, rfl, rfl⟩
  rw [Hz.out, HZ.out, HO.out]
  go_wp2
  go_ret
  exact ⟨q, ret_sl (by omega) (by omega), rfl⟩

theorem quiet_ret {f : FuncId} {args : Array Value} {w : World} {n : Nat} {v : Value} (h : Calls Tryz.prog f args (w.drewN n) (RetV (w.drewN n) v)) : Calls Tryz.prog f args (w.drewN n) fun e w'' => e = .returned v ∧ ∃ m, w'' = w.drewN m :=
  h.mono fun _ _ ⟨m, he, hm⟩ => ⟨he, n + m, by rw [hm, World.drewN_drewN]⟩

theorem NRep.cellBts {Q : Nat → Prop} {w : World} {g gc gb bl bb cc cb : Nat} {Ah : Option Addr} {ch : Nat} {s : CSt} (h : NRep Q w g gc gb bl bb cc cb Ah ch s) (off n : Nat) (hf : off + n ≤ s.by_.length) :
    Bts w (some ⟨gc, off, none⟩) n ((s.by_.drop off).take n) := by
  obtain ⟨j, hj⟩ := h.cells
  refine ⟨by simp; omega, fun x hx => h.ok.bytes x (List.mem_of_mem_drop (List.mem_of_mem_take hx)), fun _ => ⟨gc, off, rfl, fun i x hx => ?_⟩⟩
  rw [List.getElem?_take] at hx
  split at hx
  · rw [List.getElem?_drop] at hx
    have hi : off + i < s.by_.length := (List.getElem?_eq_some_iff.1 hx).1
    rw [hj.cell, List.getElem?_append_left (by simpa using hi), List.getElem?_map, hx]
    rfl
  · cases hx

set_option maxHeartbeats 400000 in
theorem isFree_any (Q : Nat → Prop) (g gc gb bl bb cc cb : Nat) (Ah : Option Addr) (ch : Nat) (s : CSt) (b p : Nat) (w : World) (h : NRep Q w g gc gb bl bb cc cb Ah ch s) (hb : b < s.nb) (hp : p < s.np) :
    Calls Tryz.prog 43 #[.pointer (some ⟨g, 0, none⟩), .int .i64 b, .int .i64 p] w (RetV w (.bool (blank (tailL s b p)))) := by
  have c2 := h.c2
  have hz1 := h.ok.nz1
  have hz2 := h.ok.nz2
  have H := Lib.hid h
  have hlt : g < w.heap.size := h.chip.lt
  have hm1 : s.np * s.nz ≤ 8192 := by have := Nat.mul_le_mul h.ok.np2 h.ok.nz2; omega
  have hpz : p * s.nz + s.nz ≤ s.np * s.nz := by
    have := Nat.mul_le_mul_right s.nz (show p + 1 ≤ s.np from hp)
    rw [Nat.add_mul, Nat.one_mul] at this
    exact this
  have hof := off_fit s h.ok b p ⟨⟨by omega, by omega⟩, by omega, by omega⟩
  have heq : offP s b p = b * (s.np * s.nz) + p * s.nz := by simp [offP]; rw [Nat.add_mul, Nat.mul_assoc]
  have hsub : (s.np - p) * s.nz = s.np * s.nz - p * s.nz := Nat.sub_mul _ _ _
  have HBt := Lib.hid (show Bts w (some ⟨gc, b * (s.np * s.nz) + p * s.nz, none⟩) (s.np * s.nz - p * s.nz) (tailL s b p) from by
    have := h.cellBts (offP s b p) ((s.np - p) * s.nz) (by simpa using hof.1)
    rw [heq, hsub] at this
    unfold tailL
    rw [heq, Int.toNat_natCast, hsub]
    exact this)
  obtain ⟨w1, w1'⟩ := mul_i64 (rfl : p * s.nz = _) (by omega)
  have HB := Lib.hid hb
  clear h hb hp heq hof hsub
  generalize tailL s b p = T at *
  generalize hZ : s.np * s.nz = Z at *
  have HZ := Lib.hid hZ
  clear hZ
  generalize p * s.nz = o at *
  generalize hO : b * Z = O at *
  have HO := Lib.hid hO
  clear hO
  have hne : ¬ (Z : Int) = (o : Int) := by omega
  have hne2 : ¬ Z = o := by omega
  have q1 : (o : Int) ≤ (Z : Int) := by omega
  have HC : Hid (∀ n, Calls Tryz.prog 61 #[.pointer (some ⟨g, 0, none⟩), .int .i64 b] (w.drewN n) (RetV (w.drewN n) (.slice (some ⟨gc, O, none⟩) Z Z))) := by
    intro n
    have := blockOf_any _ _ _ _ _ _ _ _ _ _ _ b _ (H.out.drewN n) HB.out
    rw [HZ.out, HO.out] at this
    exact this
  clear HZ HO
  go_enter Tryz.func43, Tryz.ntmps43
  go_wp2_with fail
  go_quiet ((first
    | (go_at_call 61; exact quiet_ret (HC.out _))
    | (go_at_call 60; exact Calls.quiet_of_same ((sBlank_any _ _ _ T _ (HBt.out.drewN _) (by unfold maxLen; omega)).mono fun _ _ h => ⟨h.1, h.2.symm⟩))))
  go_wp2
  go_ret
  exact ⟨nq, rfl, rfl⟩
end Go.Proofs.YtgfdiboaiifdnaaGreat
