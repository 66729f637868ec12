/-
  Heads put and taken: bodyOf, PutHead, headOf.
-/
import Derived.Test.YtgfdiboaiifdnaaGreatGb
namespace Go.Proofs.YtgfdiboaiifdnaaGreat
open Go.ChangeShapes Go.WideShapes Go.ChangeAt Go.RowKit

theorem fit_k {k : Nat} (h : k < 256) : fitB k 1 = true := by unfold fitB; simp; omega
theorem fit_e {e : Nat} (h : e < 4294967296) : fitB e 4 = true := by unfold fitB; simp; omega
theorem fit_s {s : Nat} (h : s < 18446744073709551616) : fitB s 8 = true := by unfold fitB; simp; omega

/-- The bytes of a head come back, in new memory. -/
def BodyP (w : World) (k e s : Nat) (r : Ending) (w' : World) : Prop := ∃ A c, r = .returned (.slice A 13 c) ∧ Hid (OwnB w' 5 w.heap.size A c (hdL k e s)) ∧ Hid (New w w')

set_option maxRecDepth 100000 in
set_option maxHeartbeats 1600000 in
theorem bodyOf_any (k e s : Nat) (w : World) (hk : k < 256) (he : e < 4294967296) (hs : s < 18446744073709551616) :
    Calls Tryz.prog 86 #[.agg #[.int .u8 (k : Nat), .int .u32 (e : Nat), .int .u64 (s : Nat)]] w (BodyP w k e s) := by
  have FK := Lib.hid (fit_k hk)
  have FE := Lib.hid (fit_e he)
  have FS := Lib.hid (fit_s hs)
  have W1 : Hid (isSz (1 : Int)) := .inl rfl
  have W4 : Hid (isSz (4 : Int)) := .inr (.inr (.inl rfl))
  have W8 : Hid (isSz (8 : Int)) := .inr (.inr (.inr rfl))
  go_enter Tryz.func86, Tryz.ntmps86
  go_wp2_with fail
  have N1 : Hid (New w (w.alloc (.cells #[.int .u8 (k : Nat), .int .u32 (e : Nat), .int .u64 (s : Nat)] 34))) := (Kept.refl _ _).alloc _
  have P1 : Hid (Blk (w.alloc (.cells #[.int .u8 (k : Nat), .int .u32 (e : Nat), .int .u64 (s : Nat)] 34)) w.heap.size 34 [.int .u8 (k : Nat), .int .u32 (e : Nat), .int .u64 (s : Nat)]) := Blk.made w _ _
  refine (put_ok k 1 _ (by omega) W1.out FK.out).mono ?_
  rintro r w2 ⟨A2, c2, rfl, h1, h2⟩
  have O2 := Lib.hid (h1.mono (B' := w.heap.size) N1.out.size)
  have N2 : Hid (New w w2) := N1.out.new h2
  have P2 := Lib.hid (P1.out.new h2)
  have d1 : w2.cell? ⟨w.heap.size, 1, none⟩ = some (.int .u32 (e : Nat)) := P2.out.cell 1
  clear h1 h2 P1 N1
  go_wp2_with fail
  refine (put_ok e 4 _ (by omega) W4.out FE.out).mono ?_
  rintro r w3 ⟨A3, c3, rfl, h1, h2⟩
  have O3 := Lib.hid (h1.mono (B' := w.heap.size) N2.out.size)
  have N3 : Hid (New w w3) := N2.out.new h2
  have P3 := Lib.hid (P2.out.new h2)
  have O2' := Lib.hid (O2.out.new h2)
  have d2 : w3.cell? ⟨w.heap.size, 2, none⟩ = some (.int .u64 (s : Nat)) := P3.out.cell 2
  clear h1 h2 P2 O2 d1 N2
  go_wp2_with fail
  refine (put_ok s 8 _ hs W8.out FS.out).mono ?_
  rintro r w4 ⟨A4, c4, rfl, h1, h2⟩
  have O4 := Lib.hid (h1.mono (B' := w.heap.size) N3.out.size)
  have N4 : Hid (New w w4) := N3.out.new h2
  have O2'' := Lib.hid (O2'.out.new h2)
  have O3' := Lib.hid (O3.out.new h2)
  have L1 : Hid ((leB k 1).length = 1) := leB_length _ _
  have L4 : Hid ((leB e 4).length = 4) := leB_length _ _
  have L8 : Hid ((leB s 8).length = 8) := leB_length _ _
  rw [L1.out, L4.out, L8.out]
  clear h1 h2 P3 O2' O3 d2 N3
  have B2 : Hid (Bts w4 A2 1 (leB k 1)) := by have := O2''.out.bts; rw [L1.out] at this; exact this
  have B3 : Hid (Bts w4 A3 4 (leB e 4)) := by have := O3'.out.bts; rw [L4.out] at this; exact this
  have B4 : Hid (Bts w4 A4 8 (leB s 8)) := by have := O4.out.bts; rw [L8.out] at this; exact this
  have G5 : Hid (Blk (w4.alloc (.cells #[.slice A2 1 c2, .slice A3 4 c3, .slice A4 8 c4] 27)) w4.heap.size 27 [.slice A2 1 c2, .slice A3 4 c3, .slice A4 8 c4]) := Blk.made w4 _ _
  have N5 : Hid (New w4 (w4.alloc (.cells #[.slice A2 1 c2, .slice A3 4 c3, .slice A4 8 c4] 27))) := (Kept.refl _ _).alloc _
  go_wp2_with fail
  refine (concat3_any w4.heap.size A2 A3 A4 c2 c3 c4 _ _ _ _ G5.out (B2.out.new N5.out) (B3.out.new N5.out) (B4.out.new N5.out)).mono ?_
  rintro r w6 ⟨A6, c6, rfl, h1, h2⟩
  have hz : Hid (w.heap.size ≤ (w4.alloc (.cells #[.slice A2 1 c2, .slice A3 4 c3, .slice A4 8 c4] 27)).heap.size) := (N4.out.new N5.out).size
  have E1 : Hid (BodyP w k e s (.returned (.slice A6 13 c6)) w6) := ⟨A6, c6, rfl, h1.out.mono hz.out, (N4.out.new N5.out).new h2.out⟩
  clear h1 h2 G5 B2 B3 B4 O2'' O3' O4
  go_wp2
  go_ret
  exact E1.out

/-- What PutHead answers. -/
def phL (n : Int) (k e s : Nat) : List Nat := if isHd k e s then sPutL n 1 (hdL k e s) else []
def phE (n : Int) (k e s : Nat) : Int := if isHd k e s then sPutE n 1 (hdL k e s) else 2
def PutHP (w : World) (n : Int) (k e s : Nat) (r : Ending) (w' : World) : Prop :=
  ∃ A c, r = .returned (.tuple #[.slice A (phL n k e s).length c, .int .i64 (phE n k e s)]) ∧ Hid (PgB w' w.heap.size A c (phL n k e s)) ∧ Hid (New w w')

set_option maxRecDepth 100000 in
set_option maxHeartbeats 1600000 in
theorem putHead_any (n : Int) (k e s : Nat) (w : World) (hk : k < 256) (he : e < 4294967296) (hs : s < 18446744073709551616) :
    Calls Tryz.prog 70 #[.int .i64 n, .agg #[.int .u8 (k : Nat), .int .u32 (e : Nat), .int .u64 (s : Nat)]] w (PutHP w n k e s) := by
  by_cases hh : isHd k e s
  · have E1 : Hid (phL n k e s = sPutL n 1 (hdL k e s)) := by show _ = _; unfold phL; rw [if_pos hh]
    have E2 : Hid (phE n k e s = sPutE n 1 (hdL k e s)) := by show _ = _; unfold phE; rw [if_pos hh]
    have HH := Lib.hid (decide_eq_true hh)
    have BP := Lib.hid (fun wx : World => bodyOf_any k e s wx hk he hs)
    clear hh hk he hs
    go_enter Tryz.func70, Tryz.ntmps70
    go_wp2_with fail
    have N1 : Hid (New w (w.alloc (.cells #[.int .u8 (k : Nat), .int .u32 (e : Nat), .int .u64 (s : Nat)] 34))) := (Kept.refl _ _).alloc _
    have P1 : Hid (Blk (w.alloc (.cells #[.int .u8 (k : Nat), .int .u32 (e : Nat), .int .u64 (s : Nat)] 34)) w.heap.size 34 [.int .u8 (k : Nat), .int .u32 (e : Nat), .int .u64 (s : Nat)]) := Blk.made w _ _
    refine (isHead_any k e s _).mono ?_
    rintro r w2 ⟨rfl, h1⟩
    rw [HH.out]
    have N2 : Hid (New w w2) := N1.out.new h1
    have P2 := Lib.hid (P1.out.new h1)
    have d0 : w2.cell? ⟨w.heap.size, 0, none⟩ = some (.int .u8 (k : Nat)) := P2.out.cell 0
    have d1 : w2.cell? ⟨w.heap.size, 1, none⟩ = some (.int .u32 (e : Nat)) := P2.out.cell 1
    have d2 : w2.cell? ⟨w.heap.size, 2, none⟩ = some (.int .u64 (s : Nat)) := P2.out.cell 2
    clear h1 N1 P1
    go_wp2_with fail
    refine (BP.out _).mono ?_
    rintro r w3 ⟨A3, c3, rfl, h1, h2⟩
    have N3 : Hid (New w w3) := N2.out.new h2.out
    have B3 : Hid (Bts w3 A3 13 (hdL k e s)) := by have := h1.out.bts; rw [hdL_length] at this; exact this
    clear h1 h2 d0 d1 d2 P2 N2
    go_wp2_with fail
    refine (sPut_k n 1 A3 13 c3 (hdL k e s) N3 B3 (by omega) _ _ ⟨rfl, rfl⟩ _ rfl).mono ?_
    rintro r w4 ⟨A4, c4, rfl, h1, -, -, h3⟩
    have R : Hid (PutHP w n k e s (.returned (.tuple #[.slice A4 (sPutL n 1 (hdL k e s)).length c4, .int .i64 (sPutE n 1 (hdL k e s))])) w4) := ⟨A4, c4, by rw [E1.out, E2.out], by rw [E1.out]; exact h1, h3⟩
    clear h1 h3 B3
    go_wp2
    go_ret2
    exact R.out
  · have E1 : Hid (phL n k e s = []) := by show _ = _; unfold phL; rw [if_neg hh]
    have E2 : Hid (phE n k e s = 2) := by show _ = _; unfold phE; rw [if_neg hh]
    have HH := Lib.hid (decide_eq_false hh)
    clear hh hk he hs
    go_enter Tryz.func70, Tryz.ntmps70
    go_wp2_with fail
    have N1 : Hid (New w (w.alloc (.cells #[.int .u8 (k : Nat), .int .u32 (e : Nat), .int .u64 (s : Nat)] 34))) := (Kept.refl _ _).alloc _
    refine (isHead_any k e s _).mono ?_
    rintro r w2 ⟨rfl, h1⟩
    rw [HH.out]
    have N2 : Hid (New w w2) := N1.out.new h1
    have R : Hid (PutHP w n k e s (.returned (.tuple #[.slice none 0 0, .int .i64 2])) w2) := ⟨none, 0, by rw [E1.out, E2.out]; rfl, by rw [E1.out]; exact ⟨(by intro x hx; cases hx), .inl ⟨rfl, rfl, rfl⟩⟩, N2⟩
    clear h1
    go_wp2
    go_ret2
    exact R.out

def RPutHP (w : World) (n : Int) (k e s : Nat) (r : Ending) (w' : World) : Prop :=
  ∃ A c, r = .returned (.tuple #[.slice A (phL n k e s).length c, .int .i64 (phE n k e s)]) ∧ Hid (Bts w' A (phL n k e s).length (phL n k e s)) ∧ Hid (New w w')
end Go.Proofs.YtgfdiboaiifdnaaGreat
