/-
  Contracts of layer 2: Put whatever is handed in; the front of a page.
-/
import Derived.Test.YtbiihjdjbknibaaSf
import Derived.Handy
namespace Go.Proofs.Ytbiihjdjbknibaa
set_option maxRecDepth 100000
open Go.ChangeShapes Go.WideShapes Go.ChangeAt Go.RowKit

/-- Bytes at the beginning of a block of the call's own, with no room that a slice shows behind them; or none. -/
def PgB (w : World) (B : Nat) (A : Option Addr) (c : Nat) (l : List Nat) : Prop :=
  IsBytes l ∧ ((A = none ∧ c = 0 ∧ l = []) ∨ ∃ g junk, A = some ⟨g, 0, none⟩ ∧ B ≤ g ∧ Blk w g 5 (l.map byt ++ junk) ∧ c = l.length)
theorem PgB.bts {w : World} {B : Nat} {A : Option Addr} {c : Nat} {l : List Nat} (h : PgB w B A c l) : Bts w A l.length l := by
  obtain ⟨hb, ⟨rfl, rfl, rfl⟩ | ⟨g, junk, rfl, hB, hblk, rfl⟩⟩ := h
  · exact Bts.nil _ _
  · simpa using Bts.of_blk (off := 0) hblk hb rfl
theorem PgB.kept {S : Nat → Prop} {w w' : World} {B : Nat} {A : Option Addr} {c : Nat} {l : List Nat} (h : PgB w B A c l) (hk : Kept S w w') (hn : ∀ a, A = some a → ¬ S a.block) : PgB w' B A c l := by
  obtain ⟨hb, h | ⟨g, junk, rfl, hB, hblk, rfl⟩⟩ := h
  · exact ⟨hb, .inl h⟩
  · exact ⟨hb, .inr ⟨g, junk, rfl, hB, hblk.kept hk (hn _ rfl), rfl⟩⟩
theorem PgB.new {w w' : World} {B : Nat} {A : Option Addr} {c : Nat} {l : List Nat} (h : PgB w B A c l) (hk : New w w') : PgB w' B A c l := h.kept hk fun _ _ f => f
theorem PgB.nil_ {w : World} {B : Nat} {A : Option Addr} {c : Nat} {l : List Nat} (h : PgB w B A c l) : A = none → c = 0 ∧ l.length = 0 := by
  rintro rfl
  obtain ⟨hb, ⟨_, rfl, rfl⟩ | ⟨g, junk, h, _⟩⟩ := h
  · exact ⟨rfl, rfl⟩
  · cases h
theorem PgB.cap {w : World} {B : Nat} {A : Option Addr} {c : Nat} {l : List Nat} (h : PgB w B A c l) : c = l.length := by
  obtain ⟨hb, ⟨_, rfl, rfl⟩ | ⟨g, junk, _, _, _, rfl⟩⟩ := h <;> rfl

def PutP (w : World) (n : Int) (k : Nat) (b : List Nat) (e : Ending) (w' : World) : Prop :=
  ∃ A c, e = .returned (.tuple #[.slice A (sPutL n k b).length c, .int .i64 (sPutE n k b)]) ∧ PgB w' w.heap.size A c (sPutL n k b) ∧ New w w'

theorem sPut_arg (n : Int) (k : Nat) (v : Value) (w : World) (h : ¬ (isPg n ∧ isKd k)) :
    Calls Try.prog 46 #[.int .i64 n, .int .u8 k, v] w fun e w' => e = .returned (.tuple #[.slice none 0 0, .int .i64 2]) ∧ w = w' := by
  by_cases hp : isPg n
  · have e1 : decide (isPg n) = true := decide_eq_true hp
    have e2 : decide (isKd k) = false := decide_eq_false fun hk => h ⟨hp, hk⟩
    clear h hp
    go_enter Try.func46, Try.ntmps46
    go_wp2_with (first
      | (go_at_call 31; refine (sIsSize_any _ _).mono ?_; rintro e w' ⟨rfl, rfl⟩; rw [e1])
      | (go_at_call 35; refine (sIsKind_any _ _).mono ?_; rintro e w' ⟨rfl, rfl⟩; rw [e2]))
    go_ret2
    exact ⟨rfl, rfl⟩
  · have e1 : decide (isPg n) = false := decide_eq_false hp
    clear h hp
    go_enter Try.func46, Try.ntmps46
    go_wp2_with (go_at_call 31; refine (sIsSize_any _ _).mono ?_; rintro e w' ⟨rfl, rfl⟩; rw [e1])
    go_ret2
    exact ⟨rfl, rfl⟩

theorem sPut_limit (n : Int) (k : Nat) (A : Option Addr) (m c : Nat) (w : World) (hp : isPg n) (hk : isKd k) (hm : n - 5 < m) (_hmm : m ≤ maxLen) :
    Calls Try.prog 46 #[.int .i64 n, .int .u8 k, .slice A m c] w fun e w' => e = .returned (.tuple #[.slice none 0 0, .int .i64 3]) ∧ w = w' := by
  have e1 : decide (isPg n) = true := decide_eq_true hp
  have e2 : decide (isKd k) = true := decide_eq_true hk
  have e3 : pgBody n = n - 5 := by unfold pgBody; rw [if_pos hp]
  unfold maxLen at _hmm
  unfold isPg at hp
  clear hk
  go_enter Try.func46, Try.ntmps46
  go_wp2_with (first
    | (go_at_call 31; refine (sIsSize_any _ _).mono ?_; rintro e w' ⟨rfl, rfl⟩; rw [e1])
    | (go_at_call 35; refine (sIsKind_any _ _).mono ?_; rintro e w' ⟨rfl, rfl⟩; rw [e2])
    | (go_at_call 36; refine (sBody_any _ _).mono ?_; rintro e w' ⟨rfl, rfl⟩; rw [e3]))
  go_ret2
  exact ⟨rfl, rfl⟩

theorem sPut_any (n : Int) (k : Nat) (A : Option Addr) (m c : Nat) (b : List Nat) (w : World) (hb : Bts w A m b) (hm : m ≤ maxLen) :
    Calls Try.prog 46 #[.int .i64 n, .int .u8 k, .slice A m c] w (PutP w n k b) := by
  have hbl := hb.1
  by_cases h : isPg n ∧ isKd k
  · by_cases hl : (m : Int) ≤ n - 5
    · obtain ⟨N, rfl⟩ : ∃ N : Nat, n = N := ⟨n.toNat, by have := h.1; unfold isPg at this; omega⟩
      have hp := h.1
      unfold isPg at hp
      have eL : sPutL N k b = page N k b := by unfold sPutL; rw [if_pos ⟨h.1, h.2, by rw [hbl]; exact hl⟩, Int.toNat_natCast]
      have eE : sPutE N k b = 0 := by unfold sPutE; rw [if_pos h, if_pos (by rw [hbl]; exact hl)]
      refine (sPut_ok N k A m c b w (by omega) (by omega) h.2 hb (by omega)).mono ?_
      rintro e w' ⟨g, junk, rfl, h1, h2, h3⟩
      unfold PutP
      rw [eL, eE]
      have hpl := page_length N k b (by omega)
      exact ⟨_, N, by rw [hpl], ⟨page_bytes N k b (by have := h.2; unfold isKd at this; omega) hb.2.1, .inr ⟨g, junk, rfl, h2, h1, hpl.symm⟩⟩, h3⟩
    · have eL : sPutL n k b = [] := by unfold sPutL; rw [if_neg (fun x => hl (by have := x.2.2; rw [hbl] at this; exact this))]
      have eE : sPutE n k b = 3 := by unfold sPutE; rw [if_pos h, if_neg (by rw [hbl]; exact hl)]
      refine (sPut_limit n k A m c w h.1 h.2 (by omega) hm).mono ?_
      rintro e w' ⟨rfl, rfl⟩
      unfold PutP
      rw [eL, eE]
      exact ⟨none, 0, rfl, ⟨by simp [IsBytes], .inl ⟨rfl, rfl, rfl⟩⟩, Kept.refl _ _⟩
  · have eL : sPutL n k b = [] := by unfold sPutL; rw [if_neg (fun x => h ⟨x.1, x.2.1⟩)]
    have eE : sPutE n k b = 2 := by unfold sPutE; rw [if_neg h]
    refine (sPut_arg n k _ w h).mono ?_
    rintro e w' ⟨rfl, rfl⟩
    unfold PutP
    rw [eL, eE]
    exact ⟨none, 0, rfl, ⟨by simp [IsBytes], .inl ⟨rfl, rfl, rfl⟩⟩, Kept.refl _ _⟩

theorem front_math (l : List Nat) (h : 5 ≤ l.length) (hb : IsBytes l) :
    leV ((l.take 5).take 2) = leV (l.take 2) ∧ leV (((l.take 5).drop 2).take 1) = l.getD 2 0 ∧ leV ((((l.take 5).drop 2).drop 1).take 2) = lenF l ∧ leV (l.take 2) < 65536 ∧ l.getD 2 0 < 256 ∧ lenF l < 65536 := by
  match l, h with
  | a :: b :: c :: d :: e :: r, _ =>
    have b0 := hb a (by simp)
    have b1 := hb b (by simp)
    have b2 := hb c (by simp)
    have b3 := hb d (by simp)
    have b4 := hb e (by simp)
    simp [leV, lenF]
    omega

set_option maxHeartbeats 400000 in
theorem front_any (A : Option Addr) (n c : Nat) (l : List Nat) (w : World) (hb : Bts w A n l) (hn : 5 ≤ n) (hn2 : n ≤ 256) (hc : n ≤ c) (hc2 : c ≤ maxLen) :
    Calls Try.prog 33 #[.slice A n c] w fun e w' => e = .returned (.agg #[.int .i64 (leV (l.take 2) : Nat), .int .u8 (l.getD 2 0 : Nat), .int .i64 (lenF l : Nat)]) ∧ New w w' := by
  unfold maxLen at hc2
  have hl := hb.1
  obtain ⟨m1, m2, m3, m4, m5, m6⟩ := front_math l (by omega) hb.2.1
  have h5 := hb.take (k := 5) hn
  have hl5 : (l.take 5).length = 5 := by rw [List.length_take]; omega
  obtain ⟨g0, o0, rfl, _⟩ := hb.2.2 (by omega)
  generalize hl5e : l.take 5 = l5 at *
  have H5 := Lib.hid h5
  have HL5 := Lib.hid hl5
  have HM := Lib.hid (And.intro m1 (And.intro m2 m3))
  generalize leV (l.take 2) = v0 at *
  generalize l.getD 2 0 = v1 at *
  generalize lenF l = v2 at *
  clear hb hl hl5e h5 hl5 m1 m2 m3
  go_enter Try.func33, Try.ntmps33
  go_wp2_with fail
  refine (new_any _ 5 c l5 _ (H5.out.new ((Kept.refl _ _).alloc _)) (by omega) (by intro h; cases h)).mono ?_
  rintro e w1 ⟨gr, rfl, hr, hg, hk⟩
  have hg2 : w.heap.size < gr := by simp at hg; omega
  have R1 := Lib.hid hr.any
  have K1 : Hid (New w w1) := ((Kept.refl _ _).alloc _).new hk
  have B1 : Hid (Blk w1 w.heap.size 63 [.int .i64 0, .int .u8 0, .int .i64 0]) := (Blk.made w 63 #[.int .i64 0, .int .u8 0, .int .i64 0]).kept hk (fun f => f)
  clear hr hk hg
  go_wp2_with fail
  refine (etake_ok gr _ 2 _ R1.out (.inr (.inl rfl)) (by rw [HL5.out]; omega)).mono ?_
  rintro e w2 ⟨rfl, hr, hk⟩
  have R2 := Lib.hid hr
  have K2 : Hid (New w w2) := K1.out.trans hk (fun i hi h => by omega)
  have B2 := Lib.hid (B1.out.kept hk (by omega))
  rw [HM.out.1]
  clear hr hk R1 K1 B1
  go_wp2_with fail
  refine (etake_ok gr _ 1 _ R2.out (.inl rfl) (by rw [List.length_drop, HL5.out]; omega)).mono ?_
  rintro e w3 ⟨rfl, hr, hk⟩
  have R3 := Lib.hid hr
  have K3 : Hid (New w w3) := K2.out.trans hk (fun i hi h => by omega)
  have B3 := Lib.hid (B2.out.kept hk (by omega))
  rw [HM.out.2.1]
  clear hr hk R2 K2 B2
  go_wp2_with fail
  refine (etake_ok gr _ 2 _ R3.out (.inr (.inl rfl)) (by rw [List.length_drop, List.length_drop, HL5.out]; omega)).mono ?_
  rintro e w4 ⟨rfl, hr, hk⟩
  have K4 : Hid (New w w4) := K3.out.trans hk (fun i hi h => by omega)
  have B4 := Lib.hid (B3.out.kept hk (by omega))
  rw [HM.out.2.2]
  clear hr hk R3 K3 B3
  have c0 := B4.out.cell 0
  have c1 := B4.out.cell 1
  have c2 := B4.out.cell 2
  have f0 := B4.out.free 0
  have f1 := B4.out.free 1
  have f2 := B4.out.free 2
  simp only [List.getElem?_cons_zero, List.getElem?_cons_succ] at c0 c1 c2
  go_wp2
  obtain ⟨w5, hw5⟩ : ∃ w5, w5 = ((w4.setCell ⟨w.heap.size, 0, none⟩ (.int .i64 v0)).setCell ⟨w.heap.size, 1, none⟩ (.int .u8 v1)).setCell ⟨w.heap.size, 2, none⟩ (.int .i64 v2) := ⟨_, rfl⟩
  have B5 : Blk w5 w.heap.size 63 [.int .i64 v0, .int .u8 v1, .int .i64 v2] := by
    rw [hw5]
    simpa using ((B4.out.put 0 (.int .i64 v0)).put 1 (.int .u8 v1)).put 2 (.int .i64 v2)
  have K5 : New w w5 := by
    rw [hw5]
    exact ((K4.out.setCell (fun h => absurd h (by simp)) _).setCell (fun h => absurd h (by simp)) _).setCell (fun h => absurd h (by simp)) _
  rw [← hw5]
  have d0 := B5.cell 0
  have d1 := B5.cell 1
  have d2 := B5.cell 2
  simp only [List.getElem?_cons_zero, List.getElem?_cons_succ] at d0 d1 d2
  clear hw5 c0 c1 c2 f0 f1 f2
  (try simp only [Exit.inBlock, Exit.then])
  refine bodyPost_ret (by simp [results, Try.results33, go_sem, d0, d1, d2]; try rfl) rfl ?_
  exact ⟨rfl, K5⟩
end Go.Proofs.Ytbiihjdjbknibaa
