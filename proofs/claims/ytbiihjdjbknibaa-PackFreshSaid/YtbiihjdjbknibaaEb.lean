/-
  Contracts: lists of bytes compared and copied; a row's bytes; the reference's number's bytes.
-/
import Derived.Test.YtbiihjdjbknibaaEa
import Derived.WalkSpells
namespace Go.Proofs.Ytbiihjdjbknibaa
set_option maxRecDepth 100000
open Go.RowKit

/-- A call only reads: a bool comes back. -/
def Quiet (w : World) (b : Bool) (e : Ending) (w' : World) : Prop := ∃ d, e = .returned (.bool b) ∧ w' = w.drewN d

set_option maxHeartbeats 400000 in
theorem same_eq (A B : Option Addr) (n c d : Nat) (l : List Nat) (w : World) (ha : Bts w A n l) (hb : Bts w B n l) (hn : n ≤ maxLen) :
    Calls Try.prog 14 #[.slice A n c, .slice B n d] w (Quiet w true) := by
  unfold maxLen at hn
  go_enter Try.func14, Try.ntmps14
  go_wp2
  go_loopw [5] (fun i wr => ∃ k q : Nat, k ≤ n ∧ i = .int .i64 k ∧ wr = w.drewN q) (fun i _ => n - (intOf i).toNat)
  case atStart => exact ⟨0, 0, Nat.zero_le _, rfl, rfl⟩
  case round =>
    obtain ⟨k, q, hk, rfl, rfl⟩ := hrel
    by_cases hlt : k < n
    · obtain ⟨g, o, x, rfl, hx, hxb, hc⟩ := ha.at_ hlt
      obtain ⟨g', o', y, rfl, hy, hyb, hc'⟩ := hb.at_ hlt
      obtain rfl : x = y := by rw [hx] at hy; injection hy
      clear ha hb hx hy
      go_wp2
      go_quiet (fail)
      go_wp2
      go_roundw
      case rel => exact ⟨k + 1, _, by omega, by go_num, rfl⟩
      case measure => simp [intOf]; omega
    · clear ha hb
      go_wp2
      go_ret
      exact ⟨q, rfl, rfl⟩

/-- Bytes come back, in memory of their own. -/
def RetL (w : World) (l : List Nat) (e : Ending) (w' : World) : Prop :=
  ∃ A c, e = .returned (.slice A l.length c) ∧ OwnB w' 5 w.heap.size A c l ∧ New w w'

theorem copy_any (A : Option Addr) (n c : Nat) (l : List Nat) (w : World) (ha : Bts w A n l) (hn : n ≤ 140737488351232) :
    Calls Try.prog 43 #[.slice A n c] w (RetL w l) := by
  obtain ⟨i0, hi, hz0, hz1, hz2⟩ := info_parts info_u8
  have hl := ha.1
  go_enter Try.func43, Try.ntmps43
  go_wp2_with (at_builtin; refine wpList_append_bytes _ rfl _ _ _ rfl 5 i0 Try.underlying25 hi hz0 hz1 hz2 w.heap.size none 0 0 [] rfl (OwnB.nil _ _ _) rfl A n c l rfl ha ?_ (Nat.le_refl _) ?_)
  · simp; omega
  intro A2 c2 w2 hown hg _
  go_wp2
  go_ret
  subst hl
  exact ⟨A2, c2, by simp, by simpa using hown, (Kept.refl _ _).grown hg (by simp)⟩

theorem clone_any (A : Option Addr) (n c : Nat) (l : List Nat) (w : World) (ha : Bts w A n l) (hn : n ≤ 140737488351232) (hA : A = none → c = 0 ∧ n = 0) :
    Calls Try.prog 37 #[.slice A n c] w (RetL w l) := by
  obtain ⟨i0, hi, hz0, hz1, hz2⟩ := info_parts info_u8
  have hl := ha.1
  have hq := fun w a n c => Lib.run_eql_slice_nil (P := Try.prog) w 25 5 a n c 0 0 Try.underlying25
  rcases A with _ | a
  · obtain ⟨rfl, rfl⟩ := hA rfl
    obtain rfl : l = [] := List.eq_nil_of_length_eq_zero hl
    clear hA
    go_enter Try.func37, Try.ntmps37
    go_wp2
    go_ret
    exact ⟨none, 0, rfl, OwnB.nil _ _ _, Kept.refl _ _⟩
  · clear hA
    go_enter Try.func37, Try.ntmps37
    go_wp2_with (at_builtin; refine wpList_append_bytes _ rfl _ _ _ rfl 5 i0 Try.underlying25 hi hz0 hz1 hz2 w.heap.size (some ⟨w.heap.size, 0, none⟩) 0 0 [] rfl ?_ rfl (some a) n c l rfl ?_ ?_ ?_ ?_)
    · exact ⟨by simp, .inr ⟨_, [], rfl, Nat.le_refl _, Blk.madeB w 5 [], by simp, rfl, by simp⟩⟩
    · exact ha.new ((Kept.refl _ _).alloc _)
    · simp; omega
    · simp
    intro A2 c2 w2 hown hg _
    go_wp2
    go_ret
    subst hl
    exact ⟨A2, c2, by simp, by simpa using hown, ((Kept.refl _ _).alloc _).grown hg (by simp; omega)⟩

/-- What a row's bytes are, or that there are too many. -/
def rowL (l : List Nat) : List Nat := if l.length ≤ 255 then l.length :: l else []
def rowE (l : List Nat) : Int := if l.length ≤ 255 then 0 else 3

set_option maxRecDepth 100000 in
theorem erow_any (A : Option Addr) (n c : Nat) (l : List Nat) (w : World) (ha : Bts w A n l) (hn : n ≤ maxLen) :
    Calls Try.prog 54 #[.slice A n c] w (RetB w (rowL l) (rowE l)) := by
  obtain ⟨i0, hi, hz0, hz1, hz2⟩ := info_parts info_u8
  obtain ⟨hl, hb⟩ := ha
  have ha : Bts w A n l := ⟨hl, hb⟩
  clear hb
  unfold maxLen at hn
  by_cases hle : n ≤ 255
  · have e1 : rowL l = l.length :: l := by unfold rowL; rw [if_pos (by omega)]
    have e2 : rowE l = 0 := by unfold rowE; rw [if_pos (by omega)]
    rw [e1, e2]
    clear e1 e2
    have hmk := fun u => run_make_bytes (P := Try.prog) 25 5 i0 Try.underlying25 hi hz0 hz1 hz2 .i64 .i64 0 (1 + (n : Int)) 0 (1 + n) rfl (by omega) (by omega) (by omega) u
    go_enter Try.func54, Try.ntmps54
    go_wp2_with (first
      | (at_builtin; refine wpList_append_bytes _ rfl (.tmp 12) (.tmp 16) _ rfl 5 i0 Try.underlying25 hi hz0 hz1 hz2 w.heap.size (some ⟨w.heap.size, 0, none⟩) 0 (1 + n) [] rfl ?_ rfl (some ⟨w.heap.size + 1, 0, none⟩) 1 1 [n] rfl ?_ ?_ ?_ ?_)
      | fail)
    · exact OwnB.of_blk (l := []) ((Blk.madeB w 5 _).alloc _) (Nat.le_refl _) zeros_lt (by simp) (by unfold maxLen; omega)
    · exact Bts.one _ _ _ _ (by omega) (by simp)
    · simp
    · simp; omega
    intro A2 c2 w2 hown hg _
    have k0 : New w w2 := (((Kept.refl _ _).alloc _).alloc _).grown hg (by simp; omega)
    have ha2 := ha.new k0
    have hz := k0.size
    clear hmk ha
    go_wp2_with (at_builtin; refine wpList_append_bytes _ rfl _ _ _ rfl 5 i0 Try.underlying25 hi hz0 hz1 hz2 w.heap.size A2 1 c2 [n] rfl hown rfl A n c l rfl ha2 ?_ hz ?_)
    · simp; omega
    intro A3 c3 w3 hown3 hg3 _
    go_wp2
    go_ret2
    subst hl
    refine ⟨A3, c3, by simp; omega, by simpa using hown3, k0.grown hg3 ?_⟩
    intro k hk hA
    obtain ⟨a, rfl, rfl⟩ := Option.map_eq_some_iff.1 hA
    have := (hown.at_ a rfl).2
    omega
  · have e1 : rowL l = [] := by unfold rowL; rw [if_neg (by omega)]
    have e2 : rowE l = 3 := by unfold rowE; rw [if_neg (by omega)]
    rw [e1, e2]
    go_enter Try.func54, Try.ntmps54
    go_wp2
    go_ret2
    exact RetB.nil _ _ _ (Kept.refl _ _)

theorem rrow_any (A : Option Addr) (n c : Nat) (l : List Nat) (w : World) (ha : Bts w A n l) (hn : n ≤ maxLen) :
    Calls Try.prog 69 #[.slice A n c] w (RetB w (rowL l) (rowE l)) := by
  obtain ⟨i0, hi, hz0, hz1, hz2⟩ := info_parts info_u8
  have hl : l.length = n := ha.1
  unfold maxLen at hn
  by_cases hle : n ≤ 255
  · have e1 : rowL l = l.length :: l := by unfold rowL; rw [if_pos (by omega)]
    have e2 : rowE l = 0 := by unfold rowE; rw [if_pos (by omega)]
    rw [e1, e2]
    clear e1 e2
    go_enter Try.func69, Try.ntmps69
    go_wp2_with (at_builtin; refine wpList_append_bytes _ rfl _ _ _ rfl 5 i0 Try.underlying25 hi hz0 hz1 hz2 w.heap.size (some ⟨w.heap.size, 0, none⟩) 1 1 [n] rfl ?_ rfl A n c l rfl ?_ ?_ ?_ ?_)
    · exact OwnB.of_blk (l := [n]) (sp := []) (Blk.made w 5 _) (Nat.le_refl _) (by simp; omega) (by simp) (by unfold maxLen; omega)
    · exact ha.new ((Kept.refl _ _).alloc _)
    · simp; omega
    · simp
    intro A3 c3 w3 hown3 hg3 _
    go_wp2
    go_ret2
    subst hl
    exact ⟨A3, c3, by simp; omega, by simpa using hown3, ((Kept.refl _ _).alloc _).grown hg3 (by simp; omega)⟩
  · have e1 : rowL l = [] := by unfold rowL; rw [if_neg (by omega)]
    have e2 : rowE l = 3 := by unfold rowE; rw [if_neg (by omega)]
    rw [e1, e2]
    go_enter Try.func69, Try.ntmps69
    go_wp2
    go_ret2
    exact RetB.nil _ _ _ (Kept.refl _ _)

theorem Kept.of_own {w w1 w2 : World} {t : TypeId} {A : Option Addr} {c : Nat} {l : List Nat} (k : New w w1) (h : OwnB w1 t w.heap.size A c l) (hg : w1.grownBy w2 (A.map (·.block))) : New w w2 :=
  k.grown hg fun q hq hA => by
    obtain ⟨a, rfl, rfl⟩ := Option.map_eq_some_iff.1 hA
    have := (h.at_ a rfl).2
    omega


/-- The bytes of a number, or the error. -/
def putL (n : Nat) (s : Int) : List Nat := if isSz s ∧ fitB n s.toNat = true then leB n s.toNat else []
def putE (n : Nat) (s : Int) : Int := if isSz s ∧ fitB n s.toNat = true then 0 else 2

theorem eput_any (n : Nat) (s : Int) (w : World) (hn : n < 18446744073709551616) :
    Calls Try.prog 72 #[.int .u64 n, .int .i64 s] w (RetB w (putL n s) (putE n s)) := by
  by_cases h : isSz s ∧ fitB n s.toNat = true
  · have e1 : putL n s = leB n s.toNat := by unfold putL; rw [if_pos h]
    have e2 : putE n s = 0 := by unfold putE; rw [if_pos h]
    rw [e1, e2]
    obtain ⟨m, rfl⟩ : ∃ m : Nat, s = m := ⟨s.toNat, by have := h.1; unfold isSz at this; omega⟩
    rw [Int.toNat_natCast] at h ⊢
    exact put_ok n m w hn h.1 h.2
  · have e1 : putL n s = [] := by unfold putL; rw [if_neg h]
    have e2 : putE n s = 2 := by unfold putE; rw [if_neg h]
    rw [e1, e2]
    exact put_no n s w hn h

end Go.Proofs.Ytbiihjdjbknibaa
