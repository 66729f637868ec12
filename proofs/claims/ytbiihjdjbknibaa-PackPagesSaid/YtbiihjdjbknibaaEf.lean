/-
  Contracts of layer 1's reader: what it answers, what is left of it.
  Contracts of the reference's reader.
  Contracts: a reader that is made; the numbers that the document tells.
  Both readers' Row, of whatever is left; a slice of integers that is read.
-/
import Derived.Test.YtbiihjdjbknibaaEb
import Derived.Test.YtbiihjdjbknibaaLift
import Derived.Lib.SlBytesConst
namespace Go.Proofs.Ytbiihjdjbknibaa

section
set_option maxRecDepth 100000
open Go.RowKit
variable {Q : Nat → Prop}

/-- The reader in block g has the bytes l left. -/
def Rdr (Q : Nat → Prop) (w : World) (g : Nat) (l : List Nat) : Prop :=
  ∃ A c, Blk w g 92 [.bool true, .slice A l.length c] ∧ Bts w A l.length l ∧ (∀ a, A = some a → Q a.block ∧ At w a.block 5) ∧ l.length ≤ c ∧ c ≤ maxLen

theorem Rdr.kept {S : Nat → Prop} {w w' : World} {g : Nat} {l : List Nat} (h : Rdr Q w g l) (hk : Kept S w w') (hg : ¬ S g) (hs : ∀ k, S k → Q k → ¬ At w k 5) : Rdr Q w' g l := by
  obtain ⟨A, c, h1, h2, h3, h4⟩ := h
  have hn : ∀ a, A = some a → ¬ S a.block := fun a ha hS => hs _ hS (h3 a ha).1 (h3 a ha).2
  exact ⟨A, c, h1.kept hk hg, h2.kept hk hn, fun a ha => ⟨(h3 a ha).1, (h3 a ha).2.kept hk (hn a ha)⟩, h4⟩
theorem Rdr.drewN {w : World} {g : Nat} {l : List Nat} (h : Rdr Q w g l) (k : Nat) : Rdr Q (w.drewN k) g l := h
theorem Rdr.new {w w' : World} {g : Nat} {l : List Nat} (h : Rdr Q w g l) (hk : New w w') : Rdr Q w' g l := h.kept hk (fun f => f) (fun _ f _ => f.elim)
theorem Rdr.at_ {w : World} {g : Nat} {l : List Nat} (h : Rdr Q w g l) : At w g 92 := by
  obtain ⟨A, c, h1, _⟩ := h
  exact h1.at_

theorem Rdr.mono {Q' : Nat → Prop} {w : World} {g : Nat} {l : List Nat} (h : Rdr Q w g l) (hq : ∀ b, Q b → b < w.heap.size → Q' b) : Rdr Q' w g l := by
  obtain ⟨A, c, h1, h2, h3, h4⟩ := h
  exact ⟨A, c, h1, h2, fun a ha => ⟨hq _ (h3 a ha).1 (h3 a ha).2.lt, (h3 a ha).2⟩, h4⟩
/-- Whatever block. -/
abbrev Any : Nat → Prop := fun _ => True
set_option maxRecDepth 100000 in
theorem Rdr.any {w : World} {g : Nat} {l : List Nat} (h : Rdr Q w g l) : Rdr Any w g l := h.mono fun _ _ _ => trivial

theorem isNone_no (g : Nat) (l : List Nat) (w : World) (h : Rdr Q w g l) :
    Calls Try.prog 57 #[.pointer (some ⟨g, 0, none⟩)] w fun e w' => e = .returned (.bool false) ∧ w = w' := by
  obtain ⟨A, c, h1, _⟩ := h
  have hc := h1.cell 0
  simp only [List.getElem?_cons_zero] at hc
  clear h1
  go_enter Try.func57, Try.ntmps57
  go_wp2
  go_ret
  exact ⟨rfl, rfl⟩

set_option maxRecDepth 100000 in
theorem eleft_any (g : Nat) (l : List Nat) (w : World) (h : Rdr Q w g l) :
    Calls Try.prog 40 #[.pointer (some ⟨g, 0, none⟩)] w fun e w' => e = .returned (.int .i64 (l.length : Int)) ∧ w = w' := by
  have hn := isNone_no g l w h
  have Hn := Lib.hid hn
  clear hn
  obtain ⟨A, c, h1, _⟩ := h
  have hc := h1.cell 1
  simp only [List.getElem?_cons_succ, List.getElem?_cons_zero] at hc
  clear h1
  go_enter Try.func40, Try.ntmps40
  go_wp2_with (go_at_call 57; refine Hn.out.mono ?_; rintro e w' ⟨rfl, rfl⟩)
  go_ret
  exact ⟨rfl, rfl⟩

/-- What the reader's cut leaves, and answers: a piece of its own bytes. -/
def CutP (Q : Nat → Prop) (w : World) (g : Nat) (l : List Nat) (n : Nat) (e : Ending) (w' : World) : Prop :=
  ∃ A, e = .returned (.tuple #[.slice A n n, .int .i64 0]) ∧ Bts w' A n (l.take n) ∧ Rdr Q w' g (l.drop n) ∧ Kept (· = g) w w'

theorem Rdr.cut {w : World} {g n : Nat} {l : List Nat} {A A' : Option Addr} {c c' L m : Nat} (h1 : Blk w g 92 [.bool true, .slice A l.length c]) (h2 : Bts w A l.length l)
    (h3 : ∀ a, A = some a → Q a.block ∧ At w a.block 5) (h4 : L ≤ c) (h5 : c ≤ 2 ^ 63 - 1) (hL : l.length = L) (hn : n ≤ L) (hm : m = L - n) (hA : A' = if c = n then A else A.map (·.add n)) (hc : c' = c - n) :
    Bts (w.setCell ⟨g, 1, none⟩ (.slice A' m c')) A n (l.take n) ∧ Rdr Q (w.setCell ⟨g, 1, none⟩ (.slice A' m c')) g (l.drop n) ∧ Kept (· = g) w (w.setCell ⟨g, 1, none⟩ (.slice A' m c')) := by
  subst hL hm
  have hk : Kept (· = g) w (w.setCell ⟨g, 1, none⟩ (.slice A' (l.length - n) c')) := Kept.set1 _ _ _ _
  have hne : ∀ a, A = some a → ¬ a.block = g := fun a ha => (h3 a ha).2.ne_of h1.at_ (by decide)
  refine ⟨(h2.take hn).kept hk hne, ⟨A', c', ?_, ?_, ?_, by simp; omega, by unfold maxLen; omega⟩, hk⟩
  · have := h1.put 1 (.slice A' (l.length - n) c')
    simpa using this
  · have := h2.cut hn h4
    rw [← hA] at this
    rw [List.length_drop]
    refine this.kept hk ?_
    rintro a rfl
    split at hA
    · exact hne a hA.symm
    · obtain ⟨b, hb, rfl⟩ := Option.map_eq_some_iff.1 hA.symm
      have := hne b hb
      unfold Addr.add
      split <;> exact this
  · rintro a rfl
    have hb : ∃ b, A = some b ∧ b.block = a.block := by
      split at hA
      · exact ⟨a, hA.symm, rfl⟩
      · obtain ⟨b, hb, rfl⟩ := Option.map_eq_some_iff.1 hA.symm
        refine ⟨b, hb, ?_⟩
        unfold Addr.add
        split <;> rfl
    obtain ⟨b, hb, e⟩ := hb
    rw [← e]
    exact ⟨(h3 b hb).1, (h3 b hb).2.kept hk (hne b hb)⟩

set_option maxRecDepth 100000 in
theorem cut_ok (g n : Nat) (l : List Nat) (w : World) (h : Rdr Q w g l) (hn : n ≤ l.length) :
    Calls Try.prog 74 #[.pointer (some ⟨g, 0, none⟩), .int .i64 n] w (CutP Q w g l n) := by
  obtain ⟨A, c, h1, h2, h3, h4, h5⟩ := h
  have hc := h1.cell 1
  have hf := h1.free 1
  simp only [List.getElem?_cons_succ, List.getElem?_cons_zero] at hc
  unfold maxLen at h5
  generalize hL : l.length = L at hc h4 hn
  have HL := Lib.hid hL
  clear hL
  have H1 := Lib.hid h1
  have H2 := Lib.hid h2
  clear h1 h2
  go_enter Try.func74, Try.ntmps74
  go_wp2
  all_goals go_ret2
  · have := Rdr.cut (A' := A) (c' := 0) H1.out H2.out h3 h4 h5 HL.out hn rfl (by rw [if_pos h]) (by omega)
    exact ⟨A, rfl, this⟩
  · have := Rdr.cut (A' := A.map (·.add n)) (c' := c - n) H1.out H2.out h3 h4 h5 HL.out hn rfl (by rw [if_neg h]) (by omega)
    exact ⟨A, rfl, this⟩

/-- The reader refuses: nothing is left of it. -/
theorem Rdr.refuse {w : World} {g : Nat} {l : List Nat} (h : Rdr Q w g l) :
    Rdr Q (w.setCell ⟨g, 1, none⟩ (.slice none 0 0)) g [] ∧ Kept (· = g) w (w.setCell ⟨g, 1, none⟩ (.slice none 0 0)) := by
  obtain ⟨A, c, h1, h2, h3, h4, h5⟩ := h
  refine ⟨⟨none, 0, ?_, Bts.nil _ _, by simp, by simp, by simp⟩, Kept.set1 _ _ _ _⟩
  have := h1.put 1 (.slice none 0 0)
  simpa using this

set_option maxRecDepth 100000 in
theorem cut_no (g n : Nat) (l : List Nat) (w : World) (h : Rdr Q w g l) (hn : l.length < n) (_hm : n ≤ 255) :
    Calls Try.prog 74 #[.pointer (some ⟨g, 0, none⟩), .int .i64 n] w
      fun e w' => e = .returned (.tuple #[.slice none 0 0, .int .i64 4]) ∧ Rdr Q w' g [] ∧ Kept (· = g) w w' := by
  have H := Lib.hid h.refuse
  obtain ⟨A, c, h1, h2, h3, h4, h5⟩ := h
  have hc := h1.cell 1
  have hf := h1.free 1
  simp only [List.getElem?_cons_succ, List.getElem?_cons_zero] at hc
  clear h1 h2 h3
  go_enter Try.func74, Try.ntmps74
  go_wp2
  go_ret2
  exact ⟨rfl, H.out⟩

set_option maxRecDepth 100000 in
theorem cut_okZ (g n : Nat) (z : Int) (l : List Nat) (w : World) (h : Rdr Q w g l) (hz : z = (n : Int)) (hn : n ≤ l.length) :
    Calls Try.prog 74 #[.pointer (some ⟨g, 0, none⟩), .int .i64 z] w (CutP Q w g l n) := by subst hz; exact cut_ok g n l w h hn
theorem cut_noZ (g n : Nat) (z : Int) (l : List Nat) (w : World) (h : Rdr Q w g l) (hz : z = (n : Int)) (hn : l.length < n) (hm : n ≤ 255) :
    Calls Try.prog 74 #[.pointer (some ⟨g, 0, none⟩), .int .i64 z] w
      fun e w' => e = .returned (.tuple #[.slice none 0 0, .int .i64 4]) ∧ Rdr Q w' g [] ∧ Kept (· = g) w w' := by subst hz; exact cut_no g n l w h hn hm

/-- The number of bytes, the lowest first. -/
def leV : List Nat → Nat
  | [] => 0
  | x :: r => x + 256 * leV r
theorem leV_append (a b : List Nat) : leV (a ++ b) = leV a + 256 ^ a.length * leV b := by
  induction a with
  | nil => simp [leV]
  | cons x r ih => simp [leV, ih, Nat.pow_succ, Nat.mul_add, Nat.add_assoc, Nat.mul_assoc, Nat.mul_comm]
theorem leV_lt (a : List Nat) (h : ∀ x ∈ a, x < 256) : leV a < 256 ^ a.length := by
  induction a with
  | nil => simp [leV]
  | cons x r ih =>
    have h1 := h x (by simp)
    have h2 := ih fun y hy => h y (by simp [hy])
    simp only [leV, List.length_cons, Nat.pow_succ]
    omega

theorem pow256 (k : Nat) : (256 : Nat) ^ k = 2 ^ (8 * k) := by rw [show (256 : Nat) = 2 ^ 8 from rfl, Nat.pow_mul]
theorem or_shift (m x k : Nat) (hm : m < 256 ^ k) (hx : x < 256) (hk : k < 8) : bits .or .u64 (m : Int) (IntKind.u64.wrap ((x : Int) * 2 ^ (8 * k))) = ((m + 256 ^ k * x : Nat) : Int) := by
  rw [pow256] at hm ⊢
  have hp : (2 : Nat) ^ (8 * k) ≤ 2 ^ 56 := Nat.pow_le_pow_right (by omega) (by omega)
  have hlt : 2 ^ (8 * k) * x < 18446744073709551616 := by
    calc 2 ^ (8 * k) * x ≤ 2 ^ 56 * x := Nat.mul_le_mul_right _ hp
      _ < 18446744073709551616 := by omega
  have e : IntKind.u64.wrap ((x : Int) * 2 ^ (8 * k)) = ((2 ^ (8 * k) * x : Nat) : Int) := by
    have e2 : ((x : Int) * 2 ^ (8 * k)) = ((2 ^ (8 * k) * x : Nat) : Int) := by
      rw [Int.natCast_mul, Int.natCast_pow, Int.mul_comm]; rfl
    rw [IntKind.wrap_u64, e2]
    omega
  rw [e, u64_or_nat _ _ (by omega) hlt, Nat.or_comm, ← Nat.two_pow_add_eq_or_of_lt hm, Nat.add_comm]
theorem leV_take (l : List Nat) (k x : Nat) (hx : l[k]? = some x) : leV (l.take (k + 1)) = leV (l.take k) + 256 ^ k * x := by
  have hk : k < l.length := (List.getElem?_eq_some_iff.1 hx).1
  have e : l[k] = x := (List.getElem?_eq_some_iff.1 hx).2
  rw [List.take_succ_eq_append_getElem hk, leV_append, List.length_take, Nat.min_eq_left (by omega), e]
  simp [leV]

def takeE (l : List Nat) (s : Int) : Int := if isSz s then (if s.toNat ≤ l.length then 0 else 4) else 2
def takeL (l : List Nat) (s : Int) : List Nat := if isSz s then (if s.toNat ≤ l.length then l.drop s.toNat else []) else l
def takeV (l : List Nat) (s : Int) : Nat := if isSz s then (if s.toNat ≤ l.length then leV (l.take s.toNat) else 0) else 0

def TakeP (Q : Nat → Prop) (w : World) (g : Nat) (l : List Nat) (s : Int) (e : Ending) (w' : World) : Prop :=
  e = .returned (.tuple #[.int .u64 (takeV l s : Nat), .int .i64 (takeE l s)]) ∧ Rdr Q w' g (takeL l s) ∧ Kept (· = g) w w'

set_option maxRecDepth 100000 in
set_option maxHeartbeats 400000 in
theorem etake_ok (g : Nat) (l : List Nat) (s : Nat) (w : World) (h : Rdr Q w g l) (hs : isSz s) (hl : s ≤ l.length) :
    Calls Try.prog 55 #[.pointer (some ⟨g, 0, none⟩), .int .i64 s] w
      fun e w' => e = .returned (.tuple #[.int .u64 (leV (l.take s) : Nat), .int .i64 0]) ∧ Rdr Q w' g (l.drop s) ∧ Kept (· = g) w w' := by
  have h8 : s ≤ 8 := by unfold isSz at hs; omega
  have H := Lib.hid h
  clear h
  have hs0 := Lib.hid hs
  clear hs
  go_enter Try.func55, Try.ntmps55
  go_wp2_with (first
    | (go_at_call 57; refine (isNone_no _ _ _ H.out).mono ?_; rintro e w' ⟨rfl, rfl⟩)
    | (go_at_call 73; refine (isSize_yes _ _ hs0.out).mono ?_; rintro e w' ⟨rfl, rfl⟩)
    | (go_at_call 74; refine (cut_ok _ _ _ _ H.out hl).mono ?_; rintro e w' ⟨A, rfl, hb, hr, hk⟩; have HR := Lib.hid hr; have HK := Lib.hid hk; clear hr hk))
  go_loop [8, 27] (fun n i => ∃ k m : Nat, k ≤ s ∧ i = .int .i64 k ∧ n = .int .u64 m ∧ Hid (m = leV ((l.take s).take k)) ∧ m < 256 ^ k) (fun _ i => s - (intOf i).toNat)
  case atStart => exact ⟨0, 0, Nat.zero_le _, rfl, rfl, by simp [Hid, leV], by simp⟩
  case round =>
    obtain ⟨k, m, hk, rfl, rfl, HM, hm⟩ := hrel
    by_cases hlt : k < s
    · obtain ⟨ga, o, x, rfl, hx, hxb, hc⟩ := hb.at_ hlt
      have HX := Lib.hid hx
      clear hb hx
      go_wp2
      have e := or_shift m x k hm hxb (by omega)
      have hlt' : m + 256 ^ k * x < 256 ^ (k + 1) := by
        rw [Nat.pow_succ]
        have : 256 ^ k * x ≤ 256 ^ k * 255 := Nat.mul_le_mul_left _ (by omega)
        omega
      go_round
      case rel => exact ⟨k + 1, m + 256 ^ k * x, by omega, by go_num, by rw [e], by rw [Hid, leV_take _ _ _ HX.out, HM.out], hlt'⟩
      case measure => simp [intOf]; omega
    · clear hb
      go_wp2
      go_ret2
      obtain rfl : k = s := by omega
      have e := HM.out
      rw [List.take_take, Nat.min_self] at e
      refine ⟨?_, HR.out, HK.out⟩
      rw [← e]
      rfl

set_option maxRecDepth 100000 in
theorem etake_short (g : Nat) (l : List Nat) (s : Nat) (w : World) (h : Rdr Q w g l) (hs : isSz s) (hl : l.length < s) :
    Calls Try.prog 55 #[.pointer (some ⟨g, 0, none⟩), .int .i64 s] w
      fun e w' => e = .returned (.tuple #[.int .u64 0, .int .i64 4]) ∧ Rdr Q w' g [] ∧ Kept (· = g) w w' := by
  have h8 : s ≤ 8 := by unfold isSz at hs; omega
  have H := Lib.hid h
  clear h
  have hs0 := Lib.hid hs
  clear hs
  go_enter Try.func55, Try.ntmps55
  go_wp2_with (first
    | (go_at_call 57; refine (isNone_no _ _ _ H.out).mono ?_; rintro e w' ⟨rfl, rfl⟩)
    | (go_at_call 73; refine (isSize_yes _ _ hs0.out).mono ?_; rintro e w' ⟨rfl, rfl⟩)
    | (go_at_call 74; refine (cut_no _ _ _ _ H.out hl (by omega)).mono ?_; rintro e w' ⟨rfl, hr, hk⟩; have HR := Lib.hid hr; have HK := Lib.hid hk; clear hr hk))
  go_ret2
  exact ⟨rfl, HR.out, HK.out⟩

set_option maxRecDepth 100000 in
theorem etake_none (g : Nat) (l : List Nat) (s : Int) (w : World) (h : Rdr Q w g l) (hs : ¬ isSz s) :
    Calls Try.prog 55 #[.pointer (some ⟨g, 0, none⟩), .int .i64 s] w
      fun e w' => e = .returned (.tuple #[.int .u64 0, .int .i64 2]) ∧ Rdr Q w' g l ∧ Kept (· = g) w w' := by
  have H := Lib.hid h
  clear h
  have hs0 := Lib.hid hs
  clear hs
  go_enter Try.func55, Try.ntmps55
  go_wp2_with (first
    | (go_at_call 57; refine (isNone_no _ _ _ H.out).mono ?_; rintro e w' ⟨rfl, rfl⟩)
    | (go_at_call 73; refine (isSize_no _ _ hs0.out).mono ?_; rintro e w' ⟨rfl, rfl⟩))
  go_ret2
  exact ⟨rfl, H.out, Kept.refl _ _⟩

set_option maxRecDepth 100000 in
theorem etake_any (g : Nat) (l : List Nat) (s : Int) (w : World) (h : Rdr Q w g l) :
    Calls Try.prog 55 #[.pointer (some ⟨g, 0, none⟩), .int .i64 s] w (TakeP Q w g l s) := by
  by_cases hs : isSz s
  · obtain ⟨m, rfl⟩ : ∃ m : Nat, s = m := ⟨s.toNat, by unfold isSz at hs; omega⟩
    by_cases hl : m ≤ l.length
    · refine (etake_ok g l m w h hs hl).mono fun e w' x => ?_
      unfold TakeP takeV takeE takeL
      rw [Int.toNat_natCast]
      simp only [hs, hl, if_true]
      exact x
    · refine (etake_short g l m w h hs (by omega)).mono fun e w' x => ?_
      unfold TakeP takeV takeE takeL
      rw [Int.toNat_natCast]
      simp only [hs, hl, if_true, if_false]
      exact x
  · refine (etake_none g l s w h hs).mono fun e w' x => ?_
    unfold TakeP takeV takeE takeL
    simp only [hs, if_false]
    exact x

/-- A row that is taken off: is there one? -/
def isRow (l : List Nat) : Prop := ∃ n r, l = n :: r ∧ n ≤ r.length

/-- A row was taken off: its bytes come back, in memory of their own. -/
def RowP (Q : Nat → Prop) (w : World) (g : Nat) (l k : List Nat) (e : Ending) (w' : World) : Prop :=
  ∃ A c, e = .returned (.tuple #[.slice A l.length c, .int .i64 0]) ∧ OwnB w' 5 w.heap.size A c l ∧ Rdr Q w' g k ∧ Kept (· = g) w w'

set_option maxRecDepth 100000 in
set_option maxHeartbeats 400000 in
theorem erow_ok (g n : Nat) (r : List Nat) (w : World) (h : Rdr Q w g (n :: r)) (hn : n ≤ r.length) :
    Calls Try.prog 85 #[.pointer (some ⟨g, 0, none⟩)] w (RowP Q w g (r.take n) (r.drop n)) := by
  have hn8 : n < 256 := by obtain ⟨A, c, _, h2, _⟩ := h; exact h2.2.1 n (by simp)
  have H := Lib.hid h
  clear h
  go_enter Try.func85, Try.ntmps85
  go_wp2_with (go_at_call 57; refine (isNone_no _ _ _ H.out).mono ?_; rintro e w' ⟨rfl, rfl⟩)
  refine (cut_okZ g 1 1 _ _ H.out rfl (by simp)).mono ?_
  rintro e w1 ⟨A, rfl, hb, hr, hk⟩
  obtain ⟨ga, o, x, rfl, hx, hxb, hc⟩ := hb.at_ (k := 0) (by omega)
  obtain rfl : x = n := by simpa using hx.symm
  have HR := Lib.hid hr
  have HK := Lib.hid hk
  clear hr hk hb hx H
  simp only [Nat.add_zero] at hc
  go_wp2_with fail
  refine (cut_okZ g x _ _ _ HR.out (by rfl) (by simpa using hn)).mono ?_
  rintro e w2 ⟨A, rfl, hb2, hr2, hk2⟩
  have HR2 := Lib.hid hr2
  have HK2 := Lib.hid hk2
  have HB2 := Lib.hid hb2
  clear hr2 hk2 hb2 hc
  go_wp2_with fail
  refine (clone_any A x x _ _ HB2.out (by omega) (fun hA => ?_)).mono ?_
  · subst hA
    rcases Nat.eq_zero_or_pos x with h0 | h0
    · exact ⟨h0, h0⟩
    · obtain ⟨_, _, h, _⟩ := HB2.out.2.2 h0
      cases h
  rintro e w3 ⟨A3, c3, rfl, hown3, hk3⟩
  go_wp2
  go_ret2
  have k2 := HK2.out
  have k1 := HK.out
  have k12 : Kept (· = g) w w2 := k1.trans k2 fun _ _ h => h
  refine ⟨A3, c3, by rw [List.length_take, Nat.min_eq_left hn]; rfl, (by simpa using hown3.mono k12.size), ?_, k12.new hk3⟩
  have := HR2.out.new hk3
  simpa using this

/-- A row that is not there: nothing is left. -/
def ShortP (Q : Nat → Prop) (w : World) (g : Nat) (e : Ending) (w' : World) : Prop :=
  e = .returned (.tuple #[.slice none 0 0, .int .i64 4]) ∧ Rdr Q w' g [] ∧ Kept (· = g) w w'

set_option maxRecDepth 100000 in
theorem erow_nil (g : Nat) (w : World) (h : Rdr Q w g []) :
    Calls Try.prog 85 #[.pointer (some ⟨g, 0, none⟩)] w (ShortP Q w g) := by
  have H := Lib.hid h
  clear h
  go_enter Try.func85, Try.ntmps85
  go_wp2_with (go_at_call 57; refine (isNone_no _ _ _ H.out).mono ?_; rintro e w' ⟨rfl, rfl⟩)
  refine (cut_noZ g 1 1 _ _ H.out rfl (by simp) (by omega)).mono ?_
  rintro e w1 ⟨rfl, hr, hk⟩
  have HR := Lib.hid hr
  have HK := Lib.hid hk
  clear hr hk H
  go_wp2
  go_ret2
  exact ⟨rfl, HR.out, HK.out⟩

set_option maxRecDepth 100000 in
theorem erow_short (g n : Nat) (r : List Nat) (w : World) (h : Rdr Q w g (n :: r)) (hn : r.length < n) :
    Calls Try.prog 85 #[.pointer (some ⟨g, 0, none⟩)] w (ShortP Q w g) := by
  have hn8 : n < 256 := by obtain ⟨A, c, _, h2, _⟩ := h; exact h2.2.1 n (by simp)
  have H := Lib.hid h
  clear h
  go_enter Try.func85, Try.ntmps85
  go_wp2_with (go_at_call 57; refine (isNone_no _ _ _ H.out).mono ?_; rintro e w' ⟨rfl, rfl⟩)
  refine (cut_okZ g 1 1 _ _ H.out rfl (by simp)).mono ?_
  rintro e w1 ⟨A, rfl, hb, hr, hk⟩
  obtain ⟨ga, o, x, rfl, hx, hxb, hc⟩ := hb.at_ (k := 0) (by omega)
  obtain rfl : x = n := by simpa using hx.symm
  have HR := Lib.hid hr
  have HK := Lib.hid hk
  clear hr hk hb hx H
  simp only [Nat.add_zero] at hc
  go_wp2_with fail
  refine (cut_noZ g x _ _ _ HR.out (by rfl) (by simpa using hn) (by omega)).mono ?_
  rintro e w2 ⟨rfl, hr2, hk2⟩
  have HR2 := Lib.hid hr2
  have HK2 := Lib.hid hk2
  clear hr2 hk2 hc
  go_wp2
  go_ret2
  exact ⟨rfl, HR2.out, HK.out.trans HK2.out fun _ _ h => h⟩

end

section
set_option maxRecDepth 100000
open Go.RowKit
variable {Q : Nat → Prop}

theorem leV_drop (l : List Nat) (k x : Nat) (hx : l[k]? = some x) : leV (l.drop k) = x + 256 * leV (l.drop (k + 1)) := by
  have hk : k < l.length := (List.getElem?_eq_some_iff.1 hx).1
  have e : l[k] = x := (List.getElem?_eq_some_iff.1 hx).2
  rw [List.drop_eq_getElem_cons hk, e, leV]

end

section
set_option maxRecDepth 100000
open Go.RowKit

def NewP (w : World) (l : List Nat) (e : Ending) (w' : World) : Prop :=
  ∃ g, e = .returned (.pointer (some ⟨g, 0, none⟩)) ∧ Rdr (fun b => w.heap.size ≤ b) w' g l ∧ w.heap.size ≤ g ∧ New w w'

theorem new_any (A : Option Addr) (n c : Nat) (l : List Nat) (w : World) (ha : Bts w A n l) (hn : n ≤ 140737488351232) (hA : A = none → c = 0 ∧ n = 0) :
    Calls Try.prog 38 #[.slice A n c] w (NewP w l) := by
  have HA := Lib.hid hA
  clear hA
  go_enter Try.func38, Try.ntmps38
  go_wp2_with (go_at_call 37; refine (clone_any A n c l _ ha hn HA.out).mono ?_; rintro e w1 ⟨A1, c1, rfl, hown, hk⟩; have HO := Lib.hid hown; have HK := Lib.hid hk; clear hown hk)
  go_ret
  have hal : New w1 (w1.alloc (.cells #[.bool true, .slice A1 l.length c1] 92)) := (Kept.refl _ _).alloc _
  exact ⟨w1.heap.size, rfl, ⟨A1, c1, Blk.made w1 _ _, HO.out.bts.new hal, fun a h => ⟨(HO.out.at_ a h).2, (HO.out.at_ a h).1.kept hal (fun f => f)⟩, HO.out.le.1, HO.out.le.2⟩, HK.out.size, HK.out.new hal⟩

theorem OwnB.keptR {w w' : World} {B : Nat} {A : Option Addr} {c g : Nat} {l : List Nat} (h : OwnB w 5 B A c l) (hk : Kept (· = g) w w') (hg : At w g 92) : OwnB w' 5 B A c l :=
  h.kept hk fun a ha => (h.at_ a ha).1.ne_of hg (by decide)

end

section
set_option maxRecDepth 100000
open Go.ChangeShapes Go.WideShapes Go.ChangeAt Go.RowKit
variable {Q : Nat → Prop}

def rwL : List Nat → List Nat
  | [] => []
  | n :: r => if n ≤ r.length then r.take n else []
def rwE : List Nat → Int
  | [] => 4
  | n :: r => if n ≤ r.length then 0 else 4
def rwR : List Nat → List Nat
  | [] => []
  | n :: r => if n ≤ r.length then r.drop n else []

def ERowP (Q : Nat → Prop) (w : World) (g : Nat) (q : List Nat) (e : Ending) (w' : World) : Prop :=
  ∃ A c, e = .returned (.tuple #[.slice A (rwL q).length c, .int .i64 (rwE q)]) ∧ OwnB w' 5 w.heap.size A c (rwL q) ∧ Rdr Q w' g (rwR q) ∧ Kept (· = g) w w'

set_option maxRecDepth 100000 in
theorem erow2_any (g : Nat) (q : List Nat) (w : World) (h : Rdr Q w g q) : Calls Try.prog 85 #[.pointer (some ⟨g, 0, none⟩)] w (ERowP Q w g q) := by
  rcases q with _ | ⟨n, r⟩
  · exact (erow_nil g w h).mono fun e w' ⟨h1, h2, h3⟩ => ⟨none, 0, h1, OwnB.nil _ _ _, h2, h3⟩
  · by_cases hn : n ≤ r.length
    · refine (erow_ok g n r w h hn).mono fun e w' ⟨A, c, h1, h2, h3, h4⟩ => ⟨A, c, ?_⟩
      simp only [rwL, rwE, rwR, hn, if_true]
      exact ⟨h1, h2, h3, h4⟩
    · refine (erow_short g n r w h (by omega)).mono fun e w' ⟨h1, h2, h3⟩ => ⟨none, 0, ?_⟩
      simp only [rwL, rwE, rwR, hn, if_false]
      exact ⟨h1, OwnB.nil _ _ _, h2, h3⟩

/-- A slice of integers that is read. -/
def Ins (w : World) (k : IntKind) (A : Option Addr) (n : Nat) (l : List Int) : Prop :=
  l.length = n ∧ (∀ x ∈ l, (Lit.int k x).wf = true) ∧ (0 < n → ∃ g o : Nat, A = some ⟨g, o, none⟩ ∧ ∀ (j : Nat) (x : Int), l[j]? = some x → w.cell? ⟨g, o + j, none⟩ = some (.int k x))
theorem Ins.at_ {w : World} {k : IntKind} {A : Option Addr} {n : Nat} {l : List Int} {j : Nat} (h : Ins w k A n l) (hj : j < n) :
    ∃ g o x, A = some ⟨g, o, none⟩ ∧ l[j]? = some x ∧ (Lit.int k x).wf = true ∧ w.cell? ⟨g, o + j, none⟩ = some (.int k x) := by
  obtain ⟨hl, hb, hc⟩ := h
  obtain ⟨g, o, e, hc⟩ := hc (by omega)
  have hk' : j < l.length := by omega
  exact ⟨g, o, l[j], e, List.getElem?_eq_getElem hk', hb _ (List.getElem_mem hk'), hc _ _ (List.getElem?_eq_getElem hk')⟩
theorem Ins.new {w w' : World} {k : IntKind} {A : Option Addr} {n : Nat} {l : List Int} (h : Ins w k A n l) (hk : New w w') : Ins w' k A n l := by
  obtain ⟨hl, hb, hc⟩ := h
  refine ⟨hl, hb, fun h0 => ?_⟩
  obtain ⟨g, o, e, hc⟩ := hc h0
  exact ⟨g, o, e, fun j x hx => hk.cell (hc j x hx) (fun f => f)⟩

structure IsI (W : World) (k : IntKind) (v : Value) (A : Option Addr) (n c : Nat) (l : List Int) : Prop where
  val : v = .slice A n c
  ins : Ins W k A n l
  le : n ≤ c
  cap : c ≤ maxLen

section
variable {H : Type} {enc : TypeId × Value → H} {P : Program}
theorem Arg.intsK {W : World} {base : Nat} {t e : TypeId} {k : IntKind} {v : Value} {d : DataW H} {p : List MemPlace} (h : Arg enc P W base t v d p) (ht : P.underlying t = some (.slice e)) (he : P.underlying e = some (.int k)) (hc : P.cellsOf e = 1) :
    ∃ A n c l, IsI W k v A n c l := by
  obtain ⟨A, n, c, rfl⟩ := okWide_slice ht h.ok
  obtain ⟨fuel, hf⟩ := h.tr
  rcases open_ints ht he hc hf with ⟨hcs, hx⟩ | ⟨a, len, cap, zs, hcs, _, hl, hm, hz, hx, hcell, hwz⟩
  · simp [Value.cells] at hcs
    obtain ⟨rfl, rfl, rfl⟩ := hcs
    exact ⟨none, 0, 0, [], rfl, ⟨rfl, by simp, fun h => absurd h (by omega)⟩, Nat.le_refl _, by simp⟩
  · simp [Value.cells] at hcs
    obtain ⟨rfl, rfl, rfl⟩ := hcs
    simp only [if_true] at hz
    refine ⟨some a, n, c, zs.take n, rfl, ⟨by simp; omega, fun x hx => hwz x (List.mem_of_mem_take hx), ?_⟩, hl, hm⟩
    intro h0
    obtain ⟨b, off, rfl, hc2⟩ := ints_at hcell (by omega)
    refine ⟨b, off, rfl, fun j x hx => ?_⟩
    rw [List.getElem?_take] at hx
    split at hx
    · have hj : j < zs.length := (List.getElem?_eq_some_iff.1 hx).1
      rw [hc2 j hj, List.getD_eq_getElem?_getD, hx]
      rfl
    · cases hx
end

end

end Go.Proofs.Ytbiihjdjbknibaa
