/-
  Contracts of layer 1's functions that layer 2 calls, and of the words for lists that all references share: what each call answers, and what it leaves.
-/
import Derived.Test.YtgfdiboaiifdnaaGreatRows
import Derived.Test.YtgfdiboaiifdnaaGreatKit
import Derived.Test.YtgfdiboaiifdnaaGreatLift
import Derived.WalkSpells
import Derived.Lib.SlBytesConst
namespace Go.Proofs.YtgfdiboaiifdnaaGreat
open Go.ChangeShapes Go.WideShapes Go.ChangeAt Go.RowKit



theorem info_u8 : (Tryz.prog.info? 5).map (fun i => (i.zero, i.size, i.bytes)) = some (some (.int .u8 0), 1, 1) := by kernel_rfl

def isSz (s : Int) : Prop := s = 1 ∨ s = 2 ∨ s = 4 ∨ s = 8

instance (s : Int) : Decidable (isSz s) := by unfold isSz; infer_instance

theorem isSize_yes (s : Int) (w : World) (h : isSz s) :
    Calls Tryz.prog 95 #[.int .i64 s] w fun e w' => e = .returned (.bool true) ∧ w = w' := by
  rcases h with rfl | rfl | rfl | rfl
  all_goals
    go_enter Tryz.func95, Tryz.ntmps95
    go_wp2
    go_ret
    exact ⟨rfl, rfl⟩

theorem isSize_no (s : Int) (w : World) (h : ¬ isSz s) :
    Calls Tryz.prog 95 #[.int .i64 s] w fun e w' => e = .returned (.bool false) ∧ w = w' := by
  unfold isSz at h
  have h1 : (s == 1) = false := beq_eq_false_iff_ne.2 (by omega)
  have h2 : (s == 2) = false := beq_eq_false_iff_ne.2 (by omega)
  have h3 : (s == 4) = false := beq_eq_false_iff_ne.2 (by omega)
  have h4 : (s == 8) = false := beq_eq_false_iff_ne.2 (by omega)
  clear h
  go_enter Tryz.func95, Tryz.ntmps95
  go_wp2
  go_ret
  exact ⟨rfl, rfl⟩

/-- Does n fit into s bytes? -/
def fitB (n s : Nat) : Bool := decide (n < 256 ^ s)

theorem fits_any (n s : Nat) (w : World) (hn : n < 18446744073709551616) (h : isSz s) :
    Calls Tryz.prog 100 #[.int .u64 n, .int .i64 s] w fun e w' => e = .returned (.bool (fitB n s)) ∧ w = w' := by
  have hs : s = 1 ∨ s = 2 ∨ s = 4 ∨ s = 8 := by unfold isSz at h; omega
  clear h
  rcases hs with rfl | rfl | rfl | rfl
  all_goals
    go_enter Tryz.func100, Tryz.ntmps100
    go_wp2
    go_ret
    exact ⟨ret_bool (by unfold fitB; rw [Bool.eq_iff_iff]; simp; omega), rfl⟩

/-- The bytes of n, the lowest first. -/
def leB (n s : Nat) : List Nat := (List.range s).map fun j => n / 256 ^ j % 256

theorem leB_length (n s : Nat) : (leB n s).length = s := by simp [leB]

theorem leB_lt (n s : Nat) : ∀ x ∈ leB n s, x < 256 := by
  intro x hx
  obtain ⟨j, _, rfl⟩ := List.mem_map.1 hx
  omega

theorem leB_succ (n s : Nat) : leB n (s + 1) = leB n s ++ [n / 256 ^ s % 256] := by simp [leB, List.range_succ]

/-- A list of bytes comes back, in memory of its own, with an error's number. -/
def RetB (w : World) (l : List Nat) (er : Int) (e : Ending) (w' : World) : Prop :=
  ∃ A c, e = .returned (.tuple #[.slice A l.length c, .int .i64 er]) ∧ OwnB w' 5 w.heap.size A c l ∧ New w w'

theorem RetB.nil (w w' : World) (er : Int) (h : New w w') : RetB w [] er (.returned (.tuple #[.slice none 0 0, .int .i64 er])) w' := ⟨none, 0, rfl, OwnB.nil _ _ _, h⟩

theorem put_step (n s k : Nat) (hk : k < s) (v : Value) (hv : v = byt (n / 256 ^ k % 256)) :
    ((leB n k ++ List.replicate (s - k) 0).map byt).set k v = (leB n (k + 1) ++ List.replicate (s - (k + 1)) 0).map byt := by
  subst hv
  obtain ⟨m, rfl⟩ : ∃ m, s = k + 1 + m := ⟨s - (k + 1), by omega⟩
  have e1 : k + 1 + m - k = m + 1 := by omega
  have e2 : k + 1 + m - (k + 1) = m := by omega
  rw [e1, e2, leB_succ, List.map_append, List.set_append_right _ _ (by simp [leB_length])]
  simp [leB_length, List.replicate_succ]

theorem byt_shift (n k : Nat) : Value.int .u8 ((n : Int) / 2 ^ (8 * k) % 256) = byt (n / 256 ^ k % 256) := by
  unfold byt
  have e : (256 : Nat) ^ k = 2 ^ (8 * k) := by rw [show (256 : Nat) = 2 ^ 8 from rfl, Nat.pow_mul]
  rw [e, Int.natCast_emod, Int.natCast_ediv, Int.natCast_pow]
  rfl

set_option maxHeartbeats 400000 in
theorem put_ok (n s : Nat) (w : World) (hn : n < 18446744073709551616) (hs : isSz s) (hf : fitB n s = true) :
    Calls Tryz.prog 98 #[.int .u64 n, .int .i64 s] w (RetB w (leB n s) 0) := by
  have h8 : s ≤ 8 := by unfold isSz at hs; omega
  obtain ⟨i0, hi, hz0, hz1, hz2⟩ := info_parts info_u8
  have hmk := fun u => run_make_bytes (P := Tryz.prog) 27 5 i0 Tryz.underlying27 hi hz0 hz1 hz2 .i64 .i64 s s s s rfl rfl (Nat.le_refl _) (by omega) u
  go_enter Tryz.func98, Tryz.ntmps98
  go_wp2_with (first
    | (go_at_call 95; refine (isSize_yes _ _ hs).mono ?_; rintro e w' ⟨rfl, rfl⟩)
    | (go_at_call 100; refine (fits_any _ _ _ hn hs).mono ?_; rintro e w' ⟨rfl, rfl⟩))
  go_loopw [21] (fun i wr => ∃ k : Nat, k ≤ s ∧ i = .int .i64 k ∧ Blk wr w.heap.size 5 ((leB n k ++ List.replicate (s - k) 0).map byt) ∧ New w wr) (fun i _ => s - (intOf i).toNat)
  case atStart => exact ⟨0, Nat.zero_le _, rfl, Blk.madeB w 5 _, (Kept.refl _ _).alloc _⟩
  case round =>
    obtain ⟨k, hk, rfl, hblk, hnew⟩ := hrel
    by_cases hlt : k < s
    · have hcell : wr.cell? ⟨w.heap.size, k, none⟩ = some (byt 0) := by
        rw [hblk.cell, List.map_append, List.getElem?_append_right (by simp [leB_length])]
        simp [leB_length, List.getElem?_replicate]; omega
      have hfree := hblk.free k
      go_wp2
      go_roundw
      case rel =>
        refine ⟨k + 1, by omega, by go_num, ?_, hnew.setCell (fun h => absurd h (by simp)) _⟩
        rw [← put_step n s k hlt (.int .u8 ((n : Int) / 2 ^ (8 * k) % 256)) (byt_shift n k)]
        exact hblk.put k _
      case measure => simp [intOf]; omega
    · go_wp2
      go_ret2
      obtain rfl : k = s := by omega
      have h8' : (leB n k).length = k := leB_length n k
      refine ⟨some ⟨w.heap.size, 0, none⟩, k, by rw [h8']; rfl, ⟨leB_lt n k, .inr ⟨_, [], rfl, Nat.le_refl _, by simpa using hblk, by simp, by simp [h8'], by unfold maxLen; omega⟩⟩, hnew⟩

theorem put_no (n : Nat) (s : Int) (w : World) (hn : n < 18446744073709551616) (h : ¬ (isSz s ∧ fitB n s.toNat = true)) :
    Calls Tryz.prog 98 #[.int .u64 n, .int .i64 s] w (RetB w [] 2) := by
  by_cases hs : isSz s
  · have hf : fitB n s.toNat = false := by simpa [hs] using h
    obtain ⟨m, rfl⟩ : ∃ m : Nat, s = m := ⟨s.toNat, by unfold isSz at hs; omega⟩
    simp only [Int.toNat_natCast] at hf
    clear h
    go_enter Tryz.func98, Tryz.ntmps98
    go_wp2_with (first
      | (go_at_call 95; refine (isSize_yes _ _ hs).mono ?_; rintro e w' ⟨rfl, rfl⟩)
      | (go_at_call 100; refine (fits_any _ _ _ hn hs).mono ?_; rintro e w' ⟨rfl, rfl⟩))
    go_ret2
    exact RetB.nil _ _ _ (Kept.refl _ _)
  · clear h
    go_enter Tryz.func98, Tryz.ntmps98
    go_wp2_with (go_at_call 95; refine (isSize_no _ _ hs).mono ?_; rintro e w' ⟨rfl, rfl⟩)
    go_ret2
    exact RetB.nil _ _ _ (Kept.refl _ _)



/-- A call only reads: a bool comes back. -/
def Quiet (w : World) (b : Bool) (e : Ending) (w' : World) : Prop := ∃ d, e = .returned (.bool b) ∧ w' = w.drewN d

set_option maxHeartbeats 400000 in
theorem same_eq (A B : Option Addr) (n c d : Nat) (l : List Nat) (w : World) (ha : Bts w A n l) (hb : Bts w B n l) (hn : n ≤ maxLen) :
    Calls Tryz.prog 9 #[.slice A n c, .slice B n d] w (Quiet w true) := by
  unfold maxLen at hn
  go_enter Tryz.func9, Tryz.ntmps9
  go_wp2
  go_loopw [5] (fun i wr => ∃ k q : Nat, k ≤ n ∧ i = .int .i64 k ∧ wr = w.drewN q) (fun i _ => n - (intOf i).toNat)
  case atStart => exact ⟨0, 0, Nat.zero_le _, rfl, rfl⟩
  case round =>
    obtain ⟨k, q, hk, rfl, rfl⟩ := hrel
    by_cases hlt : k < n
    · obtain ⟨g, o, x, rfl, hx, hxb, hc⟩ := ha.at_ hlt
      obtain ⟨g', o', y, rfl, hy, hyb, hc'⟩ := hb.at_ hlt
      obtain rfl : x = y := by rw [hx] at hy; injection hy
      clear ha hb hx hy
      go_wp2
      go_quiet (fail)
      go_wp2
      go_roundw
      case rel => exact ⟨k + 1, _, by omega, by go_num, rfl⟩
      case measure => simp [intOf]; omega
    · clear ha hb
      go_wp2
      go_ret
      exact ⟨q, rfl, rfl⟩

/-- Bytes come back, in memory of their own. -/
def RetL (w : World) (l : List Nat) (e : Ending) (w' : World) : Prop :=
  ∃ A c, e = .returned (.slice A l.length c) ∧ OwnB w' 5 w.heap.size A c l ∧ New w w'

theorem clone_any (A : Option Addr) (n c : Nat) (l : List Nat) (w : World) (ha : Bts w A n l) (hn : n ≤ 140737488351232) (hA : A = none → c = 0 ∧ n = 0) :
    Calls Tryz.prog 18 #[.slice A n c] w (RetL w l) := by
  obtain ⟨i0, hi, hz0, hz1, hz2⟩ := info_parts info_u8
  have hl := ha.1
  have hq := fun w a n c => Lib.run_eql_slice_nil (P := Tryz.prog) w 27 5 a n c 0 0 Tryz.underlying27
  rcases A with _ | a
  · obtain ⟨rfl, rfl⟩ := hA rfl
    obtain rfl : l = [] := List.eq_nil_of_length_eq_zero hl
    clear hA
    go_enter Tryz.func18, Tryz.ntmps18
    go_wp2
    go_ret
    exact ⟨none, 0, rfl, OwnB.nil _ _ _, Kept.refl _ _⟩
  · clear hA
    go_enter Tryz.func18, Tryz.ntmps18
    go_wp2_with (at_builtin; refine wpList_append_bytes _ rfl _ _ _ rfl 5 i0 Tryz.underlying27 hi hz0 hz1 hz2 w.heap.size (some ⟨w.heap.size, 0, none⟩) 0 0 [] rfl ?_ rfl (some a) n c l rfl ?_ ?_ ?_ ?_)
    · exact ⟨by simp, .inr ⟨_, [], rfl, Nat.le_refl _, Blk.madeB w 5 [], by simp, rfl, by simp⟩⟩
    · exact ha.new ((Kept.refl _ _).alloc _)
    · simp; omega
    · simp
    intro A2 c2 w2 hown hg _
    go_wp2
    go_ret
    subst hl
    exact ⟨A2, c2, by simp, by simpa using hown, ((Kept.refl _ _).alloc _).grown hg (by simp; omega)⟩

theorem Kept.of_own {w w1 w2 : World} {t : TypeId} {A : Option Addr} {c : Nat} {l : List Nat} (k : New w w1) (h : OwnB w1 t w.heap.size A c l) (hg : w1.grownBy w2 (A.map (·.block))) : New w w2 :=
  k.grown hg fun q hq hA => by
    obtain ⟨a, rfl, rfl⟩ := Option.map_eq_some_iff.1 hA
    have := (h.at_ a rfl).2
    omega

/-- The bytes of a number, or the error. -/
def putL (n : Nat) (s : Int) : List Nat := if isSz s ∧ fitB n s.toNat = true then leB n s.toNat else []

def putE (n : Nat) (s : Int) : Int := if isSz s ∧ fitB n s.toNat = true then 0 else 2

theorem eput_any (n : Nat) (s : Int) (w : World) (hn : n < 18446744073709551616) :
    Calls Tryz.prog 98 #[.int .u64 n, .int .i64 s] w (RetB w (putL n s) (putE n s)) := by
  by_cases h : isSz s ∧ fitB n s.toNat = true
  · have e1 : putL n s = leB n s.toNat := by unfold putL; rw [if_pos h]
    have e2 : putE n s = 0 := by unfold putE; rw [if_pos h]
    rw [e1, e2]
    obtain ⟨m, rfl⟩ : ∃ m : Nat, s = m := ⟨s.toNat, by have := h.1; unfold isSz at this; omega⟩
    rw [Int.toNat_natCast] at h ⊢
    exact put_ok n m w hn h.1 h.2
  · have e1 : putL n s = [] := by unfold putL; rw [if_neg h]
    have e2 : putE n s = 2 := by unfold putE; rw [if_neg h]
    rw [e1, e2]
    exact put_no n s w hn h

variable {Q : Nat → Prop}

/-- The reader in block g has the bytes l left. -/
def Rdr (Q : Nat → Prop) (w : World) (g : Nat) (l : List Nat) : Prop :=
  ∃ A c, Blk w g 140 [.bool true, .slice A l.length c] ∧ Bts w A l.length l ∧ (∀ a, A = some a → Q a.block ∧ At w a.block 5) ∧ l.length ≤ c ∧ c ≤ maxLen

theorem Rdr.kept {S : Nat → Prop} {w w' : World} {g : Nat} {l : List Nat} (h : Rdr Q w g l) (hk : Kept S w w') (hg : ¬ S g) (hs : ∀ k, S k → Q k → ¬ At w k 5) : Rdr Q w' g l := by
  obtain ⟨A, c, h1, h2, h3, h4⟩ := h
  have hn : ∀ a, A = some a → ¬ S a.block := fun a ha hS => hs _ hS (h3 a ha).1 (h3 a ha).2
  exact ⟨A, c, h1.kept hk hg, h2.kept hk hn, fun a ha => ⟨(h3 a ha).1, (h3 a ha).2.kept hk (hn a ha)⟩, h4⟩

theorem Rdr.drewN {w : World} {g : Nat} {l : List Nat} (h : Rdr Q w g l) (k : Nat) : Rdr Q (w.drewN k) g l := h

theorem Rdr.new {w w' : World} {g : Nat} {l : List Nat} (h : Rdr Q w g l) (hk : New w w') : Rdr Q w' g l := h.kept hk (fun f => f) (fun _ f _ => f.elim)

theorem Rdr.at_ {w : World} {g : Nat} {l : List Nat} (h : Rdr Q w g l) : At w g 140 := by
  obtain ⟨A, c, h1, _⟩ := h
  exact h1.at_

theorem Rdr.mono {Q' : Nat → Prop} {w : World} {g : Nat} {l : List Nat} (h : Rdr Q w g l) (hq : ∀ b, Q b → b < w.heap.size → Q' b) : Rdr Q' w g l := by
  obtain ⟨A, c, h1, h2, h3, h4⟩ := h
  exact ⟨A, c, h1, h2, fun a ha => ⟨hq _ (h3 a ha).1 (h3 a ha).2.lt, (h3 a ha).2⟩, h4⟩

/-- Whatever block. -/
abbrev Any : Nat → Prop := fun _ => True

theorem Rdr.any {w : World} {g : Nat} {l : List Nat} (h : Rdr Q w g l) : Rdr Any w g l := h.mono fun _ _ _ => trivial

theorem isNone_no (g : Nat) (l : List Nat) (w : World) (h : Rdr Q w g l) :
    Calls Tryz.prog 94 #[.pointer (some ⟨g, 0, none⟩)] w fun e w' => e = .returned (.bool false) ∧ w = w' := by
  obtain ⟨A, c, h1, _⟩ := h
  have hc := h1.cell 0
  simp only [List.getElem?_cons_zero] at hc
  clear h1
  go_enter Tryz.func94, Tryz.ntmps94
  go_wp2
  go_ret
  exact ⟨rfl, rfl⟩

/-- What the reader's cut leaves, and answers: a piece of its own bytes. -/
def CutP (Q : Nat → Prop) (w : World) (g : Nat) (l : List Nat) (n : Nat) (e : Ending) (w' : World) : Prop :=
  ∃ A, e = .returned (.tuple #[.slice A n n, .int .i64 0]) ∧ Bts w' A n (l.take n) ∧ Rdr Q w' g (l.drop n) ∧ Kept (· = g) w w'

theorem Rdr.cut {w : World} {g n : Nat} {l : List Nat} {A A' : Option Addr} {c c' L m : Nat} (h1 : Blk w g 140 [.bool true, .slice A l.length c]) (h2 : Bts w A l.length l)
    (h3 : ∀ a, A = some a → Q a.block ∧ At w a.block 5) (h4 : L ≤ c) (h5 : c ≤ 2 ^ 63 - 1) (hL : l.length = L) (hn : n ≤ L) (hm : m = L - n) (hA : A' = if c = n then A else A.map (·.add n)) (hc : c' = c - n) :
    Bts (w.setCell ⟨g, 1, none⟩ (.slice A' m c')) A n (l.take n) ∧ Rdr Q (w.setCell ⟨g, 1, none⟩ (.slice A' m c')) g (l.drop n) ∧ Kept (· = g) w (w.setCell ⟨g, 1, none⟩ (.slice A' m c')) := by
  subst hL hm
  have hk : Kept (· = g) w (w.setCell ⟨g, 1, none⟩ (.slice A' (l.length - n) c')) := Kept.set1 _ _ _ _
  have hne : ∀ a, A = some a → ¬ a.block = g := fun a ha => (h3 a ha).2.ne_of h1.at_ (by decide)
  refine ⟨(h2.take hn).kept hk hne, ⟨A', c', ?_, ?_, ?_, by simp; omega, by unfold maxLen; omega⟩, hk⟩
  · have := h1.put 1 (.slice A' (l.length - n) c')
    simpa using this
  · have := h2.cut hn h4
    rw [← hA] at this
    rw [List.length_drop]
    refine this.kept hk ?_
    rintro a rfl
    split at hA
    · exact hne a hA.symm
    · obtain ⟨b, hb, rfl⟩ := Option.map_eq_some_iff.1 hA.symm
      have := hne b hb
      unfold Addr.add
      split <;> exact this
  · rintro a rfl
    have hb : ∃ b, A = some b ∧ b.block = a.block := by
      split at hA
      · exact ⟨a, hA.symm, rfl⟩
      · obtain ⟨b, hb, rfl⟩ := Option.map_eq_some_iff.1 hA.symm
        refine ⟨b, hb, ?_⟩
        unfold Addr.add
        split <;> rfl
    obtain ⟨b, hb, e⟩ := hb
    rw [← e]
    exact ⟨(h3 b hb).1, (h3 b hb).2.kept hk (hne b hb)⟩

theorem cut_ok (g n : Nat) (l : List Nat) (w : World) (h : Rdr Q w g l) (hn : n ≤ l.length) :
    Calls Tryz.prog 96 #[.pointer (some ⟨g, 0, none⟩), .int .i64 n] w (CutP Q w g l n) := by
  obtain ⟨A, c, h1, h2, h3, h4, h5⟩ := h
  have hc := h1.cell 1
  have hf := h1.free 1
  simp only [List.getElem?_cons_succ, List.getElem?_cons_zero] at hc
  unfold maxLen at h5
  generalize hL : l.length = L at hc h4 hn
  have HL := Lib.hid hL
  clear hL
  have H1 := Lib.hid h1
  have H2 := Lib.hid h2
  clear h1 h2
  go_enter Tryz.func96, Tryz.ntmps96
  go_wp2
  all_goals go_ret2
  · have := Rdr.cut (A' := A) (c' := 0) H1.out H2.out h3 h4 h5 HL.out hn rfl (by rw [if_pos h]) (by omega)
    exact ⟨A, rfl, this⟩
  · have := Rdr.cut (A' := A.map (·.add n)) (c' := c - n) H1.out H2.out h3 h4 h5 HL.out hn rfl (by rw [if_neg h]) (by omega)
    exact ⟨A, rfl, this⟩

/-- The reader refuses: nothing is left of it. -/
theorem Rdr.refuse {w : World} {g : Nat} {l : List Nat} (h : Rdr Q w g l) :
    Rdr Q (w.setCell ⟨g, 1, none⟩ (.slice none 0 0)) g [] ∧ Kept (· = g) w (w.setCell ⟨g, 1, none⟩ (.slice none 0 0)) := by
  obtain ⟨A, c, h1, h2, h3, h4, h5⟩ := h
  refine ⟨⟨none, 0, ?_, Bts.nil _ _, by simp, by simp, by simp⟩, Kept.set1 _ _ _ _⟩
  have := h1.put 1 (.slice none 0 0)
  simpa using this

theorem cut_no (g n : Nat) (l : List Nat) (w : World) (h : Rdr Q w g l) (hn : l.length < n) (_hm : n ≤ 255) :
    Calls Tryz.prog 96 #[.pointer (some ⟨g, 0, none⟩), .int .i64 n] w
      fun e w' => e = .returned (.tuple #[.slice none 0 0, .int .i64 4]) ∧ Rdr Q w' g [] ∧ Kept (· = g) w w' := by
  have H := Lib.hid h.refuse
  obtain ⟨A, c, h1, h2, h3, h4, h5⟩ := h
  have hc := h1.cell 1
  have hf := h1.free 1
  simp only [List.getElem?_cons_succ, List.getElem?_cons_zero] at hc
  clear h1 h2 h3
  go_enter Tryz.func96, Tryz.ntmps96
  go_wp2
  go_ret2
  exact ⟨rfl, H.out⟩

theorem cut_okZ (g n : Nat) (z : Int) (l : List Nat) (w : World) (h : Rdr Q w g l) (hz : z = (n : Int)) (hn : n ≤ l.length) :
    Calls Tryz.prog 96 #[.pointer (some ⟨g, 0, none⟩), .int .i64 z] w (CutP Q w g l n) := by subst hz; exact cut_ok g n l w h hn

theorem cut_noZ (g n : Nat) (z : Int) (l : List Nat) (w : World) (h : Rdr Q w g l) (hz : z = (n : Int)) (hn : l.length < n) (hm : n ≤ 255) :
    Calls Tryz.prog 96 #[.pointer (some ⟨g, 0, none⟩), .int .i64 z] w
      fun e w' => e = .returned (.tuple #[.slice none 0 0, .int .i64 4]) ∧ Rdr Q w' g [] ∧ Kept (· = g) w w' := by subst hz; exact cut_no g n l w h hn hm

/-- The number of bytes, the lowest first. -/
def leV : List Nat → Nat
  | [] => 0
  | x :: r => x + 256 * leV r

theorem leV_append (a b : List Nat) : leV (a ++ b) = leV a + 256 ^ a.length * leV b := by
  induction a with
  | nil => simp [leV]
  | cons x r ih => simp [leV, ih, Nat.pow_succ, Nat.mul_add, Nat.add_assoc, Nat.mul_assoc, Nat.mul_comm]

theorem leV_lt (a : List Nat) (h : ∀ x ∈ a, x < 256) : leV a < 256 ^ a.length := by
  induction a with
  | nil => simp [leV]
  | cons x r ih =>
    have h1 := h x (by simp)
    have h2 := ih fun y hy => h y (by simp [hy])
    simp only [leV, List.length_cons, Nat.pow_succ]
    omega

theorem pow256 (k : Nat) : (256 : Nat) ^ k = 2 ^ (8 * k) := by rw [show (256 : Nat) = 2 ^ 8 from rfl, Nat.pow_mul]

theorem or_shift (m x k : Nat) (hm : m < 256 ^ k) (hx : x < 256) (hk : k < 8) : bits .or .u64 (m : Int) (IntKind.u64.wrap ((x : Int) * 2 ^ (8 * k))) = ((m + 256 ^ k * x : Nat) : Int) := by
  rw [pow256] at hm ⊢
  have hp : (2 : Nat) ^ (8 * k) ≤ 2 ^ 56 := Nat.pow_le_pow_right (by omega) (by omega)
  have hlt : 2 ^ (8 * k) * x < 18446744073709551616 := by
    calc 2 ^ (8 * k) * x ≤ 2 ^ 56 * x := Nat.mul_le_mul_right _ hp
      _ < 18446744073709551616 := by omega
  have e : IntKind.u64.wrap ((x : Int) * 2 ^ (8 * k)) = ((2 ^ (8 * k) * x : Nat) : Int) := by
    have e2 : ((x : Int) * 2 ^ (8 * k)) = ((2 ^ (8 * k) * x : Nat) : Int) := by
      rw [Int.natCast_mul, Int.natCast_pow, Int.mul_comm]; rfl
    rw [IntKind.wrap_u64, e2]
    omega
  rw [e, u64_or_nat _ _ (by omega) hlt, Nat.or_comm, ← Nat.two_pow_add_eq_or_of_lt hm, Nat.add_comm]

theorem leV_take (l : List Nat) (k x : Nat) (hx : l[k]? = some x) : leV (l.take (k + 1)) = leV (l.take k) + 256 ^ k * x := by
  have hk : k < l.length := (List.getElem?_eq_some_iff.1 hx).1
  have e : l[k] = x := (List.getElem?_eq_some_iff.1 hx).2
  rw [List.take_succ_eq_append_getElem hk, leV_append, List.length_take, Nat.min_eq_left (by omega), e]
  simp [leV]

def takeE (l : List Nat) (s : Int) : Int := if isSz s then (if s.toNat ≤ l.length then 0 else 4) else 2

def takeL (l : List Nat) (s : Int) : List Nat := if isSz s then (if s.toNat ≤ l.length then l.drop s.toNat else []) else l

def takeV (l : List Nat) (s : Int) : Nat := if isSz s then (if s.toNat ≤ l.length then leV (l.take s.toNat) else 0) else 0

def TakeP (Q : Nat → Prop) (w : World) (g : Nat) (l : List Nat) (s : Int) (e : Ending) (w' : World) : Prop :=
  e = .returned (.tuple #[.int .u64 (takeV l s : Nat), .int .i64 (takeE l s)]) ∧ Rdr Q w' g (takeL l s) ∧ Kept (· = g) w w'

set_option maxHeartbeats 400000 in
theorem etake_ok (g : Nat) (l : List Nat) (s : Nat) (w : World) (h : Rdr Q w g l) (hs : isSz s) (hl : s ≤ l.length) :
    Calls Tryz.prog 84 #[.pointer (some ⟨g, 0, none⟩), .int .i64 s] w
      fun e w' => e = .returned (.tuple #[.int .u64 (leV (l.take s) : Nat), .int .i64 0]) ∧ Rdr Q w' g (l.drop s) ∧ Kept (· = g) w w' := by
  have h8 : s ≤ 8 := by unfold isSz at hs; omega
  have H := Lib.hid h
  clear h
  have hs0 := Lib.hid hs
  clear hs
  go_enter Tryz.func84, Tryz.ntmps84
  go_wp2_with (first
    | (go_at_call 94; refine (isNone_no _ _ _ H.out).mono ?_; rintro e w' ⟨rfl, rfl⟩)
    | (go_at_call 95; refine (isSize_yes _ _ hs0.out).mono ?_; rintro e w' ⟨rfl, rfl⟩)
    | (go_at_call 96; refine (cut_ok _ _ _ _ H.out hl).mono ?_; rintro e w' ⟨A, rfl, hb, hr, hk⟩; have HR := Lib.hid hr; have HK := Lib.hid hk; clear hr hk))
  go_loop [8, 27] (fun n i => ∃ k m : Nat, k ≤ s ∧ i = .int .i64 k ∧ n = .int .u64 m ∧ Hid (m = leV ((l.take s).take k)) ∧ m < 256 ^ k) (fun _ i => s - (intOf i).toNat)
  case atStart => exact ⟨0, 0, Nat.zero_le _, rfl, rfl, by simp [Hid, leV], by simp⟩
  case round =>
    obtain ⟨k, m, hk, rfl, rfl, HM, hm⟩ := hrel
    by_cases hlt : k < s
    · obtain ⟨ga, o, x, rfl, hx, hxb, hc⟩ := hb.at_ hlt
      have HX := Lib.hid hx
      clear hb hx
      go_wp2
      have e := or_shift m x k hm hxb (by omega)
      have hlt' : m + 256 ^ k * x < 256 ^ (k + 1) := by
        rw [Nat.pow_succ]
        have : 256 ^ k * x ≤ 256 ^ k * 255 := Nat.mul_le_mul_left _ (by omega)
        omega
      go_round
      case rel => exact ⟨k + 1, m + 256 ^ k * x, by omega, by go_num, by rw [e], by rw [Hid, leV_take _ _ _ HX.out, HM.out], hlt'⟩
      case measure => simp [intOf]; omega
    · clear hb
      go_wp2
      go_ret2
      obtain rfl : k = s := by omega
      have e := HM.out
      rw [List.take_take, Nat.min_self] at e
      refine ⟨?_, HR.out, HK.out⟩
      rw [← e]
      rfl

theorem etake_short (g : Nat) (l : List Nat) (s : Nat) (w : World) (h : Rdr Q w g l) (hs : isSz s) (hl : l.length < s) :
    Calls Tryz.prog 84 #[.pointer (some ⟨g, 0, none⟩), .int .i64 s] w
      fun e w' => e = .returned (.tuple #[.int .u64 0, .int .i64 4]) ∧ Rdr Q w' g [] ∧ Kept (· = g) w w' := by
  have h8 : s ≤ 8 := by unfold isSz at hs; omega
  have H := Lib.hid h
  clear h
  have hs0 := Lib.hid hs
  clear hs
  go_enter Tryz.func84, Tryz.ntmps84
  go_wp2_with (first
    | (go_at_call 94; refine (isNone_no _ _ _ H.out).mono ?_; rintro e w' ⟨rfl, rfl⟩)
    | (go_at_call 95; refine (isSize_yes _ _ hs0.out).mono ?_; rintro e w' ⟨rfl, rfl⟩)
    | (go_at_call 96; refine (cut_no _ _ _ _ H.out hl (by omega)).mono ?_; rintro e w' ⟨rfl, hr, hk⟩; have HR := Lib.hid hr; have HK := Lib.hid hk; clear hr hk))
  go_ret2
  exact ⟨rfl, HR.out, HK.out⟩

theorem etake_none (g : Nat) (l : List Nat) (s : Int) (w : World) (h : Rdr Q w g l) (hs : ¬ isSz s) :
    Calls Tryz.prog 84 #[.pointer (some ⟨g, 0, none⟩), .int .i64 s] w
      fun e w' => e = .returned (.tuple #[.int .u64 0, .int .i64 2]) ∧ Rdr Q w' g l ∧ Kept (· = g) w w' := by
  have H := Lib.hid h
  clear h
  have hs0 := Lib.hid hs
  clear hs
  go_enter Tryz.func84, Tryz.ntmps84
  go_wp2_with (first
    | (go_at_call 94; refine (isNone_no _ _ _ H.out).mono ?_; rintro e w' ⟨rfl, rfl⟩)
    | (go_at_call 95; refine (isSize_no _ _ hs0.out).mono ?_; rintro e w' ⟨rfl, rfl⟩))
  go_ret2
  exact ⟨rfl, H.out, Kept.refl _ _⟩

theorem etake_any (g : Nat) (l : List Nat) (s : Int) (w : World) (h : Rdr Q w g l) :
    Calls Tryz.prog 84 #[.pointer (some ⟨g, 0, none⟩), .int .i64 s] w (TakeP Q w g l s) := by
  by_cases hs : isSz s
  · obtain ⟨m, rfl⟩ : ∃ m : Nat, s = m := ⟨s.toNat, by unfold isSz at hs; omega⟩
    by_cases hl : m ≤ l.length
    · refine (etake_ok g l m w h hs hl).mono fun e w' x => ?_
      unfold TakeP takeV takeE takeL
      rw [Int.toNat_natCast]
      simp only [hs, hl, if_true]
      exact x
    · refine (etake_short g l m w h hs (by omega)).mono fun e w' x => ?_
      unfold TakeP takeV takeE takeL
      rw [Int.toNat_natCast]
      simp only [hs, hl, if_true, if_false]
      exact x
  · refine (etake_none g l s w h hs).mono fun e w' x => ?_
    unfold TakeP takeV takeE takeL
    simp only [hs, if_false]
    exact x



def NewP (w : World) (l : List Nat) (e : Ending) (w' : World) : Prop :=
  ∃ g, e = .returned (.pointer (some ⟨g, 0, none⟩)) ∧ Rdr (fun b => w.heap.size ≤ b) w' g l ∧ w.heap.size ≤ g ∧ New w w'

theorem new_any (A : Option Addr) (n c : Nat) (l : List Nat) (w : World) (ha : Bts w A n l) (hn : n ≤ 140737488351232) (hA : A = none → c = 0 ∧ n = 0) :
    Calls Tryz.prog 83 #[.slice A n c] w (NewP w l) := by
  have HA := Lib.hid hA
  clear hA
  go_enter Tryz.func83, Tryz.ntmps83
  go_wp2_with (go_at_call 18; refine (clone_any A n c l _ ha hn HA.out).mono ?_; rintro e w1 ⟨A1, c1, rfl, hown, hk⟩; have HO := Lib.hid hown; have HK := Lib.hid hk; clear hown hk)
  go_ret
  have hal : New w1 (w1.alloc (.cells #[.bool true, .slice A1 l.length c1] 140)) := (Kept.refl _ _).alloc _
  exact ⟨w1.heap.size, rfl, ⟨A1, c1, Blk.made w1 _ _, HO.out.bts.new hal, fun a h => ⟨(HO.out.at_ a h).2, (HO.out.at_ a h).1.kept hal (fun f => f)⟩, HO.out.le.1, HO.out.le.2⟩, HK.out.size, HK.out.new hal⟩



def WideP (w : World) (l : List Nat) (e : Ending) (w' : World) : Prop :=
  ∃ g, e = .returned (.slice (some ⟨g, 0, none⟩) l.length (l.length + 3)) ∧ Blk w' g 5 ((l ++ [7, 7, 7]).map byt) ∧ w.heap.size ≤ g ∧ New w w'

theorem set_step (a b : List Nat) (x y k : Nat) (v : Value) (hk : a.length = k) (hv : v = byt y) : ((a ++ x :: b).map byt).set k v = ((a ++ [y]) ++ b).map byt := by
  subst hk hv
  rw [List.map_append, List.set_append_right _ _ (by simp)]
  simp

theorem get_step (a b : List Nat) (x k : Nat) (hk : a.length = k) : ((a ++ x :: b).map byt)[k]? = some (byt x) := by
  subst hk
  rw [List.map_append, List.getElem?_append_right (by simp)]
  simp

/-- Is k the block of the slice at A? -/
def blkIs (A : Option Addr) (k : Nat) : Prop := ∃ a, A = some a ∧ a.block = k

def SpoilP (w : World) (A : Option Addr) (e : Ending) (w' : World) : Prop := e = .returned (.tuple #[]) ∧ Kept (blkIs A) w w'

theorem set_any (xs : List Nat) (k y : Nat) (v : Value) (hv : v = byt y) : (xs.map byt).set k v = (xs.set k y).map byt := by
  subst hv
  rw [List.map_set]
end Go.Proofs.YtgfdiboaiifdnaaGreat
