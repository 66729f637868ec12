/-
  Contracts of layer 1's functions that layer 2 calls, and of the words for lists that all references share: what each call answers, and what it leaves.
-/
import Derived.Test.YteifkggfaefahaaRows
import Derived.Test.YteifkggfaefahaaKit
import Derived.Test.YteifkggfaefahaaLift
import Derived.WalkSpells
import Derived.Lib.SlBytesConst
namespace Go.Proofs.Yteifkggfaefahaa
open Go.ChangeShapes Go.WideShapes Go.ChangeAt Go.RowKit



theorem info_u8 : (Try.prog.info? 5).map (fun i => (i.zero, i.size, i.bytes)) = some (some (.int .u8 0), 1, 1) := by kernel_rfl

def isSz (s : Int) : Prop := s = 1 ∨ s = 2 ∨ s = 4 ∨ s = 8

instance (s : Int) : Decidable (isSz s) := by unfold isSz; infer_instance

/-- Does n fit into s bytes? -/
def fitB (n s : Nat) : Bool := decide (n < 256 ^ s)

/-- The bytes of n, the lowest first. -/
def leB (n s : Nat) : List Nat := (List.range s).map fun j => n / 256 ^ j % 256

theorem leB_length (n s : Nat) : (leB n s).length = s := by simp [leB]

theorem leB_lt (n s : Nat) : ∀ x ∈ leB n s, x < 256 := by
  intro x hx
  obtain ⟨j, _, rfl⟩ := List.mem_map.1 hx
  omega

theorem leB_succ (n s : Nat) : leB n (s + 1) = leB n s ++ [n / 256 ^ s % 256] := by simp [leB, List.range_succ]

/-- A list of bytes comes back, in memory of its own, with an error's number. -/
def RetB (w : World) (l : List Nat) (er : Int) (e : Ending) (w' : World) : Prop :=
  ∃ A c, e = .returned (.tuple #[.slice A l.length c, .int .i64 er]) ∧ OwnB w' 5 w.heap.size A c l ∧ New w w'

theorem RetB.nil (w w' : World) (er : Int) (h : New w w') : RetB w [] er (.returned (.tuple #[.slice none 0 0, .int .i64 er])) w' := ⟨none, 0, rfl, OwnB.nil _ _ _, h⟩

theorem put_step (n s k : Nat) (hk : k < s) (v : Value) (hv : v = byt (n / 256 ^ k % 256)) :
    ((leB n k ++ List.replicate (s - k) 0).map byt).set k v = (leB n (k + 1) ++ List.replicate (s - (k + 1)) 0).map byt := by
  subst hv
  obtain ⟨m, rfl⟩ : ∃ m, s = k + 1 + m := ⟨s - (k + 1), by omega⟩
  have e1 : k + 1 + m - k = m + 1 := by omega
  have e2 : k + 1 + m - (k + 1) = m := by omega
  rw [e1, e2, leB_succ, List.map_append, List.set_append_right _ _ (by simp [leB_length])]
  simp [leB_length, List.replicate_succ]

theorem byt_shift (n k : Nat) : Value.int .u8 ((n : Int) / 2 ^ (8 * k) % 256) = byt (n / 256 ^ k % 256) := by
  unfold byt
  have e : (256 : Nat) ^ k = 2 ^ (8 * k) := by rw [show (256 : Nat) = 2 ^ 8 from rfl, Nat.pow_mul]
  rw [e, Int.natCast_emod, Int.natCast_ediv, Int.natCast_pow]
  rfl



/-- A call only reads: a bool comes back. -/
def Quiet (w : World) (b : Bool) (e : Ending) (w' : World) : Prop := ∃ d, e = .returned (.bool b) ∧ w' = w.drewN d

set_option maxHeartbeats 400000 in
theorem same_eq (A B : Option Addr) (n c d : Nat) (l : List Nat) (w : World) (ha : Bts w A n l) (hb : Bts w B n l) (hn : n ≤ maxLen) :
    Calls Try.prog 20 #[.slice A n c, .slice B n d] w (Quiet w true) := by
  unfold maxLen at hn
  go_enter Try.func20, Try.ntmps20
  go_wp2
  go_loopw [5] (fun i wr => ∃ k q : Nat, k ≤ n ∧ i = .int .i64 k ∧ wr = w.drewN q) (fun i _ => n - (intOf i).toNat)
  case atStart => exact ⟨0, 0, Nat.zero_le _, rfl, rfl⟩
  case round =>
    obtain ⟨k, q, hk, rfl, rfl⟩ := hrel
    by_cases hlt : k < n
    · obtain ⟨g, o, x, rfl, hx, hxb, hc⟩ := ha.at_ hlt
      obtain ⟨g', o', y, rfl, hy, hyb, hc'⟩ := hb.at_ hlt
      obtain rfl : x = y := by rw [hx] at hy; injection hy
      clear ha hb hx hy
      go_wp2
      go_quiet (fail)
      go_wp2
      go_roundw
      case rel => exact ⟨k + 1, _, by omega, by go_num, rfl⟩
      case measure => simp [intOf]; omega
    · clear ha hb
      go_wp2
      go_ret
      exact ⟨q, rfl, rfl⟩

/-- Bytes come back, in memory of their own. -/
def RetL (w : World) (l : List Nat) (e : Ending) (w' : World) : Prop :=
  ∃ A c, e = .returned (.slice A l.length c) ∧ OwnB w' 5 w.heap.size A c l ∧ New w w'

theorem clone_any (A : Option Addr) (n c : Nat) (l : List Nat) (w : World) (ha : Bts w A n l) (hn : n ≤ 140737488351232) (hA : A = none → c = 0 ∧ n = 0) :
    Calls Try.prog 42 #[.slice A n c] w (RetL w l) := by
  obtain ⟨i0, hi, hz0, hz1, hz2⟩ := info_parts info_u8
  have hl := ha.1
  have hq := fun w a n c => Lib.run_eql_slice_nil (P := Try.prog) w 30 5 a n c 0 0 Try.underlying30
  rcases A with _ | a
  · obtain ⟨rfl, rfl⟩ := hA rfl
    obtain rfl : l = [] := List.eq_nil_of_length_eq_zero hl
    clear hA
    go_enter Try.func42, Try.ntmps42
    go_wp2
    go_ret
    exact ⟨none, 0, rfl, OwnB.nil _ _ _, Kept.refl _ _⟩
  · clear hA
    go_enter Try.func42, Try.ntmps42
    go_wp2_with (at_builtin; refine wpList_append_bytes _ rfl _ _ _ rfl 5 i0 Try.underlying30 hi hz0 hz1 hz2 w.heap.size (some ⟨w.heap.size, 0, none⟩) 0 0 [] rfl ?_ rfl (some a) n c l rfl ?_ ?_ ?_ ?_)
    · exact ⟨by simp, .inr ⟨_, [], rfl, Nat.le_refl _, Blk.madeB w 5 [], by simp, rfl, by simp⟩⟩
    · exact ha.new ((Kept.refl _ _).alloc _)
    · simp; omega
    · simp
    intro A2 c2 w2 hown hg _
    go_wp2
    go_ret
    subst hl
    exact ⟨A2, c2, by simp, by simpa using hown, ((Kept.refl _ _).alloc _).grown hg (by simp; omega)⟩

theorem Kept.of_own {w w1 w2 : World} {t : TypeId} {A : Option Addr} {c : Nat} {l : List Nat} (k : New w w1) (h : OwnB w1 t w.heap.size A c l) (hg : w1.grownBy w2 (A.map (·.block))) : New w w2 :=
  k.grown hg fun q hq hA => by
    obtain ⟨a, rfl, rfl⟩ := Option.map_eq_some_iff.1 hA
    have := (h.at_ a rfl).2
    omega

/-- The bytes of a number, or the error. -/
def putL (n : Nat) (s : Int) : List Nat := if isSz s ∧ fitB n s.toNat = true then leB n s.toNat else []

def putE (n : Nat) (s : Int) : Int := if isSz s ∧ fitB n s.toNat = true then 0 else 2

variable {Q : Nat → Prop}

/-- Whatever block. -/
abbrev Any : Nat → Prop := fun _ => True

/-- The number of bytes, the lowest first. -/
def leV : List Nat → Nat
  | [] => 0
  | x :: r => x + 256 * leV r

theorem leV_append (a b : List Nat) : leV (a ++ b) = leV a + 256 ^ a.length * leV b := by
  induction a with
  | nil => simp [leV]
  | cons x r ih => simp [leV, ih, Nat.pow_succ, Nat.mul_add, Nat.add_assoc, Nat.mul_assoc, Nat.mul_comm]

theorem leV_lt (a : List Nat) (h : ∀ x ∈ a, x < 256) : leV a < 256 ^ a.length := by
  induction a with
  | nil => simp [leV]
  | cons x r ih =>
    have h1 := h x (by simp)
    have h2 := ih fun y hy => h y (by simp [hy])
    simp only [leV, List.length_cons, Nat.pow_succ]
    omega

theorem pow256 (k : Nat) : (256 : Nat) ^ k = 2 ^ (8 * k) := by rw [show (256 : Nat) = 2 ^ 8 from rfl, Nat.pow_mul]

theorem or_shift (m x k : Nat) (hm : m < 256 ^ k) (hx : x < 256) (hk : k < 8) : bits .or .u64 (m : Int) (IntKind.u64.wrap ((x : Int) * 2 ^ (8 * k))) = ((m + 256 ^ k * x : Nat) : Int) := by
  rw [pow256] at hm ⊢
  have hp : (2 : Nat) ^ (8 * k) ≤ 2 ^ 56 := Nat.pow_le_pow_right (by omega) (by omega)
  have hlt : 2 ^ (8 * k) * x < 18446744073709551616 := by
    calc 2 ^ (8 * k) * x ≤ 2 ^ 56 * x := Nat.mul_le_mul_right _ hp
      _ < 18446744073709551616 := by omega
  have e : IntKind.u64.wrap ((x : Int) * 2 ^ (8 * k)) = ((2 ^ (8 * k) * x : Nat) : Int) := by
    have e2 : ((x : Int) * 2 ^ (8 * k)) = ((2 ^ (8 * k) * x : Nat) : Int) := by
      rw [Int.natCast_mul, Int.natCast_pow, Int.mul_comm]; rfl
    rw [IntKind.wrap_u64, e2]
    omega
  rw [e, u64_or_nat _ _ (by omega) hlt, Nat.or_comm, ← Nat.two_pow_add_eq_or_of_lt hm, Nat.add_comm]

theorem leV_take (l : List Nat) (k x : Nat) (hx : l[k]? = some x) : leV (l.take (k + 1)) = leV (l.take k) + 256 ^ k * x := by
  have hk : k < l.length := (List.getElem?_eq_some_iff.1 hx).1
  have e : l[k] = x := (List.getElem?_eq_some_iff.1 hx).2
  rw [List.take_succ_eq_append_getElem hk, leV_append, List.length_take, Nat.min_eq_left (by omega), e]
  simp [leV]

def takeE (l : List Nat) (s : Int) : Int := if isSz s then (if s.toNat ≤ l.length then 0 else 4) else 2

def takeL (l : List Nat) (s : Int) : List Nat := if isSz s then (if s.toNat ≤ l.length then l.drop s.toNat else []) else l

def takeV (l : List Nat) (s : Int) : Nat := if isSz s then (if s.toNat ≤ l.length then leV (l.take s.toNat) else 0) else 0





def WideP (w : World) (l : List Nat) (e : Ending) (w' : World) : Prop :=
  ∃ g, e = .returned (.slice (some ⟨g, 0, none⟩) l.length (l.length + 3)) ∧ Blk w' g 5 ((l ++ [7, 7, 7]).map byt) ∧ w.heap.size ≤ g ∧ New w w'

theorem set_step (a b : List Nat) (x y k : Nat) (v : Value) (hk : a.length = k) (hv : v = byt y) : ((a ++ x :: b).map byt).set k v = ((a ++ [y]) ++ b).map byt := by
  subst hk hv
  rw [List.map_append, List.set_append_right _ _ (by simp)]
  simp

theorem get_step (a b : List Nat) (x k : Nat) (hk : a.length = k) : ((a ++ x :: b).map byt)[k]? = some (byt x) := by
  subst hk
  rw [List.map_append, List.getElem?_append_right (by simp)]
  simp

set_option maxRecDepth 100000 in
set_option maxHeartbeats 800000 in
theorem wide_any (A : Option Addr) (n c : Nat) (l : List Nat) (w : World) (ha : Bts w A n l) (hn : n ≤ 140737488351232) :
    Calls Try.prog 28 #[.slice A n c] w (WideP w l) := by
  obtain ⟨i0, hi, hz0, hz1, hz2⟩ := info_parts info_u8
  have Hl := Lib.hid ha.1
  have hmk := fun u => run_make_bytes (P := Try.prog) 30 5 i0 Try.underlying30 hi hz0 hz1 hz2 .i64 .i64 ((n : Int) + 3) ((n : Int) + 3) (n + 3) (n + 3) (by omega) (by omega) (by omega) (by omega) u
  have Ha := Lib.hid ha
  clear ha
  go_enter Try.func28, Try.ntmps28
  go_wp2
  go_loopw [4] (fun i wr => ∃ k : Nat, k ≤ n ∧ i = .int .i64 k ∧ Blk wr w.heap.size 5 ((l.take k ++ List.replicate (n + 3 - k) 0).map byt) ∧ New w wr) (fun i _ => n - (intOf i).toNat)
  case atStart => exact ⟨0, Nat.zero_le _, rfl, by simpa using Blk.madeB w 5 (List.replicate (n + 3) 0), (Kept.refl _ _).alloc _⟩
  case round =>
    obtain ⟨k, hk, rfl, hblk, hnew⟩ := hrel
    have HB := Lib.hid hblk
    have HN := Lib.hid hnew
    clear hblk hnew hmk
    by_cases hlt : k < n
    · obtain ⟨ga, o, x, rfl, hx, hxb, hc⟩ := (Ha.out.new HN.out).at_ hlt
      have HX := Lib.hid hx
      clear hx
      have hlk : (l.take k).length = k := by rw [List.length_take, Hl.out]; omega
      have hrep : List.replicate (n + 3 - k) 0 = 0 :: List.replicate (n + 3 - (k + 1)) 0 := by rw [show n + 3 - k = (n + 3 - (k + 1)) + 1 from by omega, List.replicate_succ]
      have hcell : wr.cell? ⟨w.heap.size, k, none⟩ = some (byt 0) := by
        rw [HB.out.cell, hrep]
        exact get_step _ _ _ _ hlk
      have hfree := HB.out.free k
      have HLK := Lib.hid hlk
      have HREP := Lib.hid hrep
      clear hlk hrep
      go_wp2
      go_roundw
      case rel =>
        refine ⟨k + 1, by omega, by go_num, ?_, HN.out.setCell (fun h => absurd h (by simp)) _⟩
        have h1 := HB.out.put k (.int .u8 (x : Int))
        rw [HREP.out, set_step (l.take k) _ 0 x k (.int .u8 (x : Int)) HLK.out rfl] at h1
        have hk' : k < l.length := by rw [Hl.out]; exact hlt
        have e : l[k] = x := (List.getElem?_eq_some_iff.1 HX.out).2
        rw [List.take_succ_eq_append_getElem hk', e]
        exact h1
      case measure => simp [intOf]; omega
    · obtain rfl : k = n := by omega
      have hB : Blk wr w.heap.size 5 ((l ++ ([] ++ List.replicate 3 0)).map byt) := by
        have := HB.out
        rw [List.take_of_length_le (by rw [Hl.out]; exact Nat.le_refl _), show k + 3 - k = 3 from by omega] at this
        exact this
      have HB2 := Lib.hid hB
      clear hB HB hlt
      go_wp2
      go_loopw [5] (fun i wr => ∃ j : Nat, j ≤ 3 ∧ i = .int .i64 ((k : Int) + j) ∧ Blk wr w.heap.size 5 ((l ++ (List.replicate j 7 ++ List.replicate (3 - j) 0)).map byt) ∧ New w wr) (fun i _ => k + 3 - (intOf i).toNat)
      case atStart => exact ⟨0, by omega, by go_num, HB2.out, HN.out⟩
      case round =>
        obtain ⟨j, hj, rfl, hblk, hnew⟩ := hrel
        have HB := Lib.hid hblk
        have HN2 := Lib.hid hnew
        clear hblk hnew HB2 HN
        by_cases hlt : j < 3
        · have hrep : List.replicate (3 - j) 0 = 0 :: List.replicate (3 - (j + 1)) 0 := by rw [show 3 - j = (3 - (j + 1)) + 1 from by omega, List.replicate_succ]
          have hcell : wr.cell? ⟨w.heap.size, k + j, none⟩ = some (byt 0) := by
            rw [HB.out.cell, hrep, ← List.append_assoc]
            exact get_step _ _ _ _ (by simp [Hl.out])
          have hfree := HB.out.free (k + j)
          have HREP := Lib.hid hrep
          clear hrep
          go_wp2
          go_roundw
          case rel =>
            refine ⟨j + 1, by omega, by go_num, ?_, HN2.out.setCell (fun h => absurd h (by simp)) _⟩
            have h1 := HB.out.put (k + j) (.int .u8 (7 : Int))
            rw [HREP.out, ← List.append_assoc, set_step (l ++ List.replicate j 7) _ 0 7 (k + j) (.int .u8 (7 : Int)) (by simp [Hl.out]) rfl] at h1
            rw [List.replicate_succ', ← List.append_assoc, ← List.append_assoc]
            exact h1
          case measure => simp [intOf]; omega
        · obtain rfl : j = 3 := by omega
          go_wp2
          go_ret
          refine ⟨w.heap.size, by rw [Hl.out]; rfl, ?_, Nat.le_refl _, HN2.out⟩
          have := HB.out
          simpa using this

/-- Is k the block of the slice at A? -/
def blkIs (A : Option Addr) (k : Nat) : Prop := ∃ a, A = some a ∧ a.block = k

def SpoilP (w : World) (A : Option Addr) (e : Ending) (w' : World) : Prop := e = .returned (.tuple #[]) ∧ Kept (blkIs A) w w'

theorem set_any (xs : List Nat) (k y : Nat) (v : Value) (hv : v = byt y) : (xs.map byt).set k v = (xs.set k y).map byt := by
  subst hv
  rw [List.map_set]

set_option maxHeartbeats 800000 in
theorem spoil_any (A : Option Addr) (c B by_ : Nat) (l : List Nat) (w : World) (h : OwnB w 5 B A c l) :
    Calls Try.prog 31 #[.slice A l.length c, .int .u8 (by_ : Nat)] w (SpoilP w A) := by
  have hle := h.le
  rcases h with ⟨hb, ⟨rfl, rfl, rfl⟩ | ⟨g, sp, rfl, hB, hblk, hsp, hc, hm⟩⟩
  · go_enter Try.func31, Try.ntmps31
    go_wp2
    refine wp_loop_rounds 1 ?_
    rw [rounds_succ]
    go_wp2
    go_end0
    exact ⟨rfl, Kept.refl _ _⟩
  · have hall : ∀ x ∈ l ++ sp, x < 256 := fun x hx => by
      rcases List.mem_append.1 hx with h | h
      · exact hb x h
      · exact hsp x h
    have hlen : (l ++ sp).length = c := by simp; omega
    obtain ⟨hle1, hle2⟩ := hle
    generalize l.length = L at *
    have HB := Lib.hid hblk
    have HA := Lib.hid hall
    have HLen := Lib.hid hlen
    unfold maxLen at hm
    clear hblk hall hlen hb hsp hc hle2
    go_enter Try.func31, Try.ntmps31
    go_wp2
    go_loopw [5] (fun i wr => ∃ (k : Nat) (xs : List Nat), k ≤ c ∧ i = .int .i64 k ∧ xs.length = c ∧ (∀ x ∈ xs, x < 256) ∧ Blk wr g 5 (xs.map byt) ∧ Kept (blkIs (some ⟨g, 0, none⟩)) w wr) (fun i _ => c - (intOf i).toNat)
    case atStart => exact ⟨0, l ++ sp, by omega, rfl, HLen.out, HA.out, HB.out, Kept.refl _ _⟩
    case round =>
      obtain ⟨k, xs, hk, rfl, hl, hbd, hblk, hkept⟩ := hrel
      have HL := Lib.hid hl
      have HBD := Lib.hid hbd
      have HBK := Lib.hid hblk
      have HK := Lib.hid hkept
      clear hl hbd hblk hkept HB HA HLen
      by_cases hlt : k < c
      · have hkl : k < xs.length := by rw [HL.out]; exact hlt
        have hcell : wr.cell? ⟨g, k, none⟩ = some (.int .u8 ((xs[k] : Nat) : Int)) := by
          rw [HBK.out.cell, List.getElem?_map, List.getElem?_eq_getElem hkl]
          rfl
        have hxk : xs[k] < 256 := HBD.out _ (List.getElem_mem hkl)
        have hfree := HBK.out.free k
        generalize xs[k] = x at *
        go_wp2
        go_roundw
        case rel =>
          have hb1 := HBK.out.put k (.int .u8 (((x : Int) + by_) % 256))
          rw [set_any xs k ((x + by_) % 256) (.int .u8 (((x : Int) + by_) % 256)) (by unfold byt; rfl)] at hb1
          refine ⟨k + 1, xs.set k ((x + by_) % 256), by omega, by go_num, by rw [List.length_set, HL.out], ?_, hb1, HK.out.setCell (p := ⟨g, k, none⟩) (fun _ => ⟨⟨g, 0, none⟩, rfl, rfl⟩) _⟩
          intro y hy
          rcases List.mem_or_eq_of_mem_set hy with h | h
          · exact HBD.out y h
          · omega
        case measure => simp [intOf]; omega
      · go_wp2
        go_end0
        exact ⟨rfl, HK.out⟩

set_option maxHeartbeats 800000 in
theorem left_any (g n d : Nat) (A : Option Addr) (l : List Nat) (w : World) (hv : Blk w g 5 ((l ++ [7, 7, 7]).map byt)) (hl : l.length = n) (ha : Bts w A n l) (hn : n ≤ 140737488351232) :
    Calls Try.prog 30 #[.slice (some ⟨g, 0, none⟩) n (n + 3), .slice A n d] w (Quiet w true) := by
  have hb : Bts w (some ⟨g, 0, none⟩) n l := by
    refine ⟨hl, ha.2.1, fun _ => ⟨g, 0, rfl, fun j x hx => ?_⟩⟩
    have hj : j < l.length := (List.getElem?_eq_some_iff.1 hx).1
    rw [Nat.zero_add, hv.cell, List.map_append, List.getElem?_append_left (by simpa using hj), List.getElem?_map, hx]
    rfl
  have H7 : ∀ j, j < 3 → w.cell? ⟨g, n + j, none⟩ = some (.int .u8 7) := by
    intro j hj
    rw [hv.cell, List.map_append, List.getElem?_append_right (by simp [hl])]
    have e : n + j - (l.map byt).length = j := by simp [hl]
    rw [e]
    match j, hj with
    | 0, _ => rfl
    | 1, _ => rfl
    | 2, _ => rfl
  have HB := Lib.hid hb
  have HA := Lib.hid ha
  have HH := Lib.hid H7
  clear hb ha H7 hv hl
  go_enter Try.func30, Try.ntmps30
  go_wp2_with (go_at_call 20; refine (same_eq _ _ _ _ _ l _ HB.out HA.out (by unfold maxLen; omega)).mono ?_; rintro e w1 ⟨d1, rfl, rfl⟩)
  go_loop [6] (fun i => ∃ j : Nat, j ≤ 3 ∧ i = .int .i64 ((n : Int) + j)) (fun i => n + 3 - (intOf i).toNat)
  case atStart => exact ⟨0, by omega, by go_num⟩
  case round =>
    obtain ⟨j, hj, rfl⟩ := hrel
    by_cases hlt : j < 3
    · have hc := HH.out j hlt
      go_wp2
      go_round
      case rel => exact ⟨j + 1, by omega, by go_num⟩
      case measure => simp [intOf]; omega
    · go_wp2
      go_ret
      exact ⟨d1, rfl, rfl⟩
end Go.Proofs.Yteifkggfaefahaa
