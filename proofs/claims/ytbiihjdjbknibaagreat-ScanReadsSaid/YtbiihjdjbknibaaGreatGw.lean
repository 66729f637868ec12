/-
  Of the pool what the small texts lack.
-/
import Derived.Test.YtbiihjdjbknibaaGreatC48
import Derived.Test.YtbiihjdjbknibaaGreatC43
import Derived.Lib.Bytealg
import Derived.Shelf.Small.Strs
import Derived.StillTailTactics
import Derived.Deep.CutBlock
import Derived.Deep.DeepCutAuto
namespace Go.Proofs.YtbiihjdjbknibaaGreat
set_option maxRecDepth 100000
section

set_option maxRecDepth 100000

instance : DecidableEq KY := fun a b => decidable_of_iff (a.i = b.i ∧ a.t = b.t ∧ a.n = b.n ∧ a.c = b.c) ⟨fun h => KY.ext_ h.1 h.2.1 h.2.2.1 h.2.2.2, fun h => by subst h; exact ⟨rfl, rfl, rfl, rfl⟩⟩

/-- How two texts stand, told as the reference tells it. -/
def ordL : List UInt8 → List UInt8 → Int
  | [], ys => - (ys.length : Int)
  | x :: xs, [] => ((x :: xs).length : Int)
  | x :: xs, y :: ys => if x = y then ordL xs ys else (x.toNat : Int) - (y.toNat : Int)
theorem ordL_eq : ∀ (a b : List UInt8), ordL a b = 0 ↔ Lib.compareBytes a b = 0
  | [], [] => by simp [ordL, Lib.compareBytes]
  | [], _ :: _ => by simp only [ordL, Lib.compareBytes, List.length_cons]; omega
  | _ :: _, [] => by simp only [ordL, Lib.compareBytes, List.length_cons]; omega
  | x :: a, y :: b => by
    have ih := ordL_eq a b
    unfold ordL Lib.compareBytes
    by_cases h : x = y
    · subst h
      rw [if_pos rfl, if_neg (UInt8.lt_irrefl x), if_neg (UInt8.lt_irrefl x)]
      exact ih
    · rw [if_neg h]
      have hn : x.toNat ≠ y.toNat := fun e => h (UInt8.toNat_inj.1 e)
      by_cases h1 : x < y
      · rw [if_pos h1]; omega
      · have h2 : y < x := UInt8.lt_of_le_of_ne (UInt8.not_lt.1 h1) (Ne.symm h)
        rw [if_neg h1, if_pos h2]; omega
theorem ordL_lt : ∀ (a b : List UInt8), ordL a b < 0 ↔ Lib.compareBytes a b < 0
  | [], [] => by simp [ordL, Lib.compareBytes]
  | [], _ :: _ => by simp only [ordL, Lib.compareBytes, List.length_cons]; omega
  | _ :: _, [] => by simp only [ordL, Lib.compareBytes, List.length_cons]; omega
  | x :: a, y :: b => by
    have ih := ordL_lt a b
    unfold ordL Lib.compareBytes
    by_cases h : x = y
    · subst h
      rw [if_pos rfl, if_neg (UInt8.lt_irrefl x), if_neg (UInt8.lt_irrefl x)]
      exact ih
    · rw [if_neg h]
      have hn : x.toNat ≠ y.toNat := fun e => h (UInt8.toNat_inj.1 e)
      by_cases h1 : x < y
      · have := UInt8.lt_iff_toNat_lt.1 h1
        rw [if_pos h1]; omega
      · have h2 : y < x := UInt8.lt_of_le_of_ne (UInt8.not_lt.1 h1) (Ne.symm h)
        have := UInt8.lt_iff_toNat_lt.1 h2
        rw [if_neg h1, if_pos h2]; omega
theorem ordL_at : ∀ (k : Nat) (a b : List UInt8) (x y : UInt8), a.take k = b.take k → a[k]? = some x → b[k]? = some y → x ≠ y → ordL a b = (x.toNat : Int) - (y.toNat : Int)
  | _, [], _, _, _, _, h, _, _ => by simp at h
  | _, _ :: _, [], _, _, _, _, h, _ => by simp at h
  | 0, p :: a, q :: b, x, y, _, h1, h2, hn => by
    simp at h1 h2
    subst h1 h2
    unfold ordL
    rw [if_neg hn]
  | k + 1, p :: a, q :: b, x, y, h, h1, h2, hn => by
    simp only [List.take_succ_cons, List.cons.injEq] at h
    unfold ordL
    rw [if_pos h.1]
    exact ordL_at k a b x y h.2 (by simpa using h1) (by simpa using h2) hn
theorem ordL_end : ∀ (k : Nat) (a b : List UInt8), a.take k = b.take k → (k = a.length ∨ k = b.length) → k ≤ a.length → k ≤ b.length → ordL a b = (a.length : Int) - b.length
  | 0, [], b, _, _, _, _ => by simp [ordL]
  | 0, p :: a, [], _, _, _, _ => by simp [ordL]
  | 0, p :: a, q :: b, _, h, _, _ => by simp at h
  | k + 1, [], _, _, _, h, _ => by simp at h
  | k + 1, _ :: _, [], _, _, _, h => by simp at h
  | k + 1, p :: a, q :: b, h, h1, h2, h3 => by
    simp only [List.take_succ_cons, List.cons.injEq] at h
    unfold ordL
    rw [if_pos h.1, ordL_end k a b h.2 (by simp at h1; omega) (by simpa using h2) (by simpa using h3)]
    simp only [List.length_cons]
    omega

theorem nB_lt (s : ByteArray) : ∀ x ∈ nB s, x < 256 := fun x hx => by
  obtain ⟨y, _, rfl⟩ := List.mem_map.1 hx
  exact y.toNat_lt
theorem nB_inj {s t : ByteArray} (h : nB s = nB t) : s = t := by
  refine ba_ext (List.map_inj_right ?_ |>.1 h)
  intro x y e
  exact UInt8.toNat_inj.1 e

theorem keyB_lt {k : KY} (h : mayK k = true) : ∀ x ∈ keyB k, x < 256 := by
  obtain ⟨h1, h2, h3, h4⟩ := may_parts h
  have hn := may_name h
  intro x hx
  unfold keyB at hx
  rcases List.mem_append.1 hx with hx | hx
  · simp only [List.mem_cons, List.not_mem_nil, or_false] at hx
    omega
  · unfold restK at hx
    split at hx
    · rcases List.mem_cons.1 hx with rfl | hx
      · omega
      · exact nB_lt _ _ hx
    · split at hx
      · rename_i t3
        simp only [List.mem_cons, List.not_mem_nil, or_false] at hx
        rcases h4 with h4 | h4 | h4 <;> omega
      · cases hx

theorem pkL_lt (k : KY) : ∀ x ∈ pkL k, x < 256 := by
  unfold pkL
  split
  · rename_i h; exact keyB_lt h
  · simp
theorem empty_of {s : ByteArray} (h : s.data.toList = []) : s = ByteArray.empty := ba_ext h

/-- Two keys have two rows of bytes. -/
theorem keyB_inj {a b : KY} (ha : mayK a = true) (hb : mayK b = true) (h : keyB a = keyB b) : a = b := by
  obtain ⟨a1, a2, a3, a4⟩ := may_parts ha
  obtain ⟨b1, b2, b3, b4⟩ := may_parts hb
  unfold keyB at h
  simp only [List.cons_append, List.nil_append, List.cons.injEq] at h
  obtain ⟨h1, h2, h3, h4⟩ := h
  have hi : a.i = b.i := by omega
  unfold restK at h4
  rw [h3] at h4
  rcases a4 with ⟨t, n, c⟩ | ⟨t, n, c⟩ | ⟨t, n, c⟩
  · rcases b4 with ⟨t', n', c'⟩ | ⟨t', n', c'⟩ | ⟨t', n', c'⟩
    · exact KY.ext_ hi h3 ((empty_of n).trans (empty_of n').symm) (by omega)
    · omega
    · omega
  · rcases b4 with ⟨t', n', c'⟩ | ⟨t', n', c'⟩ | ⟨t', n', c'⟩
    · omega
    · rw [if_pos t', if_pos t'] at h4
      simp only [List.cons.injEq] at h4
      exact KY.ext_ hi h3 (nB_inj h4.2) (by omega)
    · omega
  · rcases b4 with ⟨t', n', c'⟩ | ⟨t', n', c'⟩ | ⟨t', n', c'⟩
    · omega
    · omega
    · rw [if_neg (by omega), if_pos t', if_neg (by omega), if_pos t'] at h4
      simp only [List.cons.injEq, and_true] at h4
      exact KY.ext_ hi h3 ((empty_of n).trans (empty_of n').symm) (by omega)

end


section

set_option maxRecDepth 100000
open Go.RowKit

end


section

set_option maxRecDepth 100000
open Go.RowKit

theorem lt_of {z : Int} : (if z < 0 then true else false) = decide (z < 0) := by by_cases h : z < 0 <;> simp [h]

theorem order_any (a b : ByteArray) (w : World) (ha : a.size ≤ maxLen) (hb : b.size ≤ maxLen) :
    Calls Tryz.prog 119 #[.string a, .string b] w fun e w' => ∃ d, e = .returned (.int .i64 (ordL a.data.toList b.data.toList)) ∧ w' = w.drewN d := by
  unfold maxLen at ha hb
  go_enter Tryz.func119, Tryz.ntmps119
  go_wp2_with fail
  go_loopw [5] (fun i wr => ∃ k d : Nat, k ≤ a.size ∧ k ≤ b.size ∧ i = .int .i64 k ∧ wr = w.drewN d ∧ Hid (a.data.toList.take k = b.data.toList.take k)) (fun i _ => a.size - (intOf i).toNat)
  case atStart => exact ⟨0, 0, Nat.zero_le _, Nat.zero_le _, rfl, rfl, by simp [Hid]⟩
  case round =>
    obtain ⟨k, d, hk, hk2, rfl, rfl, heq⟩ := hrel
    by_cases h1 : k < a.size
    · by_cases h2 : k < b.size
      · have HX := Lib.hid (at_list a k h1)
        have HY := Lib.hid (at_list b k h2)
        by_cases e : a[k] = b[k]
        · have HN : Hid (a.data.toList.take (k + 1) = b.data.toList.take (k + 1)) := by
            show _ = _
            rw [List.take_add_one, List.take_add_one, heq.out, HX.out, HY.out, e]
          have d1 : ((a[k].toNat : Int) != (b[k].toNat : Int)) = false := by rw [e]; simp
          clear e heq
          go_wp2_with fail
          go_quiet (fail)
          go_wp2
          go_roundw
          case rel => exact ⟨k + 1, _, by omega, by omega, by go_num, rfl, HN⟩
          case measure => simp [intOf]; omega
        · have HO := Lib.hid (ordL_at k _ _ _ _ heq.out HX.out HY.out e)
          have d1 : ((a[k].toNat : Int) != (b[k].toNat : Int)) = true := bne_iff_ne.2 (by
            intro h
            exact e (UInt8.toNat_inj.1 (by omega)))
          have l1 := a[k].toNat_lt
          have l2 := b[k].toNat_lt
          clear e heq
          have l3 : IntKind.i64.wrap ((a[k].toNat : Int) - (b[k].toNat : Int)) = (a[k].toNat : Int) - (b[k].toNat : Int) := by rw [IntKind.wrap_i64]; omega
          go_wp2_with fail
          go_quiet (fail)
          go_wp2_with fail
          go_quiet (fail)
          go_wp2
          go_ret
          exact ⟨_, by rw [HO.out]; rfl, by rw [World.drewN_drewN, World.drewN_drewN]⟩
      · have HO : Hid (ordL a.data.toList b.data.toList = (a.size : Int) - b.size) := by
          have := ordL_end k _ _ heq.out (.inr (by rw [← Lib.size_eq]; omega)) (by rw [← Lib.size_eq]; omega) (by rw [← Lib.size_eq]; omega)
          show _ = _
          rw [this, ← Lib.size_eq, ← Lib.size_eq]
        have h3 : k = b.size := by omega
        subst h3
        clear heq
        go_wp2
        go_ret
        exact ⟨_, by rw [HO.out]; rfl, rfl⟩
    · have HO : Hid (ordL a.data.toList b.data.toList = (a.size : Int) - b.size) := by
        have := ordL_end k _ _ heq.out (.inl (by rw [← Lib.size_eq]; omega)) (by rw [← Lib.size_eq]; omega) (by rw [← Lib.size_eq]; omega)
        show _ = _
        rw [this, ← Lib.size_eq, ← Lib.size_eq]
      have h3 : k = a.size := by omega
      subst h3
      clear heq
      go_wp2
      go_ret
      exact ⟨_, by rw [HO.out]; rfl, rfl⟩

theorem bef_i {a b : KY} (h : a.i ≠ b.i) : befK a b = decide (a.i < b.i) := by
  unfold befK cmpK orI
  rw [decide_eq_decide, if_pos (fun e => h (cmpI_eq.1 e))]
  exact cmpI_lt
theorem bef_t {a b : KY} (h : a.i = b.i) (h2 : a.t ≠ b.t) : befK a b = decide (a.t < b.t) := by
  unfold befK cmpK orI
  rw [decide_eq_decide, if_neg (by simpa using cmpI_eq.2 h), if_pos (fun e => h2 (by have := cmpI_eq.1 e; omega)), cmpI_lt]
  omega
theorem bef_n {a b : KY} (h : a.i = b.i) (h2 : a.t = b.t) (h3 : ordL a.n.data.toList b.n.data.toList ≠ 0) : befK a b = decide (ordL a.n.data.toList b.n.data.toList < 0) := by
  unfold befK cmpK orI
  rw [decide_eq_decide, if_neg (by simpa using cmpI_eq.2 h), if_neg (by simpa using cmpI_eq.2 (show (a.t : Int) = b.t by omega)), if_pos (show cmpS a.n b.n ≠ 0 from fun e => h3 ((ordL_eq _ _).2 e)), ordL_lt]
  rfl
theorem bef_c {a b : KY} (h : a.i = b.i) (h2 : a.t = b.t) (h3 : ordL a.n.data.toList b.n.data.toList = 0) : befK a b = decide (a.c < b.c) := by
  unfold befK cmpK orI
  rw [decide_eq_decide, if_neg (by simpa using cmpI_eq.2 h), if_neg (by simpa using cmpI_eq.2 (show (a.t : Int) = b.t by omega)), if_neg (show ¬ cmpS a.n b.n ≠ 0 from fun e => e ((ordL_eq _ _).1 h3))]
  exact cmpI_lt

set_option maxRecDepth 100000 in
set_option maxHeartbeats 1600000 in
theorem rbefore_any (a b : KY) (w : World) (ha : a.n.size ≤ maxLen) (hb : b.n.size ≤ maxLen) :
    Calls Tryz.prog 99 #[.agg #[.int .i64 a.i, .int .u8 (a.t : Nat), .string a.n, .int .i64 a.c], .agg #[.int .i64 b.i, .int .u8 (b.t : Nat), .string b.n, .int .i64 b.c]] w (NewBool w (befK a b)) := by
  have HI : Hid (a.i ≠ b.i → befK a b = decide (a.i < b.i)) := bef_i
  have HT : Hid (a.i = b.i → a.t ≠ b.t → befK a b = decide (a.t < b.t)) := bef_t
  have HN : Hid (a.i = b.i → a.t = b.t → ordL a.n.data.toList b.n.data.toList ≠ 0 → befK a b = decide (ordL a.n.data.toList b.n.data.toList < 0)) := bef_n
  have HC : Hid (a.i = b.i → a.t = b.t → ordL a.n.data.toList b.n.data.toList = 0 → befK a b = decide (a.c < b.c)) := bef_c
  generalize befK a b = r at *
  obtain ⟨ai, at_, an, ac⟩ := a
  obtain ⟨bi, bt, bn, bc⟩ := b
  dsimp only at *
  have HA := Lib.hid ha
  have HB := Lib.hid hb
  clear ha hb
  by_cases h1 : ai = bi
  · subst h1
    by_cases h2 : at_ = bt
    · subst h2
      have HO := fun u => Lib.hid (order_any an bn u HA.out HB.out)
      generalize ordL an.data.toList bn.data.toList = z at *
      go_enter Tryz.func99, Tryz.ntmps99
      go_wp2_with fail
      refine (HO _).out.mono ?_
      rintro e w1 ⟨d, rfl, rfl⟩
      clear HO
      by_cases h3 : z = 0
      · obtain rfl := HC.out (by first | rfl | trivial) (by first | rfl | trivial) h3
        subst h3
        go_wp2
        go_ret
        exact ⟨rfl, (((Kept.refl _ _).alloc _).alloc _).drewN _⟩
      · obtain rfl := HN.out (by first | rfl | trivial) (by first | rfl | trivial) h3
        have d3 : (z != 0) = true := bne_iff_ne.2 h3
        clear h3
        go_wp2
        go_ret
        exact ⟨rfl, (((Kept.refl _ _).alloc _).alloc _).drewN _⟩
    · obtain rfl := HT.out (by first | rfl | trivial) h2
      have d2 : ((at_ : Int) != (bt : Int)) = true := bne_iff_ne.2 (by omega)
      clear h2 HI HT HN HC
      go_enter Tryz.func99, Tryz.ntmps99
      go_wp2
      go_ret
      exact ⟨rfl, ((Kept.refl _ _).alloc _).alloc _⟩
  · obtain rfl := HI.out h1
    have d2 : (ai != bi) = true := bne_iff_ne.2 h1
    clear h1 HI HT HN HC
    go_enter Tryz.func99, Tryz.ntmps99
    go_wp2
    go_ret
    exact ⟨rfl, ((Kept.refl _ _).alloc _).alloc _⟩

/-- What a key may be, part by part. -/
def part1 (k : KY) : Bool := decide (k.n.data.toList = [] ∧ k.c = 0)
def part3 (k : KY) : Bool := decide (k.n.data.toList = [] ∧ 0 ≤ k.c ∧ k.c < 8)

theorem str_nil (s : ByteArray) : (s.toList == []) = decide (s.data.toList = []) := by
  rw [Lib.toList_data]
  by_cases h : s.data.toList = []
  · rw [h]; rfl
  · rw [beq_eq_false_iff_ne.2 h, decide_eq_false h]

end


section

set_option maxRecDepth 100000
open Go.RowKit

/-- A number of 64 bits as it is laid. -/
def uN (x : Int) : Nat := (IntKind.u64.wrap x).toNat
theorem uN_eq (x : Int) : IntKind.u64.wrap x = ((uN x : Nat) : Int) := by unfold uN; rw [IntKind.wrap_u64]; omega
theorem uN_lt (x : Int) : uN x < 18446744073709551616 := by unfold uN; rw [IntKind.wrap_u64]; omega

/-- Numbers and how many bytes each has, as cells. -/
def fcells : List (Int × Nat) → List Value
  | [] => []
  | f :: r => .int .i64 f.1 :: .int .i64 (f.2 : Nat) :: fcells r
theorem fcells_at : ∀ (fs : List (Int × Nat)) (k : Nat) (f : Int × Nat), fs[k]? = some f → (fcells fs)[2 * k]? = some (.int .i64 f.1) ∧ (fcells fs)[2 * k + 1]? = some (.int .i64 (f.2 : Nat))
  | [], k, f, h => by simp at h
  | g :: r, 0, f, h => by simp at h; subst h; exact ⟨rfl, rfl⟩
  | g :: r, k + 1, f, h => by
    have := fcells_at r k f (by simpa using h)
    rw [show 2 * (k + 1) = 2 * k + 1 + 1 by omega]
    simpa [fcells] using this
def fOk (f : Int × Nat) : Bool := fitB (uN f.1) f.2
def layB (fs : List (Int × Nat)) : List Nat := fs.flatMap fun f => leB (uN f.1) f.2
def layL (fs : List (Int × Nat)) : List Nat := if fs.all fOk = true then layB fs else []
def layE (fs : List (Int × Nat)) : Int := if fs.all fOk = true then 0 else 2

theorem layB_take (fs : List (Int × Nat)) (k : Nat) (f : Int × Nat) (h : fs[k]? = some f) : layB (fs.take (k + 1)) = layB (fs.take k) ++ leB (uN f.1) f.2 := by
  unfold layB
  rw [List.take_add_one, h, List.flatMap_append]
  simp
theorem layB_len : ∀ (fs : List (Int × Nat)), (∀ f ∈ fs, isSz (f.2 : Nat)) → (layB fs).length ≤ 8 * fs.length
  | [], _ => by simp [layB]
  | f :: r, h => by
    have ih := layB_len r fun g hg => h g (by simp [hg])
    have h8 : f.2 ≤ 8 := by have := h f (by simp); unfold isSz at this; omega
    unfold layB at ih ⊢
    simp only [List.flatMap_cons, List.length_append, leB_length, List.length_cons]
    omega

end


section

set_option maxRecDepth 100000
open Go.RowKit


section
variable {S : Nat → Prop} {w w' : World} {A : Option Addr} {n c B : Nat} {es : List FE}

end
theorem fts_lenE (es : List FE) : (fts es).length = es.length := by unfold fts; rw [List.length_map]

end


section

set_option maxRecDepth 100000
open Go.RowKit

theorem upd_eq {l : List FT} {c : CT} {x : FT} (h : x.k = c.k) : updF (l ++ [x]) c = updF l c := by
  unfold updF
  have h1 : befK x.k c.k = false := by rw [h]; exact befK_irr _
  have h2 : befK c.k x.k = false := by rw [h]; exact befK_irr _
  simp [List.filter_append, h1, h2]
theorem upd_lt {l : List FT} {c : CT} {x : FT} (h : befK x.k c.k = true) (hl : ∀ f ∈ l, befK f.k x.k = true) (hg : c.g = true) : updF (l ++ [x]) c = updF l c ++ [x] := by
  unfold updF
  have h1 : befK c.k x.k = false := befK_anti h
  have h2 : l.filter (fun f => befK c.k f.k) = [] := List.filter_eq_nil_iff.2 fun f hf he => by
    rw [befK_anti (befK_trans (hl f hf) h)] at he; cases he
  simp [List.filter_append, h1, h, h2, hg]

section
variable {l : List FT} {c : CT} {i : Nat} {o : List FT} {x : FT}
theorem OneI.eq0 (h : OneI l c i o false) (hx : l[i]? = some x) (he : x.k = c.k) : OneI l c (i + 1) (o ++ [⟨c.k, c.v⟩]) true := by
  rcases h with ⟨_, hg, rfl, h⟩ | ⟨h, _⟩
  · have ht : l.take (i + 1) = l.take i ++ [x] := by rw [List.take_add_one, hx]; rfl
    refine .inr ⟨rfl, ?_, .inr ⟨x, ?_, ?_⟩⟩
    · rw [ht, upd_eq he, upd_all h hg]
    · rw [ht]; simp
    · rw [he]; exact befK_irr _
  · cases h
theorem OneI.eq1 (h : OneI l c i o true) (hx : l[i]? = some x) (he : x.k = c.k) : OneI l c (i + 1) o true := by
  rcases h with ⟨h, _⟩ | ⟨_, rfl, h⟩
  · cases h
  · have ht : l.take (i + 1) = l.take i ++ [x] := by rw [List.take_add_one, hx]; rfl
    refine .inr ⟨rfl, by rw [ht, upd_eq he], ?_⟩
    rcases h with h | ⟨y, h1, h2⟩
    · exact .inl h
    · exact .inr ⟨y, by rw [ht]; exact List.mem_append_left _ h1, h2⟩
theorem OneI.on0 (h : OneI l c i o false) (hx : l[i]? = some x) (he : befK c.k x.k = false) (hn : ¬ x.k = c.k) : OneI l c (i + 1) (o ++ [x]) false := by
  rcases h with ⟨_, hg, rfl, h⟩ | ⟨h, _⟩
  · have ht : l.take (i + 1) = l.take i ++ [x] := by rw [List.take_add_one, hx]; rfl
    have hb : befK x.k c.k = true := by
      rcases befK_tri x.k c.k with h1 | h1 | h1
      · exact h1
      · exact absurd h1 hn
      · rw [he] at h1; cases h1
    refine .inl ⟨rfl, hg, ht.symm, fun f hf => ?_⟩
    rw [ht] at hf
    rcases List.mem_append.1 hf with hf | hf
    · exact h f hf
    · simp only [List.mem_cons, List.not_mem_nil, or_false] at hf
      rw [hf]; exact hb
  · cases h
theorem OneI.on1 (ho : ordF l = true) (h : OneI l c i o true) (hx : l[i]? = some x) (hn : ¬ x.k = c.k) : OneI l c (i + 1) (o ++ [x]) true := by
  rcases h with ⟨h, _⟩ | ⟨_, rfl, h⟩
  · cases h
  · have ht : l.take (i + 1) = l.take i ++ [x] := by rw [List.take_add_one, hx]; rfl
    have hall : ∀ f ∈ l.take i, befK f.k x.k = true := fun f hf => by
      obtain ⟨j, hj⟩ := List.mem_iff_getElem?.1 hf
      rw [List.getElem?_take] at hj
      split at hj
      · exact ord_at ho hj hx (by assumption)
      · cases hj
    refine .inr ⟨rfl, ?_, ?_⟩
    · rcases befK_tri c.k x.k with h1 | h1 | h1
      · rw [ht, upd_gt h1]
      · exact absurd h1.symm hn
      · rcases h with h | ⟨y, h2, h3⟩
        · rw [ht, upd_lt h1 hall h]
        · rw [befK_trans (hall y h2) h1] at h3
          cases h3
    · rcases h with h | ⟨y, h1, h2⟩
      · exact .inl h
      · exact .inr ⟨y, by rw [ht]; exact List.mem_append_left _ h1, h2⟩
theorem OneI.fin0 (h : OneI l c l.length o false) : o ++ [⟨c.k, c.v⟩] = updF l c := by
  rcases h with ⟨_, hg, rfl, h⟩ | ⟨h, _⟩
  · rw [List.take_length] at h ⊢
    exact (upd_all h hg).symm
  · cases h
theorem OneI.fin1 (h : OneI l c l.length o true) : o = updF l c := by
  rcases h with ⟨h, _⟩ | ⟨_, h, _⟩
  · cases h
  · rw [List.take_length] at h
    exact h
end


section
variable {w w' w5 w7 : World} {B k c c2 : Nat} {A A2 : Option Addr} {es : List FE}
/-- A value that the call made, beside a row. -/
theorem own_beside {u : World} {B' : Nat} {A4 : Option Addr} {c4 n : Nat} {x : FT} {vs : List Value} (o4 : OwnB w7 5 B' A4 c4 x.v) (h : OwnV w7 94 5 B A2 n c2 vs) (hx : x.v.length ≤ 140737488351232 ∧ x.k.n.size ≤ maxLen) (hu : Kept (InRow A2) w7 u) : EOk u ⟨x, A4, c4⟩ := by
  have o5 : OwnB u 5 B' A4 c4 x.v := o4.kept hu fun a ha ⟨b, hb, e2⟩ => (o4.at_ a ha).1.ne_of (e2 ▸ (h.at_ b hb).1) (by decide) rfl
  refine ⟨o5.bts, fun hA => ?_, hx⟩
  rcases o5.2 with ⟨_, e1, e2⟩ | ⟨g, sp, e1, _⟩
  · exact ⟨e1, by show x.v.length = 0; rw [e2]; rfl⟩
  · rw [show A4 = none from hA] at e1; cases e1
end

/-- One fact more behind a row of the call's own. -/
theorem wpList_append_fact {w wb : World} {ops : Array Oper} {rest : List Oper} {o : Oper} {a : Act} {Q : Exit → Act → World → Prop} (hgd : o.guard = none) (s x : Operand)
    (ho : o.op = .call { callee := .builtin .append, args := #[s, x], argTypes := #[30, 30] })
    (B : Nat) (A : Option Addr) (k ch : Nat) (vs : List Value) (hsv : a.eval s = .slice A k ch) (hown : OwnV wb 94 5 B A k ch vs) (hk : New wb w)
    (g c' : Nat) (us : List Value) (hx : a.eval x = .slice (some ⟨g, 0, none⟩) 1 c') (hb : Blk w g 94 us) (hul : us.length = 5) (h1 : ∀ u ∈ us, u.oneCell' = true) (hn : (k + 1) * 64 ≤ 140737488355328) (hbase : B ≤ wb.heap.size)
    (h : ∀ A2 c2 w', Hid (OwnV w' 94 5 B A2 (k + 1) c2 (vs ++ us)) → Hid (Kept (InRow A) wb w') → Hid (A2 = A ∨ ∃ y, A2 = some y ∧ wb.heap.size ≤ y.block) → wpList Tryz.prog ops Q rest (a.put o.dst (.slice A2 (k + 1) c2)) w') :
    wpList Tryz.prog ops Q (o :: rest) a w := by
  obtain ⟨i0, hi, hz0, hz1, hz2⟩ := info_parts info_fact
  have hr : RowV w (some ⟨g, 0, none⟩) 1 i0.size us := by
    rw [hz1]
    exact ⟨by rw [hul], fun _ => ⟨g, 0, rfl, fun j v hj => by rw [Nat.zero_add, hb.cell]; exact hj⟩⟩
  have ho' : OwnV w 94 i0.size B A k ch vs := by rw [hz1]; exact hown.new hk
  refine wpList_append_rowV w hgd s x 30 ho 94 i0 (.agg #[.int .i64 0, .int .u8 0, .string ⟨#[]⟩, .int .i64 0, .slice none 0 0]) Tryz.underlying30 hi hz0 (by rw [hz1]; rfl) (by rw [hz1]; omega) B A k ch vs hsv ho' (some ⟨g, 0, none⟩) 1 c' us hx hr h1 (by rw [hz2]; omega) (by omega) (Nat.le_trans hbase hk.size) ?_
  intro A2 c2 w' h3 h4 h5
  refine h A2 c2 w' (by have := h3.out; rw [hz1] at this; exact this) ?_ ?_
  · refine (hk.mono (S' := InRow A) fun _ _ f => f.elim).grown h4.out fun q _ hA => ?_
    obtain ⟨a, ha, e⟩ := Option.map_eq_some_iff.1 hA
    exact ⟨a, ha, e⟩
  · rcases h5.out with e | e
    · exact .inl e
    · exact .inr ⟨_, e, hk.size⟩

end


section

set_option maxRecDepth 100000
open Go.ChangeShapes Go.WideShapes Go.ChangeAt Go.RowKit

/-- Facts come back, as a list that may share its values. -/
def OneP (w : World) (l : List FT) (e : Ending) (w' : World) : Prop := ∃ A c es, e = .returned (.slice A es.length c) ∧ FIn w' A es.length es ∧ fts es = l ∧ New w w' ∧ es.length ≤ c ∧ c ≤ maxLen

set_option maxRecDepth 100000 in
set_option maxHeartbeats 6400000 in
theorem rone_any (A : Option Addr) (n c : Nat) (es : List FE) (x : CE) (w : World) (h : FIn w A n es) (ho : ordF (fts es) = true) (hx : COk w x) (hk : ∀ e ∈ es, e.f.k.n.size ≤ maxLen) (hb : (n + 1) * 64 ≤ 140737488355328) :
    Calls Tryz.prog 68 #[.slice A n c, .agg #[.int .i64 x.f.k.i, .int .u8 (x.f.k.t : Nat), .string x.f.k.n, .int .i64 x.f.k.c, .slice x.A x.f.v.length x.c, .bool x.f.g]] w (OneP w (updF (fts es) x.f)) := by
  obtain ⟨i0, hi, hz0, hz1, hz2⟩ := info_parts info_u8
  have HN : Hid ((fts es).length = n) := by rw [Hid, fts_lenE, h.len]
  have HO := Lib.hid ho
  have HKN := Lib.hid hk
  have HXO := Lib.hid hx.2
  obtain ⟨w1, hw1⟩ : ∃ w1, w1 = w.alloc (.cells #[.int .i64 x.f.k.i, .int .u8 (x.f.k.t : Nat), .string x.f.k.n, .int .i64 x.f.k.c, .slice x.A x.f.v.length x.c, .bool x.f.g] 105) := ⟨_, rfl⟩
  have n1 : New w w1 := by rw [hw1]; exact (Kept.refl _ _).alloc _
  have BX : Hid (∀ u, New w1 u → Blk u w.heap.size 105 [.int .i64 x.f.k.i, .int .u8 (x.f.k.t : Nat), .string x.f.k.n, .int .i64 x.f.k.c, .slice x.A x.f.v.length x.c, .bool x.f.g]) := fun u hu => by rw [hw1] at hu; exact (Blk.made w _ _).kept hu id
  have XC : Hid (∀ u, New w1 u → u.cell? ⟨w.heap.size, 0, none⟩ = some (.int .i64 x.f.k.i) ∧ u.cell? ⟨w.heap.size, 1, none⟩ = some (.int .u8 (x.f.k.t : Nat)) ∧ u.cell? ⟨w.heap.size, 2, none⟩ = some (.string x.f.k.n) ∧ u.cell? ⟨w.heap.size, 3, none⟩ = some (.int .i64 x.f.k.c) ∧ u.cell? ⟨w.heap.size, 4, none⟩ = some (.slice x.A x.f.v.length x.c) ∧ u.cell? ⟨w.heap.size, 5, none⟩ = some (.bool x.f.g)) := fun u hu =>
    ⟨(BX.out u hu).cell 0, (BX.out u hu).cell 1, (BX.out u hu).cell 2, (BX.out u hu).cell 3, (BX.out u hu).cell 4, (BX.out u hu).cell 5⟩
  have H := Lib.hid (h.new n1)
  have HB := Lib.hid (hx.1.new n1)
  have N1 := Lib.hid n1
  have HW := Lib.hid hw1
  have hz : w.heap.size ≤ w1.heap.size := n1.size
  have ST := Lib.hid (OneI.start (fts es) x.f)
  clear h ho hx hk n1 hw1 BX
  obtain ⟨⟨kx, vx, gx⟩, Ax, cx⟩ := x
  dsimp only at *
  have hvx : vx.length ≤ 140737488351232 := HXO.out.2.1
  go_enter Tryz.func68, Tryz.ntmps68
  go_wp2_with (at_builtin; rw [← HW.out]; refine wpList_append_bytes _ rfl _ _ _ rfl 5 i0 Tryz.underlying52 hi hz0 hz1 hz2 w1.heap.size none 0 0 [] rfl (OwnB.nil _ _ _) rfl Ax vx.length cx vx rfl HB.out (by simp; omega) (Nat.le_refl _) ?_)
  intro A7 c7 w2 hown hg _
  have N2 : Hid (New w1 w2) := (Kept.refl _ _).grown hg (by simp)
  have OV : OwnB w2 5 w1.heap.size A7 c7 vx := by simpa using hown
  have NW2 := Lib.hid (N1.out.new N2.out)
  have H2 := Lib.hid (H.out.new N2.out)
  clear hown hg HW N1 H HB hi hz0 hz1 hz2
  have hz2 : w.heap.size ≤ w2.heap.size := NW2.out.size
  have OVB : Hid (OwnB w2 5 w.heap.size A7 c7 vx) := OV.mono hz
  clear OV hz
  go_wp2_with fail
  go_loopw [5, 6, 8] (fun tout td ti wr => ∃ (i : Nat) (Ao : Option Addr) (no co : Nat) (os : List FE) (d : Bool), i ≤ n ∧ no ≤ i + 1 ∧ ti = .int .i64 i ∧ tout = .slice Ao no co ∧ td = .bool d ∧ Hid (os.length = no) ∧ Hid (Mix wr w2.heap.size Ao co os) ∧ Hid (OneI (fts es) ⟨kx, vx, gx⟩ i (fts os) d) ∧ Hid (New w2 wr)) (fun _ _ i _ => n - (intOf i).toNat)
  case atStart => exact ⟨0, none, 0, 0, [], gx, Nat.zero_le _, by omega, rfl, rfl, rfl, rfl, Mix.nil _ _, ST, Kept.refl _ _⟩
  case round =>
    obtain ⟨i, Ao, no, co, os, d, hin, hno, rfl, rfl, rfl, VL, VM, VI, VN⟩ := hrel
    have HBX : Hid (New w1 wr) := N2.out.new VN.out
    have HOWN : Hid (∀ (w7 : World) (A2 : Option Addr) (c2 n2 : Nat) (vs : List Value), New w2 w7 → OwnV w7 94 5 w2.heap.size A2 n2 c2 vs → ∀ u, Kept (InRow A2) w7 u → EOk u ⟨⟨kx, vx⟩, A7, c7⟩) := fun w7 A2 c2 n2 vs h7 hv u hu =>
      own_beside (x := ⟨kx, vx⟩) (OVB.out.new h7) hv ⟨HXO.out.2.1, HXO.out.2.2⟩ hu
    have HMV : Hid (OwnV wr 94 5 w2.heap.size Ao no co (fes os)) := by
      have := VM.out.1
      rw [VL.out] at this
      exact this
    have hsz : w2.heap.size ≤ wr.heap.size := VN.out.size
    by_cases hlt : i < n
    · obtain ⟨g, o, y, eA, hy, hok, y0, y1, y2, y3, y4⟩ := (H2.out.new VN.out).at_ (i := i) hlt
      subst eA
      have HFY : Hid ((fts es)[i]? = some y.f) := by show _ = _; unfold fts; rw [List.getElem?_map, hy]; rfl
      have HYM : Hid (∀ u, New w2 u → EOk u y) := fun u hu => (H2.out.new hu).2 y (List.mem_of_getElem? hy)
      have HYC : Hid (∀ u, New w2 u → u.cell? ⟨g, o + i * 5, none⟩ = some (.int .i64 y.f.k.i) ∧ u.cell? ⟨g, o + i * 5 + 1, none⟩ = some (.int .u8 (y.f.k.t : Nat)) ∧ u.cell? ⟨g, o + i * 5 + 2, none⟩ = some (.string y.f.k.n) ∧ u.cell? ⟨g, o + i * 5 + 3, none⟩ = some (.int .i64 y.f.k.c) ∧ u.cell? ⟨g, o + i * 5 + 4, none⟩ = some (.slice y.A y.f.v.length y.c)) := fun u hu => by
        obtain ⟨g', o', y', eA', hy', _, z0, z1, z2, z3, z4⟩ := (H2.out.new hu).at_ (i := i) hlt
        injection eA' with eA'
        injection eA' with e1 e2
        subst e1 e2
        rw [hy] at hy'
        injection hy' with hy'
        subst hy'
        exact ⟨z0, z1, z2, z3, z4⟩
      have HKY : Hid (y.f.k.n.size ≤ maxLen) := HKN.out y (List.mem_of_getElem? hy)
      have ONE1 : Hid (∀ u ∈ [Value.int .i64 kx.i, .int .u8 (kx.t : Nat), .string kx.n, .int .i64 kx.c, .slice A7 vx.length c7], u.oneCell') := by intro u hu; simp at hu; rcases hu with rfl | rfl | rfl | rfl | rfl <;> rfl
      have ONE2 : Hid (∀ u ∈ [Value.int .i64 y.f.k.i, .int .u8 (y.f.k.t : Nat), .string y.f.k.n, .int .i64 y.f.k.c, .slice y.A y.f.v.length y.c], u.oneCell') := by intro u hu; simp at hu; rcases hu with rfl | rfl | rfl | rfl | rfl <;> rfl
      clear hy hok y0 y1 y2 y3 y4
      obtain ⟨y0, y1, y2, y3, y4⟩ := HYC.out wr VN.out
      obtain ⟨x0, x1, x2, x3, x4, x5⟩ := XC.out wr HBX.out
      have s1 : (0 : Int) ≤ (i : Int) := by omega
      have s3 : (i : Int) < (n : Int) := by omega
      have p0 := fun d os => cell_regrown y0 d os
      have p1 := fun d os => cell_regrown y1 d os
      have p2 := fun d os => cell_regrown y2 d os
      have p3 := fun d os => cell_regrown y3 d os
      have r0 := fun d os => cell_regrown x0 d os
      have r1 := fun d os => cell_regrown x1 d os
      have r2 := fun d os => cell_regrown x2 d os
      have r3 := fun d os => cell_regrown x3 d os
      clear y0 y1 y2 y3 y4 x0 x1 x2 x3 x4 x5
      by_cases he : y.f.k = kx
      · have HEQ : ∀ u, Sem.run Tryz.prog (binOp .eql 92 (.agg #[.int .i64 y.f.k.i, .int .u8 (y.f.k.t : Nat), .string y.f.k.n, .int .i64 y.f.k.c]) (.agg #[.int .i64 kx.i, .int .u8 (kx.t : Nat), .string kx.n, .int .i64 kx.c])) u = .ok (.bool true) u := fun u => by rw [key_eql, decide_eq_true he]
        have HE := Lib.hid he
        clear he
        go_wp2_with fail
        refine wp_region_quiet_below (by kernel_rfl) (by kernel_rfl) ?_
        repeat (quiet_step (fail))
        refine wpQuiet_nil ?_
        intro _ hw'
        obtain ⟨⟨dq, osq⟩, hw''⟩ := hw'
        subst hw''
        have K_w9 : Hid (New wr (Go.Sort.grow (redrawn wr dq) osq)) := new_regrown (Kept.refl _ _) dq osq
        generalize Go.Sort.grow (redrawn wr dq) osq = w9 at *
        clear p0 p1 p2 p3 r0 r1 r2 r3 HEQ
        have M9 := Lib.hid (VM.out.new K_w9.out)
        have V9 := Lib.hid (HMV.out.new K_w9.out)
        have N9 := Lib.hid (VN.out.new K_w9.out)
        have hb9 : w2.heap.size ≤ w9.heap.size := N9.out.size
        clear VM VN HMV
        cases d with
        | true =>
          have VI2 := Lib.hid (VI.out.eq1 HFY.out HE.out)
          clear VI V9
          go_wp2
          go_roundw
          case rel => exact ⟨i + 1, Ao, no, co, os, true, by omega, by omega, by go_num, by first | rfl | go_num, rfl, VL, M9, VI2, N9⟩
          case measure => simp [intOf]; omega
        | false =>
          have hni : no ≤ i := by have := VI.out.len0; rw [fts_lenE, VL.out] at this; exact this
          have hbtB : (no + 1) * 64 ≤ 140737488355328 := by omega
          have hbB := hb9
          have VI2 := Lib.hid (VI.out.eq0 HFY.out HE.out)
          clear VI
          obtain ⟨x0, x1, x2, x3, x4, x5⟩ := XC.out w9 (N2.out.new N9.out)
          go_wp2_with (at_builtin; refine wpList_append_fact (wb := w9) rfl (.tmp 31) (.tmp 36) rfl w2.heap.size Ao no co (fes os) rfl V9.out ((Kept.refl _ _).alloc _) w9.heap.size 1 [.int .i64 kx.i, .int .u8 (kx.t : Nat), .string kx.n, .int .i64 kx.c, .slice A7 vx.length c7] rfl (Blk.made _ _ _) rfl ONE1.out hbtB hbB ?_)
          intro AB cB w7 O7 K7 D7
          have NB := Lib.hid (new_row N9.out V9.out K7.out)
          have MB := Lib.hid (M9.out.more (e := (⟨⟨kx, vx⟩, A7, c7⟩ : FE)) VL.out O7.out K7.out D7.out (HOWN.out w7 AB cB _ _ NB.out O7.out))
          have VB : Hid (OwnV w7 94 5 w2.heap.size AB (no + 1) cB (fes (os ++ [(⟨⟨kx, vx⟩, A7, c7⟩ : FE)]))) := by
            have := MB.out.1
            rw [List.length_append, VL.out] at this
            exact this
          clear O7 K7 D7 x0 x1 x2 x3 x4 x5
          have L7 : Hid ((os ++ [(⟨⟨kx, vx⟩, A7, c7⟩ : FE)]).length = no + 1) := by rw [Hid, List.length_append, VL.out]; rfl
          have I7 : Hid (OneI (fts es) ⟨kx, vx, gx⟩ (i + 1) (fts (os ++ [(⟨⟨kx, vx⟩, A7, c7⟩ : FE)])) true) := by rw [Hid, fts_append]; exact VI2.out
          clear M9 V9 N9 VI2 K_w9
          go_wp2
          go_roundw
          case rel => exact ⟨i + 1, AB, no + 1, cB, _, true, by omega, by omega, by go_num, by first | rfl | go_num, rfl, L7, MB, I7, NB⟩
          case measure => simp [intOf]; omega
      · have HEQ : ∀ u, Sem.run Tryz.prog (binOp .eql 92 (.agg #[.int .i64 y.f.k.i, .int .u8 (y.f.k.t : Nat), .string y.f.k.n, .int .i64 y.f.k.c]) (.agg #[.int .i64 kx.i, .int .u8 (kx.t : Nat), .string kx.n, .int .i64 kx.c])) u = .ok (.bool false) u := fun u => by rw [key_eql, decide_eq_false he]
        have HE := Lib.hid he
        clear he
        go_wp2_with fail
        refine wp_region_quiet_below (by kernel_rfl) (by kernel_rfl) ?_
        repeat (quiet_step (fail))
        refine wpQuiet_nil ?_
        intro _ hw'
        obtain ⟨⟨dq, osq⟩, hw''⟩ := hw'
        subst hw''
        have K_w9 : Hid (New wr (Go.Sort.grow (redrawn wr dq) osq)) := new_regrown (Kept.refl _ _) dq osq
        generalize Go.Sort.grow (redrawn wr dq) osq = w9 at *
        clear p0 p1 p2 p3 r0 r1 r2 r3 HEQ
        have M9 := Lib.hid (VM.out.new K_w9.out)
        have V9 := Lib.hid (HMV.out.new K_w9.out)
        have N9 := Lib.hid (VN.out.new K_w9.out)
        clear VM VN HMV
        cases d with
        | true =>
          have hbtC : (no + 1) * 64 ≤ 140737488355328 := Nat.le_trans (Nat.mul_le_mul_right 64 (by omega : no + 1 ≤ n + 1)) hb
          have VI2 := Lib.hid (VI.out.on1 HO.out HFY.out HE.out)
          clear VI
          go_wp2_with fail
          go_quiet (fail)
          have K_w10 : Hid (New w9 (w9.drewN nq)) := (Kept.refl _ _).drewN nq
          generalize w9.drewN nq = w10 at *
          have MA := Lib.hid (M9.out.new K_w10.out)
          have VA := Lib.hid (V9.out.new K_w10.out)
          have NA := Lib.hid (N9.out.new K_w10.out)
          have hbC : w2.heap.size ≤ w10.heap.size := NA.out.size
          clear M9 V9 N9 K_w9 K_w10
          obtain ⟨x0, x1, x2, x3, x4⟩ := HYC.out w10 NA.out
          have x5 := True.intro
          go_wp2_with (at_builtin; refine wpList_append_fact (wb := w10) rfl (.tmp 57) (.tmp 62) rfl w2.heap.size Ao no co (fes os) rfl VA.out ((Kept.refl _ _).alloc _) w10.heap.size 1 [.int .i64 y.f.k.i, .int .u8 (y.f.k.t : Nat), .string y.f.k.n, .int .i64 y.f.k.c, .slice y.A y.f.v.length y.c] rfl (Blk.made _ _ _) rfl ONE2.out hbtC hbC ?_)
          intro AC cC w7 O7 K7 D7
          have NC := Lib.hid (new_row NA.out VA.out K7.out)
          have MC := Lib.hid (MA.out.more (e := y) VL.out O7.out K7.out D7.out (fun u hu => HYM.out u (new_row NC.out O7.out hu)))
          have VC : Hid (OwnV w7 94 5 w2.heap.size AC (no + 1) cC (fes (os ++ [y]))) := by
            have := MC.out.1
            rw [List.length_append, VL.out] at this
            exact this
          clear O7 K7 D7 x0 x1 x2 x3 x4 x5
          have L7 : Hid ((os ++ [y]).length = no + 1) := by rw [Hid, List.length_append, VL.out]; rfl
          have I7 : Hid (OneI (fts es) ⟨kx, vx, gx⟩ (i + 1) (fts (os ++ [y])) true) := by rw [Hid, fts_append]; exact VI2.out
          clear MA VA NA VI2
          go_wp2
          go_roundw
          case rel => exact ⟨i + 1, AC, no + 1, cC, _, true, by omega, by omega, by go_num, by first | rfl | go_num, rfl, L7, MC, I7, NC⟩
          case measure => simp [intOf]; omega
        | false =>
          have hni : no ≤ i := by have := VI.out.len0; rw [fts_lenE, VL.out] at this; exact this
          have hbtB : (no + 1) * 64 ≤ 140737488355328 := by omega
          have cB := Lib.hid (fun (d : Nat) (os : Array Obj) => Calls.regrown_of (d := d) (os := os) ((rbefore_any kx y.f.k (Go.Sort.grow (redrawn w9 d) os) HXO.out.2.2 HKY.out).mono fun e w' hh => ⟨hh.1, hh.2.below⟩))
          obtain ⟨x0, x1, x2, x3, _, _⟩ := XC.out w9 (N2.out.new N9.out)
          obtain ⟨y0, y1, y2, y3, _⟩ := HYC.out w9 N9.out
          have p0 := fun d os => cell_regrown y0 d os
          have p1 := fun d os => cell_regrown y1 d os
          have p2 := fun d os => cell_regrown y2 d os
          have p3 := fun d os => cell_regrown y3 d os
          have r0 := fun d os => cell_regrown x0 d os
          have r1 := fun d os => cell_regrown x1 d os
          have r2 := fun d os => cell_regrown x2 d os
          have r3 := fun d os => cell_regrown x3 d os
          clear x0 x1 x2 x3 y0 y1 y2 y3
          obtain ⟨bb, hbb⟩ : ∃ b, befK kx y.f.k = b := ⟨_, rfl⟩
          rw [hbb] at cB
          have HBB := Lib.hid hbb
          clear hbb
          cases bb with
          | true =>
            have hbtC : (no + 1 + 1) * 64 ≤ 140737488355328 := Nat.le_trans (Nat.mul_le_mul_right 64 (by omega : no + 1 + 1 ≤ n + 1)) hb
            have VI2 := Lib.hid (VI.out.put HFY.out HBB.out)
            clear VI
            go_wp2_with fail
            refine wp_region_quiet_below (by kernel_rfl) (by kernel_rfl) ?_
            repeat (quiet_step (first | (go_at_call 99; exact cB.out _ _)))
            refine wpQuiet_nil ?_
            intro _ hw'
            obtain ⟨⟨dq, osq⟩, hw''⟩ := hw'
            subst hw''
            have K_w10 : Hid (New w9 (Go.Sort.grow (redrawn w9 dq) osq)) := new_regrown (Kept.refl _ _) dq osq
            generalize Go.Sort.grow (redrawn w9 dq) osq = w10 at *
            clear cB p0 p1 p2 p3 r0 r1 r2 r3
            have MA := Lib.hid (M9.out.new K_w10.out)
            have VA := Lib.hid (V9.out.new K_w10.out)
            have NA := Lib.hid (N9.out.new K_w10.out)
            have hbB : w2.heap.size ≤ w10.heap.size := NA.out.size
            clear M9 V9 N9 K_w9 K_w10
            obtain ⟨x0, x1, x2, x3, x4, x5⟩ := XC.out w10 (N2.out.new NA.out)
            go_wp2_with (at_builtin; refine wpList_append_fact (wb := w10) rfl (.tmp 50) (.tmp 55) rfl w2.heap.size Ao no co (fes os) rfl VA.out ((Kept.refl _ _).alloc _) w10.heap.size 1 [.int .i64 kx.i, .int .u8 (kx.t : Nat), .string kx.n, .int .i64 kx.c, .slice A7 vx.length c7] rfl (Blk.made _ _ _) rfl ONE1.out hbtB hbB ?_)
            intro AB cB w7 O7 K7 D7
            have NB := Lib.hid (new_row NA.out VA.out K7.out)
            have MB := Lib.hid (MA.out.more (e := (⟨⟨kx, vx⟩, A7, c7⟩ : FE)) VL.out O7.out K7.out D7.out (HOWN.out w7 AB cB _ _ NB.out O7.out))
            have VB : Hid (OwnV w7 94 5 w2.heap.size AB (no + 1) cB (fes (os ++ [(⟨⟨kx, vx⟩, A7, c7⟩ : FE)]))) := by
              have := MB.out.1
              rw [List.length_append, VL.out] at this
              exact this
            clear O7 K7 D7 x0 x1 x2 x3 x4 x5
            have L7 : Hid ((os ++ [(⟨⟨kx, vx⟩, A7, c7⟩ : FE)]).length = no + 1) := by rw [Hid, List.length_append, VL.out]; rfl
            have hbC : w2.heap.size ≤ w7.heap.size := NB.out.size
            clear MA VA NA
            obtain ⟨x0, x1, x2, x3, x4⟩ := HYC.out w7 NB.out
            have x5 := True.intro
            go_wp2_with (at_builtin; refine wpList_append_fact (wb := w7) rfl (.tmp 57) (.tmp 62) rfl w2.heap.size AB (no + 1) cB (fes (os ++ [(⟨⟨kx, vx⟩, A7, c7⟩ : FE)])) rfl VB.out ((Kept.refl _ _).alloc _) w7.heap.size 1 [.int .i64 y.f.k.i, .int .u8 (y.f.k.t : Nat), .string y.f.k.n, .int .i64 y.f.k.c, .slice y.A y.f.v.length y.c] rfl (Blk.made _ _ _) rfl ONE2.out hbtC hbC ?_)
            intro AC cC w8 O7 K7 D7
            have NC := Lib.hid (new_row NB.out VB.out K7.out)
            have MC := Lib.hid (MB.out.more (e := y) L7.out O7.out K7.out D7.out (fun u hu => HYM.out u (new_row NC.out O7.out hu)))
            have VC : Hid (OwnV w8 94 5 w2.heap.size AC ((no + 1) + 1) cC (fes ((os ++ [(⟨⟨kx, vx⟩, A7, c7⟩ : FE)]) ++ [y]))) := by
              have := MC.out.1
              rw [List.length_append, L7.out] at this
              exact this
            clear O7 K7 D7 x0 x1 x2 x3 x4 x5
            have L8 : Hid (((os ++ [(⟨⟨kx, vx⟩, A7, c7⟩ : FE)]) ++ [y]).length = no + 1 + 1) := by rw [Hid, List.length_append, L7.out]; rfl
            have I7 : Hid (OneI (fts es) ⟨kx, vx, gx⟩ (i + 1) (fts ((os ++ [(⟨⟨kx, vx⟩, A7, c7⟩ : FE)]) ++ [y])) true) := by rw [Hid, fts_append, fts_append]; exact VI2.out
            clear MB VB NB VI2
            go_wp2
            go_roundw
            case rel => exact ⟨i + 1, AC, no + 1 + 1, cC, _, true, by omega, by omega, by go_num, by first | rfl | go_num, rfl, L8, MC, I7, NC⟩
            case measure => simp [intOf]; omega
          | false =>
            have VI2 := Lib.hid (VI.out.on0 HFY.out HBB.out HE.out)
            have hbtC := hbtB
            clear VI
            go_wp2_with fail
            refine wp_region_quiet_below (by kernel_rfl) (by kernel_rfl) ?_
            repeat (quiet_step (first | (go_at_call 99; exact cB.out _ _)))
            refine wpQuiet_nil ?_
            intro _ hw'
            obtain ⟨⟨dq, osq⟩, hw''⟩ := hw'
            subst hw''
            have K_w10 : Hid (New w9 (Go.Sort.grow (redrawn w9 dq) osq)) := new_regrown (Kept.refl _ _) dq osq
            generalize Go.Sort.grow (redrawn w9 dq) osq = w10 at *
            clear cB p0 p1 p2 p3 r0 r1 r2 r3
            have MA := Lib.hid (M9.out.new K_w10.out)
            have VA := Lib.hid (V9.out.new K_w10.out)
            have NA := Lib.hid (N9.out.new K_w10.out)
            have hbC : w2.heap.size ≤ w10.heap.size := NA.out.size
            clear M9 V9 N9 K_w9 K_w10
            obtain ⟨x0, x1, x2, x3, x4⟩ := HYC.out w10 NA.out
            have x5 := True.intro
            go_wp2_with (at_builtin; refine wpList_append_fact (wb := w10) rfl (.tmp 57) (.tmp 62) rfl w2.heap.size Ao no co (fes os) rfl VA.out ((Kept.refl _ _).alloc _) w10.heap.size 1 [.int .i64 y.f.k.i, .int .u8 (y.f.k.t : Nat), .string y.f.k.n, .int .i64 y.f.k.c, .slice y.A y.f.v.length y.c] rfl (Blk.made _ _ _) rfl ONE2.out hbtC hbC ?_)
            intro AC cC w7 O7 K7 D7
            have NC := Lib.hid (new_row NA.out VA.out K7.out)
            have MC := Lib.hid (MA.out.more (e := y) VL.out O7.out K7.out D7.out (fun u hu => HYM.out u (new_row NC.out O7.out hu)))
            have VC : Hid (OwnV w7 94 5 w2.heap.size AC (no + 1) cC (fes (os ++ [y]))) := by
              have := MC.out.1
              rw [List.length_append, VL.out] at this
              exact this
            clear O7 K7 D7 x0 x1 x2 x3 x4 x5
            have L7 : Hid ((os ++ [y]).length = no + 1) := by rw [Hid, List.length_append, VL.out]; rfl
            have I7 : Hid (OneI (fts es) ⟨kx, vx, gx⟩ (i + 1) (fts (os ++ [y])) false) := by rw [Hid, fts_append]; exact VI2.out
            clear MA VA NA VI2
            go_wp2
            go_roundw
            case rel => exact ⟨i + 1, AC, no + 1, cC, _, false, by omega, by omega, by go_num, by first | rfl | go_num, rfl, L7, MC, I7, NC⟩
            case measure => simp [intOf]; omega
    · have hin2 : i = n := by omega
      subst hin2
      have hlen : (fts es).length = i := HN.out
      have VI3 : OneI (fts es) ⟨kx, vx, gx⟩ (fts es).length (fts os) d := by rw [hlen]; exact VI.out
      clear hlen
      cases d with
      | true =>
        have E9 : Hid (OneP w (updF (fts es) ⟨kx, vx, gx⟩) (.returned (.slice Ao no co)) wr) := by
          have h9 := VM.out.1
          exact ⟨Ao, co, os, by rw [VL.out], VM.out.in_, VI3.fin1, NW2.out.new VN.out, h9.2.1, h9.2.2.1⟩
        clear VI VI3 VM VN HMV
        go_wp2
        go_ret
        exact E9.out
      | false =>
        have hni : no ≤ i := by have := VI.out.len0; rw [fts_lenE, VL.out] at this; exact this
        have hbtB : (no + 1) * 64 ≤ 140737488355328 := by omega
        have VI2 := Lib.hid VI3.fin0
        have hbB : w2.heap.size ≤ wr.heap.size := VN.out.size
        have ONE1 : Hid (∀ u ∈ [Value.int .i64 kx.i, .int .u8 (kx.t : Nat), .string kx.n, .int .i64 kx.c, .slice A7 vx.length c7], u.oneCell') := by intro u hu; simp at hu; rcases hu with rfl | rfl | rfl | rfl | rfl <;> rfl
        clear VI VI3
        obtain ⟨x0, x1, x2, x3, x4, x5⟩ := XC.out wr (N2.out.new VN.out)
        go_wp2_with (at_builtin; refine wpList_append_fact (wb := wr) rfl (.tmp 66) (.tmp 71) rfl w2.heap.size Ao no co (fes os) rfl HMV.out ((Kept.refl _ _).alloc _) wr.heap.size 1 [.int .i64 kx.i, .int .u8 (kx.t : Nat), .string kx.n, .int .i64 kx.c, .slice A7 vx.length c7] rfl (Blk.made _ _ _) rfl ONE1.out hbtB hbB ?_)
        intro AB cB w7 O7 K7 D7
        have NB := Lib.hid (new_row VN.out HMV.out K7.out)
        have MB := Lib.hid (VM.out.more (e := (⟨⟨kx, vx⟩, A7, c7⟩ : FE)) VL.out O7.out K7.out D7.out (HOWN.out w7 AB cB _ _ NB.out O7.out))
        have VB : Hid (OwnV w7 94 5 w2.heap.size AB (no + 1) cB (fes (os ++ [(⟨⟨kx, vx⟩, A7, c7⟩ : FE)]))) := by
          have := MB.out.1
          rw [List.length_append, VL.out] at this
          exact this
        clear O7 K7 D7 x0 x1 x2 x3 x4 x5
        have E9 : Hid (OneP w (updF (fts es) ⟨kx, vx, gx⟩) (.returned (.slice AB (no + 1) cB)) w7) := by
          have h9 := MB.out.1
          refine ⟨AB, cB, os ++ [(⟨⟨kx, vx⟩, A7, c7⟩ : FE)], by rw [List.length_append, VL.out]; rfl, MB.out.in_, ?_, NW2.out.new NB.out, h9.2.1, h9.2.2.1⟩
          rw [fts_append]
          exact VI2.out
        clear VI2 VM VN HMV MB NB VB
        go_wp2
        go_ret
        exact E9.out

end


section

set_option maxRecDepth 100000
open Go.ChangeShapes Go.WideShapes Go.ChangeAt Go.RowKit

theorem rbefore_new (a b : KY) (r : Bool) (h : befK a b = r) (ha : a.n.size ≤ maxLen) (hb : b.n.size ≤ maxLen) (u : World) :
    Calls Tryz.prog 99 #[.agg #[.int .i64 a.i, .int .u8 (a.t : Nat), .string a.n, .int .i64 a.c], .agg #[.int .i64 b.i, .int .u8 (b.t : Nat), .string b.n, .int .i64 b.c]] u fun e w' => e = .returned (.bool r) ∧ Below u.heap.size u w' :=
  (rbefore_any a b u ha hb).mono fun e w' hh => ⟨by rw [hh.1, h], hh.2.below⟩

set_option maxRecDepth 100000 in
set_option maxHeartbeats 3200000 in
theorem rordered_any (A : Option Addr) (n c : Nat) (es : List FE) (w : World) (h : FIn w A n es) (hn : n ≤ maxLen) :
    Calls Tryz.prog 67 #[.slice A n c] w (NewBool w (ordF (fts es))) := by
  have HL : Hid ((fts es).length = n) := by show _ = _; unfold fts; rw [List.length_map, h.len]
  have H := Lib.hid h
  unfold maxLen at hn
  clear h
  go_enter Tryz.func67, Tryz.ntmps67
  go_wp2_with fail
  go_loopw [3] (fun i wr => ∃ k : Nat, (k + 1 ≤ n ∨ k = 0) ∧ i = .int .i64 ((k : Int) + 1) ∧ Hid (New w wr) ∧ Hid (ordF ((fts es).take (k + 1)) = true)) (fun i _ => n - (intOf i).toNat)
  case atStart =>
    refine ⟨0, .inr rfl, rfl, Kept.refl _ _, ?_⟩
    show ordF ((fts es).take 1) = true
    match fts es with
    | [] => rfl
    | [_] => rfl
    | _ :: _ :: _ => rfl
  case round =>
    obtain ⟨k, hk, rfl, HN, HO⟩ := hrel
    by_cases hlt : k + 1 < n
    · obtain ⟨g, o, x, eA, hx, okx, x0, x1, x2, x3, _⟩ := (H.out.new HN.out).at_ (i := k) (by omega)
      obtain ⟨g', o', y, eA', hy, oky, y0, y1, y2, y3, _⟩ := (H.out.new HN.out).at_ (i := k + 1) hlt
      subst eA
      injection eA' with eA'
      injection eA' with e1 e2
      subst e1 e2
      have hfx : (fts es)[k]? = some x.f := by unfold fts; rw [List.getElem?_map, hx]; rfl
      have hfy : (fts es)[k + 1]? = some y.f := by unfold fts; rw [List.getElem?_map, hy]; rfl
      have HB := Lib.hid (ord_upto HO.out hfx hfy)
      have HNO : Hid (ordF ((fts es).take (k + 2)) = false → ordF (fts es) = false) := by
        intro hh
        cases e : ordF (fts es) with
        | false => rfl
        | true => rw [ord_take e] at hh; cases hh
      have s0 : IntKind.i64.wrap (k : Int) = (k : Int) := by rw [IntKind.wrap_i64]; omega
      have s1 : (0 : Int) ≤ (k : Int) + 1 := by omega
      have s2 : ((k : Int) + 1).toNat = k + 1 := by omega
      have s3 : (k : Int) < (n : Int) := by omega
      have s4 : (k : Int) + 1 < (n : Int) := by omega
      have p0 := fun d os => cell_regrown x0 d os
      have p1 := fun d os => cell_regrown x1 d os
      have p2 := fun d os => cell_regrown x2 d os
      have p3 := fun d os => cell_regrown x3 d os
      have r0 := fun d os => cell_regrown y0 d os
      have r1 := fun d os => cell_regrown y1 d os
      have r2 := fun d os => cell_regrown y2 d os
      have r3 := fun d os => cell_regrown y3 d os
      have cB := Lib.hid (fun (d : Nat) (os : Array Obj) => Calls.regrown_of (d := d) (os := os) (rbefore_new x.f.k y.f.k _ rfl okx.2.2.2 oky.2.2.2 (Go.Sort.grow (redrawn wr d) os)))
      clear x0 x1 x2 x3 y0 y1 y2 y3 okx oky hx hy hfx hfy
      generalize befK x.f.k y.f.k = b at *
      cases b
      · have HZ := Lib.hid (HNO.out HB.out)
        go_wp2_with fail
        refine wp_region_quiet_below (by kernel_rfl) (by kernel_rfl) ?_
        repeat (quiet_step (first
          | (go_at_call 99; exact cB.out _ _)))
        refine wpQuiet_nil ?_
        intro _ hw'
        obtain ⟨⟨dq, osq⟩, hw''⟩ := hw'
        subst hw''
        have K9 : Hid (New w (Go.Sort.grow (redrawn wr dq) osq)) := new_regrown HN.out dq osq
        go_wp2
        go_ret
        exact ⟨by rw [HZ.out]; rfl, K9.out⟩
      · go_wp2_with fail
        refine wp_region_quiet_below (by kernel_rfl) (by kernel_rfl) ?_
        repeat (quiet_step (first
          | (go_at_call 99; exact cB.out _ _)))
        refine wpQuiet_nil ?_
        intro _ hw'
        obtain ⟨⟨dq, osq⟩, hw''⟩ := hw'
        subst hw''
        have K9 : Hid (New w (Go.Sort.grow (redrawn wr dq) osq)) := new_regrown HN.out dq osq
        clear cB p0 p1 p2 p3 r0 r1 r2 r3
        go_wp2
        go_roundw
        case rel => exact ⟨k + 1, .inl (by omega), by go_num, K9, HB⟩
        case measure => simp [intOf]; omega
    · have HZ : Hid (ordF (fts es) = true) := by
        have := HO.out
        rwa [List.take_of_length_le (by rw [HL.out]; omega)] at this
      clear HO
      go_wp2
      go_ret
      exact ⟨by rw [HZ.out]; rfl, HN.out⟩

theorem fes_one : ∀ (es : List FE), ∀ u ∈ fes es, u.oneCell' = true
  | [], u, h => by cases h
  | e :: r, u, h => by
    rcases List.mem_append.1 h with h | h
    · simp only [FE.cells, kcells, List.cons_append, List.nil_append, List.mem_cons, List.not_mem_nil, or_false] at h
      rcases h with rfl | rfl | rfl | rfl | rfl <;> rfl
    · exact fes_one r u h
/-- A whole list of facts behind none. -/
theorem wpList_append_facts {w : World} {ops : Array Oper} {rest : List Oper} {o : Oper} {a : Act} {Q : Exit → Act → World → Prop} (hgd : o.guard = none) (s x : Operand)
    (ho : o.op = .call { callee := .builtin .append, args := #[s, x], argTypes := #[30, 30] })
    (hsv : a.eval s = .slice none 0 0) (A' : Option Addr) (m c' : Nat) (es : List FE) (hx : a.eval x = .slice A' m c') (hr : FIn w A' m es) (hn : m * 64 ≤ 140737488355328)
    (h : ∀ A2 c2 w', Hid (OwnV w' 94 5 w.heap.size A2 m c2 (fes es)) → Hid (New w w') → wpList Tryz.prog ops Q rest (a.put o.dst (.slice A2 m c2)) w') :
    wpList Tryz.prog ops Q (o :: rest) a w := by
  obtain ⟨i0, hi, hz0, hz1, hz2⟩ := info_parts info_fact
  refine wpList_append_rowV w hgd s x 30 ho 94 i0 (.agg #[.int .i64 0, .int .u8 0, .string ⟨#[]⟩, .int .i64 0, .slice none 0 0]) Tryz.underlying30 hi hz0 (by rw [hz1]; rfl) (by rw [hz1]; omega) w.heap.size none 0 0 [] hsv (OwnV.nil _ _ _ _) A' m c' (fes es) hx (by rw [hz1]; exact hr.1) (fes_one es) (by rw [hz2]; omega) (by omega) (Nat.le_refl _) ?_
  intro A2 c2 w' h3 h4 _
  rw [Nat.zero_add, hz1] at h3
  rw [Nat.zero_add]
  exact h A2 c2 w' h3 ((Kept.refl _ _).grown h4.out (by simp))

theorem apF_len (l : List FT) (cs : List CT) : (apF l cs).length ≤ l.length + cs.length := by
  induction cs generalizing l with
  | nil => exact Nat.le_refl _
  | cons c r ih =>
    have h1 := ih (updF l c)
    have h2 := upd_len l c
    show (apF (updF l c) r).length ≤ _
    rw [List.length_cons]
    omega
theorem apF_snoc (l : List FT) (cs : List CT) (c : CT) : apF l (cs ++ [c]) = updF (apF l cs) c := by
  unfold apF
  rw [List.foldl_append]
  rfl

set_option maxRecDepth 100000 in
set_option maxHeartbeats 3200000 in
theorem rapply_any (A : Option Addr) (n c : Nat) (es : List FE) (A' : Option Addr) (n' c' : Nat) (cs : List CE) (w : World) (h : FIn w A n es) (hn : n ≤ maxLen) (hcs : CIn w A' n' cs) (hb : (n + n') * 64 ≤ 140737488355328) :
    Calls Tryz.prog 31 #[.slice A n c, .slice A' n' c'] w (OneP w (if ordF (fts es) = true then apF (fts es) (cts cs) else [])) := by
  have CO := Lib.hid (rordered_any A n c es w h hn)
  cases ho : ordF (fts es) with
  | false =>
    rw [ho] at CO
    rw [if_neg (by simp)]
    clear h hcs ho
    go_enter Tryz.func31, Tryz.ntmps31
    go_wp2_with fail
    refine CO.out.mono ?_
    rintro e w2 ⟨rfl, k2⟩
    have K2 := Lib.hid k2
    clear k2 CO
    go_wp2
    go_ret
    exact ⟨none, 0, [], rfl, FIn.nil _ _, rfl, K2.out, Nat.le_refl _, by simp⟩
  | true =>
    rw [ho] at CO
    rw [if_pos rfl]
    have HO := Lib.hid ho
    have H := Lib.hid h
    have HC := Lib.hid hcs
    have HL : Hid ((fts es).length = n) := by rw [Hid, fts_lenE, h.len]
    have HCL : Hid ((cts cs).length = n') := by show _ = _; unfold cts; rw [List.length_map, hcs.len]
    have hnb : n * 64 ≤ 140737488355328 := by omega
    have hnm : n + n' ≤ 2199023255552 := by omega
    clear h hcs ho
    go_enter Tryz.func31, Tryz.ntmps31
    go_wp2_with fail
    refine CO.out.mono ?_
    rintro e w2 ⟨rfl, k2⟩
    have K2 := Lib.hid k2
    have H2 := Lib.hid (H.out.new k2)
    clear k2 CO
    go_wp2_with (at_builtin; refine wpList_append_facts rfl _ _ rfl rfl A n c es rfl H2.out hnb ?_)
    intro A3 c3 w3 O3 N3
    have F3 : Hid (FIn w3 A3 n es) := ⟨O3.out.row, (H2.out.new N3.out).2⟩
    have K3 := Lib.hid (K2.out.new N3.out)
    have C3 : Hid (n ≤ c3 ∧ c3 ≤ maxLen) := ⟨O3.out.2.1, O3.out.2.2.1⟩
    clear O3 N3 H2 K2
    go_wp2_with fail
    go_loopw [5, 6] (fun tout ti wr => ∃ (i : Nat) (Ao : Option Addr) (no co : Nat) (os : List FE), i ≤ n' ∧ no ≤ n + i ∧ ti = .int .i64 i ∧ tout = .slice Ao no co ∧ Hid (FIn wr Ao no os) ∧ Hid (fts os = apF (fts es) ((cts cs).take i)) ∧ Hid (New w wr) ∧ Hid (no ≤ co ∧ co ≤ maxLen)) (fun _ i _ => n' - (intOf i).toNat)
    case atStart => exact ⟨0, A3, n, c3, es, Nat.zero_le _, Nat.le_refl _, rfl, rfl, F3, rfl, K3, C3⟩
    case round =>
      obtain ⟨i, Ao, no, co, os, hi, hno, rfl, rfl, VF, VA, VN, VC⟩ := hrel
      clear F3 K3 C3
      by_cases hlt : i < n'
      · obtain ⟨g, o, x, eA, hx, x0, x1, x2, x3, x4, x5⟩ := rowC_at (HC.out.new VN.out).1 (i := i) hlt
        subst eA
        have hxc : COk wr x := (HC.out.new VN.out).2 x (List.mem_of_getElem? hx)
        have hft : (cts cs)[i]? = some x.f := by unfold cts; rw [List.getElem?_map, hx]; rfl
        have ON := Lib.hid (rone_any Ao no co os x wr VF.out (by rw [VA.out]; exact ord_ap _ HO.out) hxc (fun e he => (VF.out.2 e he).2.2.2) (Nat.le_trans (Nat.mul_le_mul_right 64 (by omega : no + 1 ≤ n + n')) hb))
        have VA2 : Hid (apF (fts es) ((cts cs).take (i + 1)) = updF (fts os) x.f) := by
          rw [Hid, List.take_add_one, hft]
          show apF (fts es) (_ ++ [x.f]) = _
          rw [apF_snoc, VA.out]
        have HLN : Hid (∀ l : List FT, l = apF (fts es) ((cts cs).take (i + 1)) → l.length ≤ n + (i + 1)) := fun l hl => by
          have h1 := apF_len (fts es) ((cts cs).take (i + 1))
          rw [hl]
          rw [HL.out, List.length_take] at h1
          omega
        clear hx hxc hft VA
        go_wp2_with fail
        refine ON.out.mono ?_
        rintro e w4 ⟨A4, c4, os4, rfl, f4, e4, k4, l4, m4⟩
        have F4 := Lib.hid f4
        have E4 : Hid (fts os4 = apF (fts es) ((cts cs).take (i + 1))) := e4.trans VA2.out.symm
        have K4 := Lib.hid (VN.out.new k4)
        have C4 : Hid (os4.length ≤ c4 ∧ c4 ≤ maxLen) := ⟨l4, m4⟩
        have hn4 : os4.length ≤ n + (i + 1) := by have := HLN.out _ E4.out; rw [fts_lenE] at this; exact this
        obtain ⟨n4, hn4e⟩ : ∃ k, k = os4.length := ⟨_, rfl⟩
        rw [← hn4e] at F4 C4 hn4 ⊢
        clear f4 e4 k4 l4 m4 ON VA2 HLN VF VN VC hn4e x0 x1 x2 x3 x4 x5
        go_wp2
        go_roundw
        case rel => exact ⟨i + 1, A4, n4, c4, os4, by omega, by omega, by go_num, rfl, F4, E4, K4, C4⟩
        case measure => simp [intOf]; omega
      · have E9 : Hid (OneP w (apF (fts es) (cts cs)) (.returned (.slice Ao no co)) wr) := by
          have h1 := VA.out
          rw [List.take_of_length_le (by rw [HCL.out]; omega)] at h1
          have hl := VF.out.len
          exact ⟨Ao, co, os, by rw [hl], by rw [hl]; exact VF.out, h1, VN.out, by rw [hl]; exact VC.out.1, VC.out.2⟩
        clear VF VA VN VC
        go_wp2
        go_ret
        exact E9.out

end


section

set_option maxRecDepth 100000
open Go.ChangeShapes Go.WideShapes Go.ChangeAt Go.RowKit

theorem findF_take {l : List FT} {k : KY} {i : Nat} {x : FT} (h : findF l k = findF (l.drop i) k) (hx : l[i]? = some x) : (x.k = k → findF l k = some x.v) ∧ (¬ x.k = k → findF l k = findF (l.drop (i + 1)) k) := by
  obtain ⟨h1, e1⟩ := List.getElem?_eq_some_iff.1 hx
  have hd : l.drop i = x :: l.drop (i + 1) := by rw [List.drop_eq_getElem_cons h1, e1]
  rw [hd] at h
  exact ⟨fun e => by rw [h]; exact if_pos e, fun e => by rw [h]; exact if_neg e⟩

set_option maxRecDepth 100000 in
set_option maxHeartbeats 3200000 in
theorem facts0_any (A B : Option Addr) (n m c d : Nat) (es fs : List FE) (w : World) (ha : FIn w A n es) (hb : FIn w B m fs) (hn : n ≤ maxLen) :
    Calls Tryz.prog 12 #[.slice A n c, .slice B m d] w (NewBool w (decide (fts es = fts fs))) := by
  have LA : Hid ((fts es).length = n) := by rw [Hid, fts_lenE, ha.len]
  have LB : Hid ((fts fs).length = m) := by rw [Hid, fts_lenE, hb.len]
  have HA := Lib.hid ha
  have HB := Lib.hid hb
  unfold maxLen at hn
  clear ha hb
  by_cases hnm : n = m
  · subst hnm
    go_enter Tryz.func12, Tryz.ntmps12
    go_wp2_with fail
    go_loopw [5] (fun i wr => ∃ k : Nat, k ≤ n ∧ i = .int .i64 k ∧ Hid (New w wr) ∧ Hid ((fts es).take k = (fts fs).take k)) (fun i _ => n - (intOf i).toNat)
    case atStart => exact ⟨0, Nat.zero_le _, rfl, Kept.refl _ _, rfl⟩
    case round =>
      obtain ⟨k, hk, rfl, HN, HT⟩ := hrel
      by_cases hlt : k < n
      · obtain ⟨g, o, x, eA, hx, okx, x0, x1, x2, x3, x4⟩ := (HA.out.new HN.out).at_ (i := k) hlt
        obtain ⟨g', o', y, eB, hy, oky, y0, y1, y2, y3, y4⟩ := (HB.out.new HN.out).at_ (i := k) hlt
        subst eA eB
        have hfx : (fts es)[k]? = some x.f := by unfold fts; rw [List.getElem?_map, hx]; rfl
        have hfy : (fts fs)[k]? = some y.f := by unfold fts; rw [List.getElem?_map, hy]; rfl
        have HNX : Hid (x.f = y.f → (fts es).take (k + 1) = (fts fs).take (k + 1)) := fun e => by rw [List.take_add_one, List.take_add_one, hfx, hfy, HT.out, e]
        have HNO : Hid (x.f ≠ y.f → decide (fts es = fts fs) = false) := fun hne => decide_eq_false fun e => hne (by rw [e, hfy] at hfx; injection hfx with hfx; exact hfx.symm)
        have s1 : (0 : Int) ≤ (k : Int) := by omega
        have s3 : (k : Int) < (n : Int) := by omega
        have BX := Lib.hid okx.1
        have BY := Lib.hid oky.1
        have hxl : Hid (x.f.v.length ≤ maxLen) := Nat.le_trans okx.2.2.1 (by unfold maxLen; omega)
        clear hx hy hfx hfy okx oky
        by_cases e1 : x.f.k = y.f.k
        · have HNQ : ∀ u, Sem.run Tryz.prog (binOp .neq 92 (.agg #[.int .i64 x.f.k.i, .int .u8 (x.f.k.t : Nat), .string x.f.k.n, .int .i64 x.f.k.c]) (.agg #[.int .i64 y.f.k.i, .int .u8 (y.f.k.t : Nat), .string y.f.k.n, .int .i64 y.f.k.c])) u = .ok (.bool false) u := fun u => by rw [key_neq, decide_eq_true e1]; rfl
          have HE1 := Lib.hid e1
          obtain ⟨b, hbv⟩ : ∃ b, decide (x.f.v = y.f.v) = b := ⟨_, rfl⟩
          have CS := Lib.hid (fun (q : Nat) (os : Array Obj) => Calls.regrown_of (d := q) (os := os) (same_new x.A y.A x.f.v.length y.f.v.length x.c y.c x.f.v y.f.v _ rfl hxl.out (Go.Sort.grow (redrawn wr q) os) (BX.out.new (new_regrown (Kept.refl _ _) q os)) (BY.out.new (new_regrown (Kept.refl _ _) q os))))
          rw [hbv] at CS
          have HBV := Lib.hid hbv
          clear e1 hbv
          have p0 := fun d os => cell_regrown x0 d os
          have p1 := fun d os => cell_regrown x1 d os
          have p2 := fun d os => cell_regrown x2 d os
          have p3 := fun d os => cell_regrown x3 d os
          have p4 := fun d os => cell_regrown x4 d os
          have r0 := fun d os => cell_regrown y0 d os
          have r1 := fun d os => cell_regrown y1 d os
          have r2 := fun d os => cell_regrown y2 d os
          have r3 := fun d os => cell_regrown y3 d os
          have r4 := fun d os => cell_regrown y4 d os
          clear x0 x1 x2 x3 x4 y0 y1 y2 y3 y4
          go_wp2_with fail
          refine wp_region_quiet_below (by kernel_rfl) (by kernel_rfl) ?_
          repeat (quiet_step (first
            | (go_at_call 30; exact CS.out _ _)))
          refine wpQuiet_nil ?_
          intro _ hw'
          obtain ⟨⟨dq, osq⟩, hw''⟩ := hw'
          subst hw''
          have K9 : Hid (New w (Go.Sort.grow (redrawn wr dq) osq)) := new_regrown HN.out dq osq
          clear CS p0 p1 p2 p3 p4 r0 r1 r2 r3 r4 HNQ
          cases b with
          | true =>
            have HT2 := Lib.hid (HNX.out (ft_eq HE1.out (of_decide_eq_true HBV.out)))
            clear HNX HNO HT
            go_wp2
            go_roundw
            case rel => exact ⟨k + 1, by omega, by go_num, K9, HT2⟩
            case measure => simp [intOf]; omega
          | false =>
            have HZ := Lib.hid (HNO.out fun e => of_decide_eq_false HBV.out (by rw [e]))
            clear HNX HNO HT
            go_wp2
            go_ret
            exact ⟨by rw [HZ.out]; rfl, K9.out⟩
        · have HNQ : ∀ u, Sem.run Tryz.prog (binOp .neq 92 (.agg #[.int .i64 x.f.k.i, .int .u8 (x.f.k.t : Nat), .string x.f.k.n, .int .i64 x.f.k.c]) (.agg #[.int .i64 y.f.k.i, .int .u8 (y.f.k.t : Nat), .string y.f.k.n, .int .i64 y.f.k.c])) u = .ok (.bool true) u := fun u => by rw [key_neq, decide_eq_false e1]; rfl
          have HZ := Lib.hid (HNO.out fun e => e1 (by rw [e]))
          clear HNX HNO HT e1
          go_wp2_with fail
          go_quiet (fail)
          clear x0 x1 x2 x3 x4 y0 y1 y2 y3 y4 HNQ
          go_wp2
          go_ret
          exact ⟨by rw [HZ.out]; rfl, HN.out.drewN _⟩
      · have HZ : Hid (decide (fts es = fts fs) = true) := decide_eq_true (by
          have := HT.out
          rwa [List.take_of_length_le (by rw [LA.out]; omega), List.take_of_length_le (by rw [LB.out]; omega)] at this)
        clear HT
        go_wp2
        go_ret
        exact ⟨by rw [HZ.out]; rfl, HN.out⟩
  · have HZ : Hid (decide (fts es = fts fs) = false) := decide_eq_false fun e => hnm (by rw [← LA.out, ← LB.out, e])
    have d : ((n : Int) != (m : Int)) = true := bne_iff_ne.2 (by omega)
    clear hnm
    go_enter Tryz.func12, Tryz.ntmps12
    go_wp2
    go_ret
    exact ⟨by rw [HZ.out]; rfl, Kept.refl _ _⟩

end


end Go.Proofs.YtbiihjdjbknibaaGreat
