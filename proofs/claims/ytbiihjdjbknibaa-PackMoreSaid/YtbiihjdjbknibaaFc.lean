/-
  Contracts: which key is ahead, on both sides; what a key may be, on both sides.
-/
import Derived.Test.YtbiihjdjbknibaaFb
namespace Go.Proofs.Ytbiihjdjbknibaa
set_option maxRecDepth 100000
open Go.RowKit

theorem lt_of {z : Int} : (if z < 0 then true else false) = decide (z < 0) := by by_cases h : z < 0 <;> simp [h]

set_option maxRecDepth 100000 in
set_option maxHeartbeats 800000 in
theorem before_any (a b : KY) (w : World) :
    Calls Try.prog 60 #[.agg #[.int .i64 a.i, .int .u8 (a.t : Nat), .string a.n, .int .i64 a.c], .agg #[.int .i64 b.i, .int .u8 (b.t : Nat), .string b.n, .int .i64 b.c]] w (NewBool w (befK a b)) := by
  have HC := Lib.hid (compare_any a b)
  obtain ⟨ai, at_, an, ac⟩ := a
  obtain ⟨bi, bt, bn, bc⟩ := b
  show Calls Try.prog 60 #[.agg #[.int .i64 ai, .int .u8 (at_ : Nat), .string an, .int .i64 ac], .agg #[.int .i64 bi, .int .u8 (bt : Nat), .string bn, .int .i64 bc]] w (NewBool w (decide (cmpK ⟨ai, at_, an, ac⟩ ⟨bi, bt, bn, bc⟩ < 0)))
  generalize cmpK ⟨ai, at_, an, ac⟩ ⟨bi, bt, bn, bc⟩ = z at *
  go_enter Try.func60, Try.ntmps60
  go_wp2_with fail
  refine (HC.out _).mono ?_
  rintro e w1 ⟨rfl, h1⟩
  have K1 : Hid (New w w1) := (((Kept.refl _ _).alloc _).alloc _).new h1
  clear h1 HC
  go_wp2
  go_ret
  exact ⟨rfl, K1.out⟩

theorem order_any (a b : ByteArray) (w : World) (ha : a.size ≤ maxLen) (hb : b.size ≤ maxLen) :
    Calls Try.prog 78 #[.string a, .string b] w fun e w' => ∃ d, e = .returned (.int .i64 (ordL a.data.toList b.data.toList)) ∧ w' = w.drewN d := by
  unfold maxLen at ha hb
  go_enter Try.func78, Try.ntmps78
  go_wp2_with fail
  go_loopw [5] (fun i wr => ∃ k d : Nat, k ≤ a.size ∧ k ≤ b.size ∧ i = .int .i64 k ∧ wr = w.drewN d ∧ Hid (a.data.toList.take k = b.data.toList.take k)) (fun i _ => a.size - (intOf i).toNat)
  case atStart => exact ⟨0, 0, Nat.zero_le _, Nat.zero_le _, rfl, rfl, by simp [Hid]⟩
  case round =>
    obtain ⟨k, d, hk, hk2, rfl, rfl, heq⟩ := hrel
    by_cases h1 : k < a.size
    · by_cases h2 : k < b.size
      · have HX := Lib.hid (at_list a k h1)
        have HY := Lib.hid (at_list b k h2)
        by_cases e : a[k] = b[k]
        · have HN : Hid (a.data.toList.take (k + 1) = b.data.toList.take (k + 1)) := by
            show _ = _
            rw [List.take_add_one, List.take_add_one, heq.out, HX.out, HY.out, e]
          have d1 : ((a[k].toNat : Int) != (b[k].toNat : Int)) = false := by rw [e]; simp
          clear e heq
          go_wp2_with fail
          go_quiet (fail)
          go_wp2
          go_roundw
          case rel => exact ⟨k + 1, _, by omega, by omega, by go_num, rfl, HN⟩
          case measure => simp [intOf]; omega
        · have HO := Lib.hid (ordL_at k _ _ _ _ heq.out HX.out HY.out e)
          have d1 : ((a[k].toNat : Int) != (b[k].toNat : Int)) = true := bne_iff_ne.2 (by
            intro h
            exact e (UInt8.toNat_inj.1 (by omega)))
          have l1 := a[k].toNat_lt
          have l2 := b[k].toNat_lt
          clear e heq
          have l3 : IntKind.i64.wrap ((a[k].toNat : Int) - (b[k].toNat : Int)) = (a[k].toNat : Int) - (b[k].toNat : Int) := by rw [IntKind.wrap_i64]; omega
          go_wp2_with fail
          go_quiet (fail)
          go_wp2_with fail
          go_quiet (fail)
          go_wp2
          go_ret
          exact ⟨_, by rw [HO.out]; rfl, by rw [World.drewN_drewN, World.drewN_drewN]⟩
      · have HO : Hid (ordL a.data.toList b.data.toList = (a.size : Int) - b.size) := by
          have := ordL_end k _ _ heq.out (.inr (by rw [← Lib.size_eq]; omega)) (by rw [← Lib.size_eq]; omega) (by rw [← Lib.size_eq]; omega)
          show _ = _
          rw [this, ← Lib.size_eq, ← Lib.size_eq]
        have h3 : k = b.size := by omega
        subst h3
        clear heq
        go_wp2
        go_ret
        exact ⟨_, by rw [HO.out]; rfl, rfl⟩
    · have HO : Hid (ordL a.data.toList b.data.toList = (a.size : Int) - b.size) := by
        have := ordL_end k _ _ heq.out (.inl (by rw [← Lib.size_eq]; omega)) (by rw [← Lib.size_eq]; omega) (by rw [← Lib.size_eq]; omega)
        show _ = _
        rw [this, ← Lib.size_eq, ← Lib.size_eq]
      have h3 : k = a.size := by omega
      subst h3
      clear heq
      go_wp2
      go_ret
      exact ⟨_, by rw [HO.out]; rfl, rfl⟩

theorem bef_i {a b : KY} (h : a.i ≠ b.i) : befK a b = decide (a.i < b.i) := by
  unfold befK cmpK orI
  rw [decide_eq_decide, if_pos (fun e => h (cmpI_eq.1 e))]
  exact cmpI_lt
theorem bef_t {a b : KY} (h : a.i = b.i) (h2 : a.t ≠ b.t) : befK a b = decide (a.t < b.t) := by
  unfold befK cmpK orI
  rw [decide_eq_decide, if_neg (by simpa using cmpI_eq.2 h), if_pos (fun e => h2 (by have := cmpI_eq.1 e; omega)), cmpI_lt]
  omega
theorem bef_n {a b : KY} (h : a.i = b.i) (h2 : a.t = b.t) (h3 : ordL a.n.data.toList b.n.data.toList ≠ 0) : befK a b = decide (ordL a.n.data.toList b.n.data.toList < 0) := by
  unfold befK cmpK orI
  rw [decide_eq_decide, if_neg (by simpa using cmpI_eq.2 h), if_neg (by simpa using cmpI_eq.2 (show (a.t : Int) = b.t by omega)), if_pos (show cmpS a.n b.n ≠ 0 from fun e => h3 ((ordL_eq _ _).2 e)), ordL_lt]
  rfl
theorem bef_c {a b : KY} (h : a.i = b.i) (h2 : a.t = b.t) (h3 : ordL a.n.data.toList b.n.data.toList = 0) : befK a b = decide (a.c < b.c) := by
  unfold befK cmpK orI
  rw [decide_eq_decide, if_neg (by simpa using cmpI_eq.2 h), if_neg (by simpa using cmpI_eq.2 (show (a.t : Int) = b.t by omega)), if_neg (show ¬ cmpS a.n b.n ≠ 0 from fun e => e ((ordL_eq _ _).1 h3))]
  exact cmpI_lt

set_option maxRecDepth 100000 in
set_option maxHeartbeats 1600000 in
theorem rbefore_any (a b : KY) (w : World) (ha : a.n.size ≤ maxLen) (hb : b.n.size ≤ maxLen) :
    Calls Try.prog 58 #[.agg #[.int .i64 a.i, .int .u8 (a.t : Nat), .string a.n, .int .i64 a.c], .agg #[.int .i64 b.i, .int .u8 (b.t : Nat), .string b.n, .int .i64 b.c]] w (NewBool w (befK a b)) := by
  have HI : Hid (a.i ≠ b.i → befK a b = decide (a.i < b.i)) := bef_i
  have HT : Hid (a.i = b.i → a.t ≠ b.t → befK a b = decide (a.t < b.t)) := bef_t
  have HN : Hid (a.i = b.i → a.t = b.t → ordL a.n.data.toList b.n.data.toList ≠ 0 → befK a b = decide (ordL a.n.data.toList b.n.data.toList < 0)) := bef_n
  have HC : Hid (a.i = b.i → a.t = b.t → ordL a.n.data.toList b.n.data.toList = 0 → befK a b = decide (a.c < b.c)) := bef_c
  generalize befK a b = r at *
  obtain ⟨ai, at_, an, ac⟩ := a
  obtain ⟨bi, bt, bn, bc⟩ := b
  dsimp only at *
  have HA := Lib.hid ha
  have HB := Lib.hid hb
  clear ha hb
  by_cases h1 : ai = bi
  · subst h1
    by_cases h2 : at_ = bt
    · subst h2
      have HO := fun u => Lib.hid (order_any an bn u HA.out HB.out)
      generalize ordL an.data.toList bn.data.toList = z at *
      go_enter Try.func58, Try.ntmps58
      go_wp2_with fail
      refine (HO _).out.mono ?_
      rintro e w1 ⟨d, rfl, rfl⟩
      clear HO
      by_cases h3 : z = 0
      · obtain rfl := HC.out (by first | rfl | trivial) (by first | rfl | trivial) h3
        subst h3
        go_wp2
        go_ret
        exact ⟨rfl, (((Kept.refl _ _).alloc _).alloc _).drewN _⟩
      · obtain rfl := HN.out (by first | rfl | trivial) (by first | rfl | trivial) h3
        have d3 : (z != 0) = true := bne_iff_ne.2 h3
        clear h3
        go_wp2
        go_ret
        exact ⟨rfl, (((Kept.refl _ _).alloc _).alloc _).drewN _⟩
    · obtain rfl := HT.out (by first | rfl | trivial) h2
      have d2 : ((at_ : Int) != (bt : Int)) = true := bne_iff_ne.2 (by omega)
      clear h2 HI HT HN HC
      go_enter Try.func58, Try.ntmps58
      go_wp2
      go_ret
      exact ⟨rfl, ((Kept.refl _ _).alloc _).alloc _⟩
  · obtain rfl := HI.out h1
    have d2 : (ai != bi) = true := bne_iff_ne.2 h1
    clear h1 HI HT HN HC
    go_enter Try.func58, Try.ntmps58
    go_wp2
    go_ret
    exact ⟨rfl, ((Kept.refl _ _).alloc _).alloc _⟩

/-- What a key may be, part by part. -/
def part1 (k : KY) : Bool := decide (k.n.data.toList = [] ∧ k.c = 0)
def part3 (k : KY) : Bool := decide (k.n.data.toList = [] ∧ 0 ≤ k.c ∧ k.c < 8)

theorem str_nil (s : ByteArray) : (s.toList == []) = decide (s.data.toList = []) := by
  rw [Lib.toList_data]
  by_cases h : s.data.toList = []
  · rw [h]; rfl
  · rw [beq_eq_false_iff_ne.2 h, decide_eq_false h]

theorem may_i {k : KY} (h : ¬ (1 ≤ k.i ∧ k.i ≤ 65535)) : mayK k = false := by unfold mayK; rw [decide_eq_false h]; rfl
theorem may_1 {k : KY} (h : 1 ≤ k.i ∧ k.i ≤ 65535) (t : k.t = 1) : mayK k = decide (k.n.data.toList = [] ∧ k.c = 0) := by unfold mayK; rw [decide_eq_true h, if_pos t]; rfl
theorem may_2 {k : KY} (h : 1 ≤ k.i ∧ k.i ≤ 65535) (t : k.t = 2) : mayK k = (nameL k.n.data.toList && decide (k.c = 0)) := by unfold mayK; rw [decide_eq_true h, if_neg (by omega), if_pos t]; rfl
theorem may_3 {k : KY} (h : 1 ≤ k.i ∧ k.i ≤ 65535) (t : k.t = 3) : mayK k = decide (k.n.data.toList = [] ∧ 0 ≤ k.c ∧ k.c < 8) := by unfold mayK; rw [decide_eq_true h, if_neg (by omega), if_neg (by omega), if_pos t]; rfl
theorem may_0 {k : KY} (h1 : k.t ≠ 1) (h2 : k.t ≠ 2) (h3 : k.t ≠ 3) : mayK k = false := by unfold mayK; rw [if_neg h1, if_neg h2, if_neg h3, Bool.and_false]

/-- The text as it is, or none. -/
theorem nil_cases (s : ByteArray) : s = ⟨#[]⟩ ∨ (s.data.toList ≠ [] ∧ (¬ s.toList = []) ∧ s.toList.isEmpty = false) := by
  by_cases h : s.data.toList = []
  · exact .inl (ba_ext h)
  · refine .inr ⟨h, by rw [Lib.toList_data]; exact h, ?_⟩
    rw [Lib.toList_data]
    cases e : s.data.toList with
    | nil => exact absurd e h
    | cons _ _ => rfl

set_option maxRecDepth 100000 in
set_option maxHeartbeats 3200000 in
theorem may_any (k : KY) (w : World) (hn : k.n.size ≤ maxLen) :
    Calls Try.prog 52 #[.agg #[.int .i64 k.i, .int .u8 (k.t : Nat), .string k.n, .int .i64 k.c]] w (NewBool w (mayK k)) := by
  have H0 : Hid (¬ (1 ≤ k.i ∧ k.i ≤ 65535) → mayK k = false) := may_i
  have H1 : Hid (1 ≤ k.i ∧ k.i ≤ 65535 → k.t = 1 → mayK k = decide (k.n.data.toList = [] ∧ k.c = 0)) := may_1
  have H2 : Hid (1 ≤ k.i ∧ k.i ≤ 65535 → k.t = 2 → mayK k = (nameL k.n.data.toList && decide (k.c = 0))) := may_2
  have H3 : Hid (1 ≤ k.i ∧ k.i ≤ 65535 → k.t = 3 → mayK k = decide (k.n.data.toList = [] ∧ 0 ≤ k.c ∧ k.c < 8)) := may_3
  have H4 : Hid (k.t ≠ 1 → k.t ≠ 2 → k.t ≠ 3 → mayK k = false) := may_0
  generalize mayK k = r at *
  obtain ⟨i, t, s, c⟩ := k
  dsimp only at *
  have HS := Lib.hid hn
  clear hn
  go_enter Try.func52, Try.ntmps52
  go_wp2_with fail
  refine (isIno_any i _).mono ?_
  rintro e w1 ⟨rfl, rfl⟩
  by_cases hi : 1 ≤ i ∧ i ≤ 65535
  · have HI := Lib.hid hi
    rw [decide_eq_true hi]
    clear hi H0
    by_cases t1 : t = 1
    · have HR := Lib.hid (H1.out HI.out t1)
      subst t1
      clear H1 H2 H3 H4 HI
      rcases nil_cases s with rfl | ⟨n1, n2, n3⟩
      · by_cases hc : c = 0
        · subst hc
          go_wp2
          go_ret
          exact ⟨by rw [HR.out]; rfl, (Kept.refl _ _).alloc _⟩
        · have HF : Hid (r = false) := HR.out.trans (decide_eq_false fun h => hc h.2)
          have d : (c == 0) = false := beq_eq_false_iff_ne.2 hc
          clear hc HR
          go_wp2
          go_ret
          exact ⟨by rw [HF.out]; rfl, (Kept.refl _ _).alloc _⟩
      · have HF : Hid (r = false) := HR.out.trans (decide_eq_false fun h => n1 h.1)
        clear n1 HR
        go_wp2
        go_ret
        exact ⟨by rw [HF.out]; rfl, (Kept.refl _ _).alloc _⟩
    · by_cases t2 : t = 2
      · have HR := Lib.hid (H2.out HI.out t2)
        subst t2
        clear t1 H1 H2 H3 H4 HI
        go_wp2_with fail
        refine (name_any s _ HS.out).mono ?_
        rintro e w1 ⟨rfl, rfl⟩
        generalize nameL s.data.toList = b at *
        cases b
        · go_wp2
          go_ret
          exact ⟨by rw [HR.out]; rfl, (Kept.refl _ _).alloc _⟩
        · by_cases hc : c = 0
          · subst hc
            go_wp2
            go_ret
            exact ⟨by rw [HR.out]; rfl, (Kept.refl _ _).alloc _⟩
          · have HF : Hid (r = false) := HR.out.trans (by rw [decide_eq_false hc]; rfl)
            have d : (c == 0) = false := beq_eq_false_iff_ne.2 hc
            clear hc HR
            go_wp2
            go_ret
            exact ⟨by rw [HF.out]; rfl, (Kept.refl _ _).alloc _⟩
      · by_cases t3 : t = 3
        · have HR := Lib.hid (H3.out HI.out t3)
          subst t3
          clear t1 t2 H1 H2 H3 H4 HI
          rcases nil_cases s with rfl | ⟨n1, n2, n3⟩
          · by_cases hc : 0 ≤ c
            · by_cases hd : c < 8
              · have HF : Hid (r = true) := HR.out.trans (decide_eq_true ⟨rfl, hc, hd⟩)
                have d8 : decide (c < 8) = true := decide_eq_true hd
                clear HR
                go_wp2
                go_ret
                exact ⟨by rw [HF.out]; rfl, (Kept.refl _ _).alloc _⟩
              · have HF : Hid (r = false) := HR.out.trans (decide_eq_false fun h => hd h.2.2)
                have d8 : decide (c < 8) = false := decide_eq_false hd
                clear HR
                go_wp2
                go_ret
                exact ⟨by rw [HF.out]; rfl, (Kept.refl _ _).alloc _⟩
            · have HF : Hid (r = false) := HR.out.trans (decide_eq_false fun h => hc h.2.1)
              have d : decide (0 ≤ c) = false := decide_eq_false hc
              have d8 : decide (c < 8) = true := decide_eq_true (by omega)
              clear HR
              go_wp2
              go_ret
              exact ⟨by rw [HF.out]; rfl, (Kept.refl _ _).alloc _⟩
          · have HF : Hid (r = false) := HR.out.trans (decide_eq_false fun h => n1 h.1)
            clear n1 HR
            go_wp2
            go_ret
            exact ⟨by rw [HF.out]; rfl, (Kept.refl _ _).alloc _⟩
        · have HF := Lib.hid (H4.out t1 t2 t3)
          have d1 : ((t : Int) == 1) = false := beq_eq_false_iff_ne.2 (by omega)
          have d2 : ((t : Int) == 2) = false := beq_eq_false_iff_ne.2 (by omega)
          have d3 : ((t : Int) == 3) = false := beq_eq_false_iff_ne.2 (by omega)
          clear t1 t2 t3 H1 H2 H3 H4 HI
          go_wp2
          go_ret
          exact ⟨by rw [HF.out]; rfl, (Kept.refl _ _).alloc _⟩
  · have HF := Lib.hid (H0.out hi)
    rw [decide_eq_false hi]
    clear hi H0 H1 H2 H3 H4
    go_wp2
    go_ret
    exact ⟨by rw [HF.out]; rfl, (Kept.refl _ _).alloc _⟩
end Go.Proofs.Ytbiihjdjbknibaa
