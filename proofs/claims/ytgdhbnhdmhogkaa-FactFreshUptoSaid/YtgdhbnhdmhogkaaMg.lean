/-
  Contracts over lists of facts: are they the same.
-/
import Derived.Test.YtgdhbnhdmhogkaaMe
namespace Go.Proofs.Ytgdhbnhdmhogkaa
open Go.RowKit

theorem strN_beq {l k : List Nat} (hl : ∀ x ∈ l, x < 256) (hk : ∀ x ∈ k, x < 256) : ((strN l).toList == (strN k).toList) = decide (l = k) := by
  rw [Lib.toList_data, Lib.toList_data, Bool.eq_iff_iff]
  simp only [beq_iff_eq, decide_eq_true_iff]
  constructor
  · intro h
    have := congrArg nB (ba_ext h)
    rwa [nB_strN hl, nB_strN hk] at this
  · rintro rfl; rfl
theorem equal_any (A B : Option Addr) (n m c d : Nat) (l k : List Nat) (w : World) (ha : Bts w A n l) (hb : Bts w B m k) :
    Calls Try.prog 26 #[.slice A n c, .slice B m d] w fun e w' => e = .returned (.bool (decide (l = k))) ∧ w = w' := by
  have h1 := run_bs A n c l w ha
  have h2 := run_bs B m d k w hb
  have He := Lib.hid (strN_beq ha.2.1 hb.2.1)
  generalize decide (l = k) = b at He ⊢
  clear ha hb
  generalize strN l = s1 at *
  generalize strN k = s2 at *
  go_enter Try.func26, Try.ntmps26
  go_wp2
  go_ret
  exact ⟨ret_bool He.out, rfl⟩

theorem ft_eq {a b : FT} (h1 : a.k = b.k) (h2 : a.v = b.v) : a = b := by cases a; cases b; simp_all
instance : DecidableEq FT := fun a b => decidable_of_iff (a.k = b.k ∧ a.v = b.v) ⟨fun h => ft_eq h.1 h.2, fun h => by rw [h]; exact ⟨rfl, rfl⟩⟩

set_option maxRecDepth 100000 in
set_option maxHeartbeats 1600000 in
theorem sameOne_any (x y : FE) (w : World) (hx : EOk w x) (hy : EOk w y) :
    Calls Try.prog 25 #[.agg #[.int .i64 x.f.k.i, .int .u8 (x.f.k.t : Nat), .string x.f.k.n, .int .i64 x.f.k.c, .slice x.A x.f.v.length x.c], .agg #[.int .i64 y.f.k.i, .int .u8 (y.f.k.t : Nat), .string y.f.k.n, .int .i64 y.f.k.c, .slice y.A y.f.v.length y.c]] w
      (NewBool w (decide (x.f = y.f))) := by
  obtain ⟨⟨kx, vx⟩, Ax, cx⟩ := x
  obtain ⟨⟨ky, vy⟩, Ay, cy⟩ := y
  have CE : Hid (∀ u, New w u → Calls Try.prog 26 #[.slice Ax vx.length cx, .slice Ay vy.length cy] u fun e w' => e = .returned (.bool (decide (vx = vy))) ∧ u = w') := fun u hu => equal_any Ax Ay _ _ cx cy vx vy u (hx.1.new hu) (hy.1.new hu)
  have HD : Hid (decide ((⟨kx, vx⟩ : FT) = ⟨ky, vy⟩) = (decide (kx = ky) && decide (vx = vy))) := by
    rw [Hid, Bool.eq_iff_iff]
    simp
  have HEQ := fun u => key_eql kx ky u
  dsimp only
  rw [HD.out]
  clear hx hy HD
  generalize vx.length = nx at *
  generalize vy.length = ny at *
  generalize decide (vx = vy) = b2 at *
  generalize decide (kx = ky) = b1 at *
  cases b1
  · go_enter Try.func25, Try.ntmps25
    go_wp2
    go_ret
    exact ⟨rfl, ((Kept.refl _ _).alloc _).alloc _⟩
  · go_enter Try.func25, Try.ntmps25
    go_wp2_with fail
    refine (CE.out _ (((Kept.refl _ _).alloc _).alloc _)).mono ?_
    rintro e w1 ⟨rfl, rfl⟩
    go_wp2
    go_ret
    exact ⟨by cases b2 <;> rfl, ((Kept.refl _ _).alloc _).alloc _⟩

set_option maxRecDepth 100000 in
set_option maxHeartbeats 3200000 in
theorem equalFunc_any (A B : Option Addr) (n m c d : Nat) (es fs : List FE) (w : World) (ha : FIn w A n es) (hb : FIn w B m fs) (hn : n ≤ maxLen) :
    Calls Try.prog 24 #[.slice A n c, .slice B m d, .func (.func 25) #[] #[]] w (NewBool w (decide (fts es = fts fs))) := by
  have LA : Hid ((fts es).length = n) := by rw [Hid, fts_lenE, ha.len]
  have LB : Hid ((fts fs).length = m) := by rw [Hid, fts_lenE, hb.len]
  have HA := Lib.hid ha
  have HB := Lib.hid hb
  unfold maxLen at hn
  clear ha hb
  by_cases hnm : n = m
  · subst hnm
    go_enter Try.func24, Try.ntmps24
    go_wp2_with fail
    go_loopw [17] (fun i wr => ∃ k : Nat, k ≤ n ∧ i = .int .i64 k ∧ Hid (New w wr) ∧ Hid ((fts es).take k = (fts fs).take k)) (fun i _ => n - (intOf i).toNat)
    case atStart => exact ⟨0, Nat.zero_le _, rfl, Kept.refl _ _, rfl⟩
    case round =>
      obtain ⟨k, hk, rfl, HN, HT⟩ := hrel
      by_cases hlt : k < n
      · obtain ⟨g, o, x, eA, hx, okx, x0, x1, x2, x3, x4⟩ := (HA.out.new HN.out).at_ (i := k) hlt
        obtain ⟨g', o', y, eB, hy, oky, y0, y1, y2, y3, y4⟩ := (HB.out.new HN.out).at_ (i := k) hlt
        subst eA eB
        have hfx : (fts es)[k]? = some x.f := by unfold fts; rw [List.getElem?_map, hx]; rfl
        have hfy : (fts fs)[k]? = some y.f := by unfold fts; rw [List.getElem?_map, hy]; rfl
        have HNX : Hid (x.f = y.f → (fts es).take (k + 1) = (fts fs).take (k + 1)) := fun e => by rw [List.take_add_one, List.take_add_one, hfx, hfy, HT.out, e]
        have HNO : Hid (x.f ≠ y.f → decide (fts es = fts fs) = false) := fun hne => decide_eq_false fun e => hne (by rw [e, hfy] at hfx; injection hfx with hfx; exact hfx.symm)
        have hg : g < wr.heap.size := World.block_lt_of_cell? wr _ x0
        have hg' : g' < wr.heap.size := World.block_lt_of_cell? wr _ y0
        have CS : Hid (∀ u, New wr u → Calls Try.prog 25 #[.agg #[.int .i64 x.f.k.i, .int .u8 (x.f.k.t : Nat), .string x.f.k.n, .int .i64 x.f.k.c, .slice x.A x.f.v.length x.c], .agg #[.int .i64 y.f.k.i, .int .u8 (y.f.k.t : Nat), .string y.f.k.n, .int .i64 y.f.k.c, .slice y.A y.f.v.length y.c]] u (NewBool u (decide (x.f = y.f)))) := fun u hu =>
          sameOne_any x y u (okx.kept hu fun _ _ f => f) (oky.kept hu fun _ _ f => f)
        clear hx hy hfx hfy okx oky
        by_cases e : x.f = y.f
        · have HT2 := Lib.hid (HNX.out e)
          rw [decide_eq_true e] at CS
          clear e HNX HNO HT
          go_wp2_with fail
          refine (CS.out _ (((Kept.refl _ _).alloc _).alloc _)).mono ?_
          rintro e w1 ⟨rfl, k1⟩
          have HN1 : Hid (New w w1) := ((HN.out.alloc _).alloc _).new k1
          clear k1 CS
          go_wp2
          go_roundw
          case rel => exact ⟨k + 1, by omega, by go_num, HN1, HT2⟩
          case measure => simp [intOf]; omega
        · have HZ := Lib.hid (HNO.out e)
          rw [decide_eq_false e] at CS
          clear e HNX HNO HT
          go_wp2_with fail
          refine (CS.out _ (((Kept.refl _ _).alloc _).alloc _)).mono ?_
          rintro e w1 ⟨rfl, k1⟩
          have HN1 : Hid (New w w1) := ((HN.out.alloc _).alloc _).new k1
          clear k1 CS
          go_wp2
          go_ret
          exact ⟨by rw [HZ.out]; rfl, HN1.out⟩
      · have HZ : Hid (decide (fts es = fts fs) = true) := decide_eq_true (by
          have := HT.out
          rwa [List.take_of_length_le (by rw [LA.out]; omega), List.take_of_length_le (by rw [LB.out]; omega)] at this)
        clear HT
        go_wp2
        go_ret
        exact ⟨by rw [HZ.out]; rfl, HN.out⟩
  · have HZ : Hid (decide (fts es = fts fs) = false) := decide_eq_false fun e => hnm (by rw [← LA.out, ← LB.out, e])
    have d : ((n : Int) != (m : Int)) = true := bne_iff_ne.2 (by omega)
    clear hnm
    go_enter Try.func24, Try.ntmps24
    go_wp2
    go_ret
    exact ⟨by rw [HZ.out]; rfl, Kept.refl _ _⟩

theorem sameF_any (A B : Option Addr) (n m c d : Nat) (es fs : List FE) (w : World) (ha : FIn w A n es) (hb : FIn w B m fs) (hn : n ≤ maxLen) :
    Calls Try.prog 11 #[.slice A n c, .slice B m d] w (NewBool w (decide (fts es = fts fs))) := by
  have C := Lib.hid (equalFunc_any A B n m c d es fs w ha hb hn)
  generalize decide (fts es = fts fs) = b at *
  clear ha hb
  go_enter Try.func11, Try.ntmps11
  go_wp2_with fail
  refine C.out.mono ?_
  rintro e w1 ⟨rfl, k1⟩
  have K1 := Lib.hid k1
  clear k1 C
  go_wp2
  go_ret
  exact ⟨rfl, K1.out⟩
end Go.Proofs.Ytgdhbnhdmhogkaa
