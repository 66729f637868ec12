/-
  Changes in memory: the texts of layer 6.
  A list of changes copied: the texts of layer 6.
  Contracts: what a change may be, and its bytes.
-/
import Derived.Test.YtbiihjdjbknibaaOq
import Derived.Test.YtbiihjdjbknibaaOe
namespace Go.Proofs.Ytbiihjdjbknibaa

section
theorem ja_true : True := trivial

end

section
theorem jc_true : True := trivial

end

section
set_option maxRecDepth 100000
open Go.RowKit

/-- May a change be? -/
def mayC (f : CT) : Bool := mayK f.k && (if f.g = true then decide (f.v.length = 0) else decide (1 ≤ f.v.length ∧ f.v.length ≤ 255))

theorem mayC_no {f : CT} (h : mayK f.k = false) : mayC f = false := by unfold mayC; rw [h]; rfl

theorem mayC_g {f : CT} (h : mayK f.k = true) (hg : f.g = true) : mayC f = decide (f.v.length = 0) := by unfold mayC; rw [h, if_pos hg]; rfl

theorem mayC_v {f : CT} (h : mayK f.k = true) (hg : f.g = false) : mayC f = decide (1 ≤ f.v.length ∧ f.v.length ≤ 255) := by unfold mayC; rw [h, if_neg (by rw [hg]; decide)]; rfl

theorem mayC_parts {f : CT} (h : mayC f = true) : mayK f.k = true ∧ f.v.length ≤ 255 ∧ (f.g = true → f.v = []) ∧ (f.g = false → 1 ≤ f.v.length) := by
  unfold mayC at h
  rw [Bool.and_eq_true] at h
  obtain ⟨h1, h2⟩ := h
  cases hg : f.g
  · rw [hg, if_neg (by decide)] at h2
    have := of_decide_eq_true h2
    exact ⟨h1, this.2, (fun h => by cases h), fun _ => this.1⟩
  · rw [hg, if_pos rfl] at h2
    have := of_decide_eq_true h2
    exact ⟨h1, by omega, (fun _ => List.eq_nil_of_length_eq_zero this), (fun h => by cases h)⟩

/-- A change's bytes. -/
def chB (f : CT) : List Nat := if f.g = true then 0 :: keyB f.k else 1 :: (keyB f.k ++ rowL f.v)

theorem pk_yes {k : KY} (h : mayK k = true) : pkL k = keyB k ∧ pkE k = 0 := by unfold pkL pkE; rw [if_pos h, if_pos h]; exact ⟨rfl, rfl⟩

theorem chB_len {f : CT} (h : mayC f = true) : (chB f).length ≤ 273 := by
  obtain ⟨h1, h2, _⟩ := mayC_parts h
  have h3 := pkL_len f.k
  rw [(pk_yes h1).1] at h3
  unfold chB rowL
  split
  · simp only [List.length_cons]; omega
  · simp only [List.length_cons, List.length_append]
    omega

theorem number_any (n s : Nat) (w : World) (hn : n < 18446744073709551616) (hs : isSz s) (hf : fitB n s = true) :
    Calls Try.prog 61 #[.int .u64 n, .int .i64 s] w (RetL w (leB n s)) := by
  have HP := fun u => Lib.hid (put_ok n s u hn hs hf)
  clear hn hs hf
  go_enter Try.func61, Try.ntmps61
  go_wp2_with fail
  refine (HP _).out.mono ?_
  rintro e w1 ⟨A, c, rfl, o1, k1⟩
  have E : Hid (RetL w (leB n s) (.returned (.slice A (leB n s).length c)) w1) := ⟨A, c, rfl, o1, k1⟩
  clear o1 k1 HP
  generalize leB n s = l at *
  go_wp2
  go_ret
  exact E.out

set_option maxHeartbeats 1600000 in
theorem cmay_any (f : CT) (A : Option Addr) (c : Nat) (w : World) (hn : f.k.n.size ≤ maxLen) (hv : f.v.length ≤ maxLen) :
    Calls Try.prog 62 #[.agg #[.int .i64 f.k.i, .int .u8 (f.k.t : Nat), .string f.k.n, .int .i64 f.k.c, .slice A f.v.length c, .bool f.g]] w (NewBool w (mayC f)) := by
  have H0 : Hid (mayK f.k = false → mayC f = false) := mayC_no
  have H1 : Hid (mayK f.k = true → f.g = true → mayC f = decide (f.v.length = 0)) := mayC_g
  have H2 : Hid (mayK f.k = true → f.g = false → mayC f = decide (1 ≤ f.v.length ∧ f.v.length ≤ 255)) := mayC_v
  have HM : Hid (∀ u, Calls Try.prog 52 #[.agg #[.int .i64 f.k.i, .int .u8 (f.k.t : Nat), .string f.k.n, .int .i64 f.k.c]] u (NewBool u (mayK f.k))) := fun u => may_any f.k u hn
  unfold maxLen at hv
  clear hn
  generalize mayC f = r at *
  obtain ⟨k, v, g⟩ := f
  dsimp only at *
  generalize mayK k = b at *
  obtain ⟨i, t, s, z⟩ := k
  dsimp only at *
  generalize v.length = n at *
  go_enter Try.func62, Try.ntmps62
  go_wp2_with fail
  refine (HM.out _).mono ?_
  rintro e w1 ⟨rfl, k1⟩
  have K1 : Hid (New w w1) := ((Kept.refl _ _).alloc _).new k1
  have B1 : Hid (Blk w1 w.heap.size 78 [.int .i64 i, .int .u8 (t : Nat), .string s, .int .i64 z, .slice A n c, .bool g]) := (Blk.made w _ _).kept k1 id
  clear k1 HM
  have a4 : w1.cell? ⟨w.heap.size, 4, none⟩ = some (.slice A n c) := B1.out.cell 4
  have a5 : w1.cell? ⟨w.heap.size, 5, none⟩ = some (.bool g) := B1.out.cell 5
  cases b
  · have HF := Lib.hid (H0.out rfl)
    clear H0 H1 H2
    go_wp2
    go_ret
    exact ⟨by rw [HF.out]; rfl, K1.out⟩
  · cases g
    · have HF := Lib.hid (H2.out rfl rfl)
      clear H0 H1 H2
      by_cases h0 : 0 < n
      · by_cases h5 : n ≤ 255
        · have HG : Hid (r = true) := HF.out.trans (decide_eq_true ⟨h0, h5⟩)
          clear HF
          go_wp2
          go_ret
          exact ⟨ret_bool (by first | exact HG.out.symm | (rw [HG.out]; simp; omega)), K1.out⟩
        · have HG : Hid (r = false) := HF.out.trans (decide_eq_false fun h => h5 h.2)
          clear HF
          go_wp2
          go_ret
          exact ⟨ret_bool (by first | exact HG.out.symm | (rw [HG.out]; simp; omega)), K1.out⟩
      · obtain rfl : n = 0 := by omega
        have HG : Hid (r = false) := HF.out.trans (decide_eq_false fun h => h0 h.1)
        clear HF h0
        go_wp2
        go_ret
        exact ⟨ret_bool (by first | exact HG.out.symm | (rw [HG.out]; simp; omega)), K1.out⟩
    · have HF := Lib.hid (H1.out rfl rfl)
      clear H0 H1 H2
      by_cases h0 : n = 0
      · have HG : Hid (r = true) := HF.out.trans (decide_eq_true h0)
        subst h0
        clear HF
        go_wp2
        go_ret
        exact ⟨ret_bool (by first | exact HG.out.symm | (rw [HG.out]; simp; omega)), K1.out⟩
      · have HG : Hid (r = false) := HF.out.trans (decide_eq_false h0)
        have d : ((n : Int) == 0) = false := beq_eq_false_iff_ne.2 (by omega)
        clear HF
        go_wp2
        go_ret
        exact ⟨ret_bool (by first | exact HG.out.symm | (rw [HG.out]; simp; omega)), K1.out⟩

set_option maxHeartbeats 1600000 in
theorem rcmay_any (f : CT) (A : Option Addr) (c : Nat) (w : World) (hn : f.k.n.size ≤ maxLen) (hv : f.v.length ≤ maxLen) :
    Calls Try.prog 67 #[.agg #[.int .i64 f.k.i, .int .u8 (f.k.t : Nat), .string f.k.n, .int .i64 f.k.c, .slice A f.v.length c, .bool f.g]] w (NewBool w (mayC f)) := by
  have H0 : Hid (mayK f.k = false → mayC f = false) := mayC_no
  have H1 : Hid (mayK f.k = true → f.g = true → mayC f = decide (f.v.length = 0)) := mayC_g
  have H2 : Hid (mayK f.k = true → f.g = false → mayC f = decide (1 ≤ f.v.length ∧ f.v.length ≤ 255)) := mayC_v
  have HM : Hid (∀ u, Calls Try.prog 48 #[.agg #[.int .i64 f.k.i, .int .u8 (f.k.t : Nat), .string f.k.n, .int .i64 f.k.c]] u (NewBool u (mayK f.k))) := fun u => rmay_any f.k u hn
  unfold maxLen at hv
  clear hn
  generalize mayC f = r at *
  obtain ⟨k, v, g⟩ := f
  dsimp only at *
  generalize mayK k = b at *
  obtain ⟨i, t, s, z⟩ := k
  dsimp only at *
  generalize v.length = n at *
  go_enter Try.func67, Try.ntmps67
  go_wp2_with fail
  refine (HM.out _).mono ?_
  rintro e w1 ⟨rfl, k1⟩
  have K1 : Hid (New w w1) := ((Kept.refl _ _).alloc _).new k1
  have B1 : Hid (Blk w1 w.heap.size 78 [.int .i64 i, .int .u8 (t : Nat), .string s, .int .i64 z, .slice A n c, .bool g]) := (Blk.made w _ _).kept k1 id
  clear k1 HM
  have a4 : w1.cell? ⟨w.heap.size, 4, none⟩ = some (.slice A n c) := B1.out.cell 4
  have a5 : w1.cell? ⟨w.heap.size, 5, none⟩ = some (.bool g) := B1.out.cell 5
  cases b
  · have HF := Lib.hid (H0.out rfl)
    clear H0 H1 H2
    go_wp2
    go_ret
    exact ⟨by rw [HF.out]; rfl, K1.out⟩
  · cases g
    · have HF := Lib.hid (H2.out rfl rfl)
      clear H0 H1 H2
      by_cases h0 : 1 ≤ n
      · by_cases h5 : n ≤ 255
        · have HG : Hid (r = true) := HF.out.trans (decide_eq_true ⟨h0, h5⟩)
          clear HF
          go_wp2
          go_ret
          exact ⟨ret_bool (by first | exact HG.out.symm | (rw [HG.out]; simp; omega)), K1.out⟩
        · have HG : Hid (r = false) := HF.out.trans (decide_eq_false fun h => h5 h.2)
          clear HF
          go_wp2
          go_ret
          exact ⟨ret_bool (by first | exact HG.out.symm | (rw [HG.out]; simp; omega)), K1.out⟩
      · obtain rfl : n = 0 := by omega
        have HG : Hid (r = false) := HF.out.trans (decide_eq_false fun h => h0 h.1)
        clear HF h0
        go_wp2
        go_ret
        exact ⟨ret_bool (by first | exact HG.out.symm | (rw [HG.out]; simp; omega)), K1.out⟩
    · have HF := Lib.hid (H1.out rfl rfl)
      clear H0 H1 H2
      by_cases h0 : n = 0
      · have HG : Hid (r = true) := HF.out.trans (decide_eq_true h0)
        subst h0
        clear HF
        go_wp2
        go_ret
        exact ⟨ret_bool (by first | exact HG.out.symm | (rw [HG.out]; simp; omega)), K1.out⟩
      · have HG : Hid (r = false) := HF.out.trans (decide_eq_false h0)
        have d : ((n : Int) == 0) = false := beq_eq_false_iff_ne.2 (by omega)
        clear HF
        go_wp2
        go_ret
        exact ⟨ret_bool (by first | exact HG.out.symm | (rw [HG.out]; simp; omega)), K1.out⟩

theorem num0 : leB 0 1 = [0] := by decide

theorem num1 : leB 1 1 = [1] := by decide

set_option maxHeartbeats 3200000 in
theorem chBytes_any (f : CT) (A : Option Addr) (c : Nat) (w : World) (hm : mayC f = true) (hb : Bts w A f.v.length f.v) :
    Calls Try.prog 63 #[.agg #[.int .i64 f.k.i, .int .u8 (f.k.t : Nat), .string f.k.n, .int .i64 f.k.c, .slice A f.v.length c, .bool f.g]] w (RetL w (chB f)) := by
  obtain ⟨i0, hi, hz0, hz1, hz2⟩ := info_parts info_u8
  obtain ⟨hk, hv, _, _⟩ := mayC_parts hm
  have hkl := pkL_len f.k
  rw [(pk_yes hk).1] at hkl
  have HKL := Lib.hid hkl
  have HR : Hid (rowL f.v = f.v.length :: f.v) := by rw [Hid]; unfold rowL; rw [if_pos hv]
  have HC : Hid (chB f = if f.g = true then 0 :: keyB f.k else 1 :: (keyB f.k ++ rowL f.v)) := rfl
  have HPK : Hid (∀ u, Calls Try.prog 28 #[.agg #[.int .i64 f.k.i, .int .u8 (f.k.t : Nat), .string f.k.n, .int .i64 f.k.c]] u (RetB u (keyB f.k) 0)) := fun u => by
    have := putKey_any f.k u (by have := may_name hk; unfold maxLen; omega)
    rwa [(pk_yes hk).1, (pk_yes hk).2] at this
  have HRW : Hid (∀ u, New w u → Calls Try.prog 54 #[.slice A f.v.length c] u (RetB u (f.v.length :: f.v) 0)) := fun u hu => by
    have := erow_any A f.v.length c f.v u (hb.new hu) (by unfold maxLen; omega)
    rwa [HR.out, show rowE f.v = 0 by unfold rowE; rw [if_pos hv]] at this
  have HVL := Lib.hid hv
  clear hk hv hkl hm hb
  obtain ⟨k, v, g⟩ := f
  dsimp only at *
  generalize keyB k = kb at *
  generalize chB ⟨k, v, g⟩ = out at *
  generalize rowL v = rl at *
  obtain ⟨i, t, s, z⟩ := k
  dsimp only at *
  generalize hvl : v.length = n at *
  have HVN := Lib.hid hvl
  clear hvl
  go_enter Try.func63, Try.ntmps63
  go_wp2_with fail
  refine (HPK.out _).mono ?_
  rintro e w1 ⟨A1, c1, rfl, o1, k1⟩
  have K1 : Hid (New w w1) := ((Kept.refl _ _).alloc _).new k1
  have B1 : Hid (Blk w1 w.heap.size 78 [.int .i64 i, .int .u8 (t : Nat), .string s, .int .i64 z, .slice A n c, .bool g]) := (Blk.made w _ _).kept k1 id
  have O1 : Hid (OwnB w1 5 w.heap.size A1 c1 kb) := o1.mono (by simp)
  clear k1 o1 HPK
  have a4 : w1.cell? ⟨w.heap.size, 4, none⟩ = some (.slice A n c) := B1.out.cell 4
  have a5 : w1.cell? ⟨w.heap.size, 5, none⟩ = some (.bool g) := B1.out.cell 5
  cases g
  · have HO : Hid (out = 1 :: (kb ++ (n :: v))) := by rw [Hid, HC.out, if_neg (by decide), HR.out]
    clear HC
    go_wp2_with fail
    refine (HRW.out _ K1.out).mono ?_
    rintro e w2 ⟨A2, c2, rfl, o2, k2⟩
    have HL2 : Hid ((n :: v).length = n + 1) := by rw [Hid, List.length_cons, HVN.out]
    rw [HL2.out]
    have K2 := Lib.hid (K1.out.new k2)
    have O2 : Hid (OwnB w2 5 w.heap.size A2 c2 (n :: v)) := o2.mono K1.out.size
    have O1' := Lib.hid (O1.out.new k2)
    clear o2 k2 HRW K1 O1 B1 a4 a5
    go_wp2_with fail
    refine (number_any 1 1 _ (by decide) (.inl rfl) (by decide)).mono ?_
    rw [num1]
    rintro e w3 ⟨A3, c3, rfl, o3, k3⟩
    have K3 : Hid (New w2 w3) := k3
    have O3 := Lib.hid o3
    have O1'' := Lib.hid (O1'.out.new k3)
    clear o3 k3
    have hkl := HKL.out
    have hvl := HVL.out
    have hl2 := HL2.out
    go_wp2_with (at_builtin; refine wpList_append_bytes _ rfl _ _ _ rfl 5 i0 Try.underlying25 hi hz0 hz1 hz2 w2.heap.size A3 1 c3 [1] rfl O3.out rfl A1 kb.length c1 kb rfl O1''.out.bts ?_ K3.out.size ?_)
    · simp only [List.length_cons, List.length_nil]; omega
    intro A4 c4 w4 o4 g4 _
    have K4 : Hid (New w2 w4) := Kept.of_own K3.out O3.out g4
    have O4 : Hid (OwnB w4 5 w2.heap.size A4 c4 ([1] ++ kb)) := o4
    have O2' : Hid (Bts w4 A2 (n + 1) (n :: v)) := by have := (O2.out.new K4.out).bts; rwa [hl2] at this
    have HL4 : Hid (1 + kb.length = ([1] ++ kb).length) := by rw [Hid, List.length_append]; rfl
    clear o4 g4 K3 O3 O1'' O1' O2
    go_wp2_with (at_builtin; refine wpList_append_bytes _ rfl _ _ _ rfl 5 i0 Try.underlying25 hi hz0 hz1 hz2 w2.heap.size A4 (1 + kb.length) c4 ([1] ++ kb) rfl O4.out HL4.out A2 (n + 1) c2 (n :: v) rfl O2'.out ?_ K4.out.size ?_)
    · simp only [List.length_append, List.length_cons, List.length_nil]; omega
    intro A5 c5 w5 o5 g5 _
    have E : Hid (RetL w out (.returned (.slice A5 (1 + kb.length + (n + 1)) c5)) w5) := by
      have e : out = [1] ++ kb ++ (n :: v) := by rw [HO.out]; simp
      refine ⟨A5, c5, ?_, ?_, K2.out.new (Kept.of_own K4.out O4.out g5)⟩
      · rw [e, List.length_append, ← HL4.out, hl2]
      · rw [e]; exact o5.mono K2.out.size
    clear o5 g5 O4 O2' K4
    go_wp2
    go_ret
    exact E.out
  · have HO : Hid (out = 0 :: kb) := by rw [Hid, HC.out, if_pos rfl]
    clear HC
    go_wp2_with fail
    refine (number_any 0 1 _ (by decide) (.inl rfl) (by decide)).mono ?_
    rw [num0]
    rintro e w3 ⟨A3, c3, rfl, o3, k3⟩
    have K3 : Hid (New w1 w3) := k3
    have O3 := Lib.hid o3
    have O1'' := Lib.hid (O1.out.new k3)
    clear o3 k3
    have hkl := HKL.out
    go_wp2_with (at_builtin; refine wpList_append_bytes _ rfl _ _ _ rfl 5 i0 Try.underlying25 hi hz0 hz1 hz2 w1.heap.size A3 1 c3 [0] rfl O3.out rfl A1 kb.length c1 kb rfl O1''.out.bts ?_ K3.out.size ?_)
    · simp only [List.length_cons, List.length_nil]; omega
    intro A4 c4 w4 o4 g4 _
    have E : Hid (RetL w out (.returned (.slice A4 (1 + kb.length) c4)) w4) := by
      have e : out = [0] ++ kb := by rw [HO.out]; rfl
      refine ⟨A4, c4, ?_, ?_, K1.out.new (Kept.of_own K3.out O3.out g4)⟩
      · rw [e, List.length_append]; rfl
      · rw [e]; exact o4.mono K1.out.size
    clear o4 g4 O3 K3 O1''
    go_wp2
    go_ret
    exact E.out

end

end Go.Proofs.Ytbiihjdjbknibaa
