/-
  Contracts: pages of drops, and what bodies of drops say, of the program and of the reference.
-/
import Derived.Test.YtlbbhfapmmcehaaJe
namespace Go.Proofs.Ytlbbhfapmmcehaa
set_option maxRecDepth 100000
open Go.RowKit

/-- A drop's page, or the error. -/
def pdL (n : Int) (q : Nat) : List Nat := if q = 0 then [] else sPutL n 3 (leB q 8)
def pdE (n : Int) (q : Nat) : Int := if q = 0 then 2 else sPutE n 3 (leB q 8)
/-- What a drop's body says, or the error. -/
def gdV (l : List Nat) : Nat := if l.length = 8 then leV l else 0
def gdE (l : List Nat) : Int := if gdV l = 0 then 5 else 0

theorem sz8 : isSz 8 := .inr (.inr (.inr rfl))

theorem fit8 {q : Nat} (h : q < 18446744073709551616) : fitB q 8 = true := decide_eq_true h

theorem leB8_len (q : Nat) : (leB q 8).length = 8 := leB_length q 8

theorem putDrop_any (n : Int) (q : Nat) (w : World) (hq : q < 18446744073709551616) :
    Calls Try.prog 18 #[.int .i64 n, .int .u64 q] w (PagP w (pdL n q) (pdE n q)) := by
  by_cases h0 : q = 0
  · subst h0
    have E : Hid (PagP w (pdL n 0) (pdE n 0) (.returned (.tuple #[.slice none 0 0, .int .i64 2])) w) :=
      ⟨none, 0, rfl, ⟨(fun x hx => by cases hx), .inl ⟨rfl, rfl, rfl⟩⟩, Kept.refl _ _⟩
    go_enter Try.func18, Try.ntmps18
    go_wp2
    go_ret2
    exact E.out
  · have HE : Hid (pdL n q = sPutL n 3 (leB q 8) ∧ pdE n q = sPutE n 3 (leB q 8)) := ⟨by unfold pdL; rw [if_neg h0], by unfold pdE; rw [if_neg h0]⟩
    have HN := fun u => Lib.hid (number_any q 8 u hq sz8 (fit8 hq))
    have HL := Lib.hid (leB8_len q)
    have d : ((q : Int) == 0) = false := beq_eq_false_iff_ne.2 (by omega)
    rw [HE.out.1, HE.out.2]
    clear h0 HE
    generalize leB q 8 = b at *
    go_enter Try.func18, Try.ntmps18
    go_wp2_with fail
    refine (HN _).out.mono ?_
    rintro e w1 ⟨A1, c1, rfl, o1, k1⟩
    rw [HL.out]
    have O1 : Hid (Bts w1 A1 8 b) := by have := o1.bts; rwa [HL.out] at this
    have K1 := Lib.hid k1
    have N1 := Lib.hid o1
    clear o1 k1 HN
    go_wp2_with fail
    refine (sPut_any n 3 A1 8 c1 b _ O1.out (by unfold maxLen; omega)).mono ?_
    rintro e w2 ⟨A2, c2, rfl, p2, k2⟩
    have E : Hid (PagP w (sPutL n 3 b) (sPutE n 3 b) (.returned (.tuple #[.slice A2 (sPutL n 3 b).length c2, .int .i64 (sPutE n 3 b)])) w2) := by
      refine ⟨A2, c2, rfl, ⟨p2.1, ?_⟩, K1.out.new k2⟩
      rcases p2.2 with h | ⟨g, jk, h1, h2, h3⟩
      · exact .inl h
      · exact .inr ⟨g, jk, h1, Nat.le_trans K1.out.size h2, h3⟩
    clear p2 k2 O1 N1
    generalize sPutL n 3 b = pl at *
    generalize sPutE n 3 b = pe at *
    go_wp2
    go_ret2
    exact E.out

theorem rputDrop_any (n : Int) (q : Nat) (w : World) (hq : q < 18446744073709551616) :
    Calls Try.prog 19 #[.int .i64 n, .int .u64 q] w (RetB w (pdL n q) (pdE n q)) := by
  by_cases h0 : q = 0
  · subst h0
    have E : Hid (RetB w (pdL n 0) (pdE n 0) (Ending.returned (.tuple #[.slice none 0 0, .int .i64 2])) w) := RetB.nil _ _ _ (Kept.refl _ _)
    go_enter Try.func19, Try.ntmps19
    go_wp2
    go_ret2
    exact E.out
  · have HE : Hid (pdL n q = sPutL n 3 (leB q 8) ∧ pdE n q = sPutE n 3 (leB q 8)) := ⟨by unfold pdL; rw [if_neg h0], by unfold pdE; rw [if_neg h0]⟩
    have HN : Hid (∀ u, Calls Try.prog 40 #[.int .u64 q, .int .i64 8] u (RetB u (leB q 8) 0)) := fun u => by
      have := rput_any q 8 u hq
      rwa [show putL q 8 = leB q 8 by unfold putL; rw [if_pos ⟨sz8, fit8 hq⟩]; rfl, show putE q 8 = 0 by unfold putE; rw [if_pos ⟨sz8, fit8 hq⟩]] at this
    have HL := Lib.hid (leB8_len q)
    have d : ((q : Int) == 0) = false := beq_eq_false_iff_ne.2 (by omega)
    rw [HE.out.1, HE.out.2]
    clear h0 HE
    generalize leB q 8 = b at *
    go_enter Try.func19, Try.ntmps19
    go_wp2_with fail
    refine (HN.out _).mono ?_
    rintro e w1 ⟨A1, c1, rfl, o1, k1⟩
    rw [HL.out]
    have O1 : Hid (Bts w1 A1 8 b) := by have := o1.bts; rwa [HL.out] at this
    have K1 := Lib.hid k1
    clear o1 k1 HN
    go_wp2_with fail
    refine (rPut_any n 3 A1 8 c1 b _ O1.out (by unfold maxLen; omega)).mono ?_
    rintro e w2 ⟨A2, c2, rfl, o2, k2⟩
    have E : Hid (RetB w (sPutL n 3 b) (sPutE n 3 b) (.returned (.tuple #[.slice A2 (sPutL n 3 b).length c2, .int .i64 (sPutE n 3 b)])) w2) := ⟨A2, c2, rfl, o2.mono K1.out.size, K1.out.new k2⟩
    clear o2 k2 O1
    generalize sPutL n 3 b = pl at *
    generalize sPutE n 3 b = pe at *
    go_wp2
    go_ret2
    exact E.out

/-- A number and an error come back. -/
def NumP (w : World) (v : Nat) (E : Int) (e : Ending) (w' : World) : Prop := e = .returned (.tuple #[.int .u64 (v : Nat), .int .i64 E]) ∧ New w w'

theorem num_5 {w u : World} {gv : Nat} {ge : Int} (h1 : gv = 0) (h2 : ge = 5) (k : New w u) : NumP w gv ge (.returned (.tuple #[.int .u64 0, .int .i64 5])) u := by subst h1 h2; exact ⟨rfl, k⟩

theorem num_0 {w u : World} {gv : Nat} {ge : Int} (h2 : ge = 0) (k : New w u) : NumP w gv ge (.returned (.tuple #[.int .u64 (gv : Nat), .int .i64 0])) u := by subst h2; exact ⟨rfl, k⟩

theorem gd_take {l : List Nat} (h : l.length = 8) : takeV l 8 = leV l ∧ takeE l 8 = 0 ∧ takeL l 8 = [] := by
  have e : ((8 : Int)).toNat = 8 := rfl
  unfold takeV takeE takeL
  rw [if_pos sz8, if_pos sz8, if_pos sz8, e, if_pos (by omega), if_pos (by omega), if_pos (by omega), List.take_of_length_le (by omega), List.drop_of_length_le (by omega)]
  exact ⟨rfl, rfl, rfl⟩

theorem gd_more {l : List Nat} (h : 8 < l.length) : takeE l 8 = 0 ∧ 0 < (takeL l 8).length := by
  have e : ((8 : Int)).toNat = 8 := rfl
  unfold takeE takeL
  rw [if_pos sz8, if_pos sz8, e, if_pos (by omega), if_pos (by omega), List.length_drop]
  exact ⟨rfl, by omega⟩

theorem gd_less {l : List Nat} (h : l.length < 8) : takeE l 8 = 4 := by
  have e : ((8 : Int)).toNat = 8 := rfl
  unfold takeE
  rw [if_pos sz8, e, if_neg (by omega)]

theorem gd_eq {l : List Nat} (h : l.length = 8) : gdV l = leV l := by unfold gdV; rw [if_pos h]

theorem gd_ne {l : List Nat} (h : l.length ≠ 8) : gdV l = 0 ∧ gdE l = 5 := by
  have : gdV l = 0 := by unfold gdV; rw [if_neg h]
  exact ⟨this, by unfold gdE; rw [if_pos this]⟩

set_option maxHeartbeats 1600000 in
theorem getDrop_any (A : Option Addr) (n c : Nat) (l : List Nat) (w : World) (ha : Bts w A n l) (hn : n ≤ 140737488351232) (hA : A = none → c = 0 ∧ n = 0) :
    Calls Try.prog 20 #[.slice A n c] w (NumP w (gdV l) (gdE l)) := by
  have hl : l.length = n := ha.1
  have HT1 : Hid (l.length = 8 → _) := gd_take (l := l)
  have HT2 : Hid (8 < l.length → _) := gd_more (l := l)
  have HT3 : Hid (l.length < 8 → _) := gd_less (l := l)
  have HV : Hid (l.length = 8 → gdV l = leV l) := gd_eq
  have HX : Hid (l.length ≠ 8 → gdV l = 0 ∧ gdE l = 5) := gd_ne
  have HE : Hid (gdE l = if gdV l = 0 then 5 else 0) := rfl
  have CN := fun u hu => Lib.hid (new_any A n c l u (ha.new hu) hn hA)
  have HLN := Lib.hid hl
  clear ha hA hl
  generalize gdV l = gv at *
  generalize gdE l = ge at *
  go_enter Try.func20, Try.ntmps20
  go_wp2_with fail
  refine (CN _ (Kept.refl _ _)).out.mono ?_
  rintro e w1 ⟨g, rfl, r1, hg, k1⟩
  have K1 := Lib.hid k1
  have hlt1 := r1.at_.lt
  obtain ⟨w2, hw2⟩ : ∃ w2, w2 = w1.alloc (.cells #[.pointer (some ⟨g, 0, none⟩)] 59) := ⟨_, rfl⟩
  have n2 : New w1 w2 := by rw [hw2]; exact (Kept.refl _ _).alloc _
  have B2 : Hid (Blk w2 w1.heap.size 59 [.pointer (some ⟨g, 0, none⟩)]) := by rw [hw2]; exact Blk.made w1 _ _
  have R2 := Lib.hid (r1.new n2)
  have K2 := Lib.hid (K1.out.new n2)
  have HG := Lib.hid hg
  have HW2 := Lib.hid hw2
  clear r1 k1 CN n2 hw2 hg K1
  have a0 : w2.cell? ⟨w1.heap.size, 0, none⟩ = some (.pointer (some ⟨g, 0, none⟩)) := B2.out.cell 0
  go_wp2_with fail
  rw [← HW2.out]
  clear HW2
  have hgn : w1.heap.size ≠ g := by omega
  refine (etake_any g l 8 _ R2.out).mono ?_
  rintro e w3 ⟨rfl, r3, k3⟩
  have B3 := Lib.hid (B2.out.kept k3 hgn)
  have K3 : Hid (New w w3) := K2.out.trans k3 fun i hi e => by have := HG.out; omega
  have R3 := Lib.hid r3
  clear r3 k3 R2 K2 B2 a0
  have a0 : w3.cell? ⟨w1.heap.size, 0, none⟩ = some (.pointer (some ⟨g, 0, none⟩)) := B3.out.cell 0
  have CL := Lib.hid (eleft_any g _ _ R3.out)
  rcases Nat.lt_trichotomy n 8 with h8 | h8 | h8
  · have e3 := HT3.out (by have := HLN.out; omega)
    obtain ⟨v1, v2⟩ := HX.out (by have := HLN.out; omega)
    rw [e3]
    have HZ := Lib.hid (num_5 v1 v2 K3.out)
    clear v1 v2 HT1 HT2 HT3 HV HX HE CL
    generalize takeV l 8 = tv at *
    go_wp2
    go_ret2
    exact HZ.out
  · obtain ⟨e1, e2, e3⟩ := HT1.out (by have := HLN.out; omega)
    have hv := HV.out (by have := HLN.out; omega)
    have he := HE.out
    rw [e1, e2, ← hv]
    have CL' : Hid (Calls Try.prog 34 #[.pointer (some ⟨g, 0, none⟩)] w3 fun e w' => e = .returned (.int .i64 0) ∧ w3 = w') := by
      have := CL.out
      rw [e3] at this
      exact this
    clear HT1 HT2 HT3 HV HX HE CL hv e1 e2 e3
    by_cases h0 : gv = 0
    · rw [if_pos h0] at he
      have HZ := Lib.hid (num_5 h0 he K3.out)
      clear he
      rw [h0]
      go_wp2
      go_ret2
      exact HZ.out
    · rw [if_neg h0] at he
      have HZ := Lib.hid (num_0 (gv := gv) he K3.out)
      clear he
      have d : ((gv : Int) == 0) = false := beq_eq_false_iff_ne.2 (by omega)
      clear h0
      go_wp2_with (go_at_call 34; refine CL'.out.mono ?_; rintro e w4 ⟨rfl, rfl⟩)
      go_ret2
      exact HZ.out
  · obtain ⟨e1, e2⟩ := HT2.out (by have := HLN.out; omega)
    obtain ⟨v1, v2⟩ := HX.out (by have := HLN.out; omega)
    rw [e1]
    have HZ := Lib.hid (num_5 v1 v2 K3.out)
    clear v1 v2 HT1 HT2 HT3 HV HX HE
    generalize (takeL l 8).length = tn at *
    generalize takeV l 8 = tv at *
    by_cases h0 : tv = 0
    · subst h0
      go_wp2
      go_ret2
      exact HZ.out
    · have d : ((tv : Int) == 0) = false := beq_eq_false_iff_ne.2 (by omega)
      clear h0
      go_wp2_with (go_at_call 34; refine CL.out.mono ?_; rintro e w4 ⟨rfl, rfl⟩)
      go_ret2
      exact HZ.out

set_option maxHeartbeats 400000 in
/-- The reference's Take off of bytes of whatever block. -/
theorem rtake_bare (g : Nat) (A : Option Addr) (c : Nat) (l : List Nat) (s : Nat) (w : World) (h1 : Blk w g 64 [.slice A l.length c, .bool false]) (h2 : Bts w A l.length l) (_h4 : l.length ≤ c) (_h5 : c ≤ maxLen) (hs : isSz s) (hl : s ≤ l.length) :
    Calls Try.prog 35 #[.pointer (some ⟨g, 0, none⟩), .int .i64 s] w
      fun e w' => e = .returned (.tuple #[.int .u64 (leV (l.take s) : Nat), .int .i64 0]) ∧ Kept (· = g) w w' := by
  have h8 : s ≤ 8 := by unfold isSz at hs; omega
  have hs1 : 1 ≤ s := by unfold isSz at hs; omega
  have hs0 := Lib.hid hs
  clear hs
  have hc0 := h1.cell 0
  have hc1 := h1.cell 1
  have hf := h1.free 0
  simp only [List.getElem?_cons_succ, List.getElem?_cons_zero] at hc0 hc1
  unfold maxLen at _h5
  generalize hL : l.length = L at hc0 _h4 hl
  have HL := Lib.hid hL
  clear hL
  clear h1
  have h2' : Bts w A L l := by rw [← HL.out]; exact h2
  clear h2
  go_enter Try.func35, Try.ntmps35
  go_wp2_with (go_at_call 61; refine (size_yes _ _ hs0.out).mono ?_; rintro e w' ⟨rfl, rfl⟩)
  go_loop [6, 7] (fun n i => ∃ k m : Nat, k ≤ s ∧ i = .int .i64 ((k : Int) - 1) ∧ n = .int .u64 m ∧ Hid (m = leV ((l.take s).drop k)) ∧ m < 256 ^ (s - k)) (fun _ i => (intOf i + 1).toNat)
  case atStart =>
    refine ⟨s, 0, Nat.le_refl _, rfl, rfl, ?_, by simp⟩
    rw [Hid, List.drop_eq_nil_of_le (by simp; omega)]
    rfl
  case round =>
    obtain ⟨k, m, hk, rfl, rfl, HM, hm⟩ := hrel
    rcases k with _ | j
    · clear h2'
      go_wp2
      all_goals
        go_ret2
        refine ⟨?_, Kept.set1 _ _ _ _⟩
        have e := HM.out
        simp only [List.drop_zero] at e
        rw [← e]
        rfl
    · obtain ⟨ga, o, x, rfl, hx, hxb, hc⟩ := h2'.at_ (k := j) (by omega)
      have HX : Hid ((l.take s)[j]? = some x) := by rw [Hid, List.getElem?_take, if_pos (by omega)]; exact hx
      clear h2' hx
      have e : (((j + 1 : Nat)) : Int) - 1 = (j : Int) := by omega
      rw [e]
      clear e
      have hp : 256 ^ (s - (j + 1)) ≤ 256 ^ 7 := Nat.pow_le_pow_right (by omega) (by omega)
      have hm7 : m < 72057594037927936 := by
        have : (256 : Nat) ^ 7 = 72057594037927936 := by decide
        omega
      have HMM := Lib.hid hm
      clear hp hm
      go_wp2
      have h3' : 256 * m + x < 256 ^ (s - j) := by
        have e2 : s - j = (s - (j + 1)) + 1 := by omega
        rw [e2, Nat.pow_succ]
        have := HMM.out
        omega
      go_round
      case rel => exact ⟨j, 256 * m + x, by omega, by go_num, by go_num, by rw [Hid, leV_drop _ _ _ HX.out, ← HM.out]; omega, h3'⟩
      case measure => simp [intOf]

theorem pdL_len (n : Int) (q : Nat) : (pdL n q).length ≤ 256 := by
  unfold pdL sPutL
  split
  · simp
  split
  · rename_i h
    have h1 := h.1
    unfold isPg at h1
    rw [page_length _ _ _ (by omega)]
    omega
  · simp

set_option maxHeartbeats 1600000 in
theorem rgetDrop_any (A : Option Addr) (n c : Nat) (l : List Nat) (w : World) (ha : Bts w A n l) (hc : n ≤ c) (hc2 : c ≤ maxLen) :
    Calls Try.prog 21 #[.slice A n c] w (NumP w (gdV l) (gdE l)) := by
  have hl : l.length = n := ha.1
  by_cases h8 : n = 8
  · subst h8
    have hv := gd_eq hl
    have HE : Hid (gdE l = if gdV l = 0 then 5 else 0) := rfl
    obtain ⟨w1, hw1⟩ : ∃ w1, w1 = w.alloc (.cells #[.slice A 8 c, .bool false] 64) := ⟨_, rfl⟩
    have n1 : New w w1 := by rw [hw1]; exact (Kept.refl _ _).alloc _
    have R1 := Lib.hid (rtake_bare w.heap.size A c l 8 w1 (by rw [hw1, hl]; exact Blk.made w _ _) (by rw [hl]; exact ha.new n1) (by omega) hc2 sz8 (by omega))
    have e4 : leV (l.take 8) = gdV l := by rw [hv, List.take_of_length_le (by omega)]
    rw [e4] at R1
    have HW1 := Lib.hid hw1
    have N1 := Lib.hid n1
    clear hw1 n1 ha hv hl e4
    generalize gdV l = gv at *
    generalize gdE l = ge at *
    go_enter Try.func21, Try.ntmps21
    go_wp2_with fail
    rw [← HW1.out]
    clear HW1
    refine R1.out.mono ?_
    rintro e w2 ⟨rfl, k2⟩
    have K2 : Hid (New w w2) := N1.out.trans k2 fun i hi e => by omega
    clear k2 R1 N1
    by_cases h0 : gv = 0
    · have he := HE.out.trans (if_pos h0)
      have HZ := Lib.hid (num_5 h0 he K2.out)
      clear he HE
      rw [h0]
      go_wp2
      go_ret2
      exact HZ.out
    · have he := HE.out.trans (if_neg h0)
      have HZ := Lib.hid (num_0 (gv := gv) he K2.out)
      clear he HE
      have d : ((gv : Int) == 0) = false := beq_eq_false_iff_ne.2 (by omega)
      clear h0
      go_wp2
      go_ret2
      exact HZ.out
  · obtain ⟨v1, v2⟩ := gd_ne (l := l) (by omega)
    have d : ((n : Int) == 8) = false := beq_eq_false_iff_ne.2 (by omega)
    rw [v1, v2]
    unfold maxLen at hc2
    clear ha hl v1 v2 h8
    go_enter Try.func21, Try.ntmps21
    go_wp2
    go_ret2
    exact ⟨rfl, Kept.refl _ _⟩
end Go.Proofs.Ytlbbhfapmmcehaa
