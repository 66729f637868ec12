/-
  Contracts of layer 5: what is under what, of both sides; the statements' own example.
-/
import Derived.Test.YtofolfginoadiaaVh
namespace Go.Proofs.Ytofolfginoadiaa
open Go.RowKit

set_option maxHeartbeats 800000 in
theorem begins_any (A B : Option Addr) (n m c d : Nat) (g h : List (List UInt8)) (w : World) (ha : Txs w A n g) (hb : Txs w B m h) (hn : n ≤ maxLen) :
    Calls Try.prog 24 #[.slice A n c, .slice B m d] w (QuietT w (decide (m < n ∧ g.take m = h))) := by
  unfold maxLen at hn
  have hg := ha.len
  have hh := hb.len
  by_cases hnm : m < n
  · have hle : decide ((n : Int) ≤ (m : Int)) = false := decide_eq_false (by omega)
    go_enter Try.func24, Try.ntmps24
    go_wp2
    go_loopw [5] (fun i wr => ∃ k q : Nat, k ≤ m ∧ i = .int .i64 k ∧ wr = w.drewN q ∧ Hid (g.take k = h.take k)) (fun i _ => m - (intOf i).toNat)
    case atStart => exact ⟨0, 0, Nat.zero_le _, rfl, rfl, rfl⟩
    case round =>
      obtain ⟨k, q, hk, rfl, rfl, heq⟩ := hrel
      by_cases hlt : k < m
      · obtain ⟨b, o, x, rfl, hx, hc⟩ := ha.at_ (Nat.lt_trans hlt hnm)
        obtain ⟨b', o', y, rfl, hy, hc'⟩ := hb.at_ hlt
        have HX := Lib.hid hx
        have HY := Lib.hid hy
        clear ha hb hx hy hg hh
        by_cases e : x = y
        · have E := Lib.hid e
          have hxy : (x == y) = true := by rw [e]; exact beq_self_eq_true y
          clear e
          go_wp2
          go_quiet (fail)
          go_wp2
          go_roundw
          case rel => exact ⟨k + 1, _, by omega, by go_num, rfl, by rw [Hid, List.take_add_one, List.take_add_one, HX.out, HY.out, heq.out, E.out]⟩
          case measure => simp [intOf]; omega
        · have hne : Hid (decide (m < n ∧ g.take m = h) = false) := decide_eq_false fun e2 => e (by
            have e3 := HY.out
            rw [← e2.2, List.getElem?_take, if_pos hlt] at e3
            have := HX.out.symm.trans e3
            injection this)
          have hxy : (x == y) = false := beq_eq_false_iff_ne.2 e
          clear e
          go_wp2
          go_quiet (fail)
          go_wp2
          go_ret
          exact ⟨_, by rw [hne.out]; rfl, World.drewN_drewN _ _ _⟩
      · have e : k = m := by omega
        have hy : Hid (decide (m < n ∧ g.take m = h) = true) := decide_eq_true (by
          have := heq.out
          rw [e, List.take_of_length_le (l := h) (by omega)] at this
          exact ⟨hnm, this⟩)
        clear ha hb heq hg hh
        go_wp2
        go_ret
        exact ⟨q, by rw [hy.out]; rfl, rfl⟩
  · have hne : Hid (decide (m < n ∧ g.take m = h) = false) := decide_eq_false fun e => hnm e.1
    have hle : decide ((n : Int) ≤ (m : Int)) = true := decide_eq_true (by omega)
    clear ha hb hg hh
    go_enter Try.func24, Try.ntmps24
    go_wp2
    go_ret
    exact ⟨0, by rw [hne.out]; rfl, rfl⟩

/-- slices.Equal over texts, whatever they are. -/
theorem equal_any (A B : Option Addr) (n c d : Nat) (g h : List (List UInt8)) (w : World) (ha : Txs w A n g) (hb : Txs w B n h) (hn : n ≤ maxLen) :
    Calls Try.prog 23 #[.slice A n c, .slice B n d] w (QuietT w (decide (g = h))) := by
  unfold maxLen at hn
  have hg := ha.len
  have hh := hb.len
  by_cases h0 : n = 0
  · subst h0
    have e1 : g = [] := List.eq_nil_of_length_eq_zero hg
    have e2 : h = [] := List.eq_nil_of_length_eq_zero hh
    subst e1
    subst e2
    exact (shEqual_empty A B c 0 d w (by omega)).mono fun e w' k => ⟨0, by rw [k.1]; rfl, k.2⟩
  · obtain ⟨b, o, x, rfl, _, _⟩ := ha.at_ (j := 0) (by omega)
    obtain ⟨b', o', y, rfl, _, _⟩ := hb.at_ (j := 0) (by omega)
    have cells : ∀ (b o : Nat) (g : List (List UInt8)), Txs w (some ⟨b, o, none⟩) n g → ∀ j, j < (g.map (fun x => (⟨x.toArray⟩ : ByteArray))).length →
        w.cell? ⟨b, o + j, none⟩ = some (.string ((g.map (fun x => (⟨x.toArray⟩ : ByteArray))).getD j ByteArray.empty)) := fun b o g hg j hj => by
      have hl := hg.len
      rw [List.length_map] at hj
      obtain ⟨b', o', y, e1, hy, hcy⟩ := hg.at_ (j := j) (by omega)
      injection e1 with e1
      injection e1 with e1 e2
      subst e1
      subst e2
      rw [hcy, List.getD_eq_getElem?_getD, List.getElem?_map, hy]
      rfl
    have := shEqual b o n c b' o' n d (g.map (fun x => (⟨x.toArray⟩ : ByteArray))) (h.map (fun x => (⟨x.toArray⟩ : ByteArray))) w (by rw [List.length_map]; omega) (by rw [List.length_map]; omega) (by omega) (by omega)
      (cells b o g ha) (cells b' o' h hb)
    refine this.mono fun e w' k => ?_
    obtain ⟨k1, q, k2⟩ := k
    refine ⟨q, ?_, k2⟩
    rw [k1, List.take_of_length_le (by rw [List.length_map]; omega), List.take_of_length_le (by rw [List.length_map]; omega)]
    congr 2
    by_cases e : g = h
    · subst e; simp
    · rw [decide_eq_false e, decide_eq_false]
      intro e2
      apply e
      have e3 := congrArg (List.map (·.data.toList)) e2
      rwa [map_tx, map_tx] at e3

theorem uL_bad1 {a b : List UInt8} {x : Nat} (h : pE a = x) (hx : x ≠ 0) : uL a b = false := by
  unfold uL
  rw [decide_eq_false]
  intro e
  exact hx (by rw [← h]; exact e.1)
theorem uL_bad2 {a b : List UInt8} {x : Nat} (h : pE b = x) (hx : x ≠ 0) : uL a b = false := by
  unfold uL
  rw [decide_eq_false]
  intro e
  exact hx (by rw [← h]; exact e.2.1)
theorem uL_ok {a b : List UInt8} (h1 : pE a = 0) (h2 : pE b = 0) : uL a b = decide ((pN b).length < (pN a).length ∧ (pN a).take (pN b).length = pN b) := by
  unfold uL
  rw [h1, h2]
  simp

/-- A bool comes back, only new memory was written. -/
def RetU (w : World) (b : Bool) (e : Ending) (w' : World) : Prop := e = .returned (.bool b) ∧ New w w'

theorem neq23 (x : Nat) (h : x = 2 ∨ x = 3) : ((x : Int) == 0) = false := by
  rcases h with rfl | rfl <;> rfl

set_option maxHeartbeats 2000000 in
theorem under_any (s t : ByteArray) (w : World) (hs : s.size ≤ 1048576) (ht : t.size ≤ 1048576) :
    Calls Try.prog 18 #[.string s, .string t] w (RetU w (uL s.data.toList t.data.toList)) := by
  go_enter Try.func18, Try.ntmps18
  go_wp2_with fail
  refine (parse_any s _ hs).mono ?_
  rintro e w1 ⟨A, c, rfl, ho, hk⟩
  have HO := Lib.hid ho
  have HK := Lib.hid hk
  clear ho hk
  have hla := pN_le s.data.toList
  have hlb := pN_le t.data.toList
  have bad : ∀ x, pE s.data.toList = x → x ≠ 0 → Hid (uL s.data.toList t.data.toList = false) := fun x h hx => uL_bad1 h hx
  have bad2 : ∀ x, pE t.data.toList = x → x ≠ 0 → Hid (uL s.data.toList t.data.toList = false) := fun x h hx => uL_bad2 h hx
  rcases pE_cases s.data.toList with h | h | h
  · have HE := Lib.hid h
    rw [h]
    clear h bad
    go_wp2_with fail
    refine (parse_any t _ ht).mono ?_
    rintro e w2 ⟨B, d, rfl, ho2, hk2⟩
    have HO1 := Lib.hid (HO.out.new hk2)
    have HO2 := Lib.hid ho2
    have HK2 := Lib.hid (HK.out.new hk2)
    clear HK HO hk2 ho2
    rcases pE_cases t.data.toList with h | h | h
    · have HE2 := Lib.hid h
      rw [h]
      clear h bad2
      have HU := Lib.hid (uL_ok HE.out HE2.out)
      have hle := HO1.out.le
      by_cases hlt : (pN t.data.toList).length < (pN s.data.toList).length
      · have hd : decide (((pN t.data.toList).length : Int) < ((pN s.data.toList).length : Int)) = true := decide_eq_true (by omega)
        have hT := HO1.out.txs.take (k := (pN t.data.toList).length) (by omega)
        have HC := Lib.hid (fun (c' : Nat) => equal_any A B _ c' d _ _ w2 hT HO2.out.txs (by unfold maxLen; omega))
        have HV : Hid (uL s.data.toList t.data.toList = decide ((pN s.data.toList).take (pN t.data.toList).length = pN t.data.toList)) := by
          rw [Hid, HU.out]
          simp [hlt]
        unfold maxLen at hle
        clear hT HU HO1 HO2
        go_wp2_with (go_at_call 23; refine (HC.out _).mono ?_; rintro e w3 ⟨q, rfl, hw3⟩; have K3 : Hid (New w w3) := (by rw [hw3]; exact HK2.out.drewN q); clear hw3)
        all_goals
          go_ret
          exact ⟨by first | rfl | (rw [HV.out]; first | rfl | simp_all), K3.out⟩
      · have hd : decide (((pN t.data.toList).length : Int) < ((pN s.data.toList).length : Int)) = false := decide_eq_false (by omega)
        have HV : Hid (uL s.data.toList t.data.toList = false) := by
          rw [Hid, HU.out, decide_eq_false]
          intro e
          exact hlt e.1
        clear HU HO1 HO2
        go_wp2
        go_ret
        exact ⟨by rw [HV.out]; rfl, HK2.out⟩
    · have HF := bad2 2 h (by omega)
      rw [h]
      clear h bad2
      go_wp2
      go_ret
      exact ⟨by rw [HF.out]; rfl, HK2.out⟩
    · have HF := bad2 3 h (by omega)
      rw [h]
      clear h bad2
      go_wp2
      go_ret
      exact ⟨by rw [HF.out]; rfl, HK2.out⟩
  · have HF := bad 2 h (by omega)
    rw [h]
    clear h bad bad2
    go_wp2
    go_ret
    exact ⟨by rw [HF.out]; rfl, HK.out⟩
  · have HF := bad 3 h (by omega)
    rw [h]
    clear h bad bad2
    go_wp2
    go_ret
    exact ⟨by rw [HF.out]; rfl, HK.out⟩

set_option maxHeartbeats 2000000 in
theorem runder_any (s t : ByteArray) (w : World) (hs : s.size ≤ 1048576) (ht : t.size ≤ 1048576) :
    Calls Try.prog 19 #[.string s, .string t] w (RetU w (uL s.data.toList t.data.toList)) := by
  go_enter Try.func19, Try.ntmps19
  go_wp2_with fail
  refine (rparse_any s _ hs).mono ?_
  rintro e w1 ⟨A, c, rfl, ho, hk⟩
  have HO := Lib.hid ho
  have HK := Lib.hid hk
  clear ho hk
  have hla := pN_le s.data.toList
  have hlb := pN_le t.data.toList
  have bad : ∀ x, pE s.data.toList = x → x ≠ 0 → Hid (uL s.data.toList t.data.toList = false) := fun x h hx => uL_bad1 h hx
  have bad2 : ∀ x, pE t.data.toList = x → x ≠ 0 → Hid (uL s.data.toList t.data.toList = false) := fun x h hx => uL_bad2 h hx
  go_wp2_with fail
  refine (rparse_any t _ ht).mono ?_
  rintro e w2 ⟨B, d, rfl, ho2, hk2⟩
  have HO1 := Lib.hid (HO.out.new hk2)
  have HO2 := Lib.hid ho2
  have HK2 := Lib.hid (HK.out.new hk2)
  clear HK HO hk2 ho2
  rcases pE_cases s.data.toList with h | h | h
  · have HE := Lib.hid h
    rw [h]
    clear h bad
    rcases pE_cases t.data.toList with h | h | h
    · have HE2 := Lib.hid h
      rw [h]
      clear h bad2
      have HU := Lib.hid (uL_ok HE.out HE2.out)
      have HC := Lib.hid (begins_any A B _ _ c d _ _ w2 HO1.out.txs HO2.out.txs (by unfold maxLen; omega))
      clear HO1 HO2
      go_wp2_with (go_at_call 24; refine HC.out.mono ?_; rintro e w3 ⟨q, rfl, hw3⟩; have K3 : Hid (New w w3) := (by rw [hw3]; exact HK2.out.drewN q); clear hw3)
      all_goals
        go_ret
        exact ⟨by first | rfl | (rw [HU.out]; first | rfl | simp_all), K3.out⟩
    · have HF := bad2 2 h (by omega)
      rw [h]
      clear h bad2
      go_wp2
      go_ret
      exact ⟨by rw [HF.out]; rfl, HK2.out⟩
    · have HF := bad2 3 h (by omega)
      rw [h]
      clear h bad2
      go_wp2
      go_ret
      exact ⟨by rw [HF.out]; rfl, HK2.out⟩
  · have HF := bad 2 h (by omega)
    rw [h]
    clear h bad bad2
    go_wp2
    go_ret
    exact ⟨by rw [HF.out]; rfl, HK2.out⟩
  · have HF := bad 3 h (by omega)
    rw [h]
    clear h bad bad2
    go_wp2
    go_ret
    exact ⟨by rw [HF.out]; rfl, HK2.out⟩

theorem Txs.two (w : World) (t : TypeId) (u v : ByteArray) (g : Nat) (hg : g = w.heap.size) : Txs (w.alloc (.cells #[.string u, .string v] t)) (some ⟨g, 0, none⟩) 2 [u.data.toList, v.data.toList] := by
  subst hg
  refine ⟨rfl, fun _ => ⟨_, 0, rfl, fun j x hx => ?_⟩⟩
  have hb := Blk.made w t #[.string u, .string v]
  match j, hx with
  | 0, hx =>
    rw [List.map_cons, tx_data] at hx
    injection hx with hx
    subst hx
    exact hb.cell 0
  | 1, hx =>
    rw [List.map_cons, List.map_cons, tx_data] at hx
    injection hx with hx
    subst hx
    exact (hb.cell 1).trans (by rw [tx_data]; rfl)

theorem lv1 : pN [47, 97, 47, 98, 46, 99] = [[97], [98, 46, 99]] ∧ pE [47, 97, 47, 98, 46, 99] = 0 := by decide +kernel
theorem lv2 : pN [47, 46, 46] = [] ∧ pE [47, 46, 46] = 2 := by decide +kernel
theorem lv3 : jS [[97], [98]] = [47, 97, 47, 98] ∧ jE [[97], [98]] = 0 := by decide +kernel
theorem lv4 : uL [47, 97] [47] = true ∧ uL [47, 97, 98] [47, 97] = false := by decide +kernel

set_option maxHeartbeats 4000000 in
theorem lives_any (w : World) : Calls Try.prog 13 #[] w (True1 w) := by
  have c1 := fun u => parse_any ⟨#[47, 97, 47, 98, 46, 99]⟩ u (by decide)
  have c2 := fun u => parse_any ⟨#[47, 46, 46]⟩ u (by decide)
  have c4 := fun u => under_any ⟨#[47, 97]⟩ ⟨#[47]⟩ u (by decide) (by decide)
  have c5 := fun u => under_any ⟨#[47, 97, 98]⟩ ⟨#[47, 97]⟩ u (by decide) (by decide)
  simp only [lv1.1, lv1.2] at c1
  simp only [lv2.1, lv2.2] at c2
  simp only [lv4.1] at c4
  simp only [lv4.2] at c5
  have C1 := Lib.hid c1
  have C2 := Lib.hid c2
  have C4 := Lib.hid c4
  have C5 := Lib.hid c5
  clear c1 c2 c4 c5
  go_enter Try.func13, Try.ntmps13
  go_wp2_with fail
  refine (C1.out _).mono ?_
  rintro e w1 ⟨A1, c1, rfl, ho1, hk1⟩
  have O1 := Lib.hid ho1
  have K1 := Lib.hid hk1
  clear ho1 hk1
  go_wp2_with fail
  refine (C2.out _).mono ?_
  rintro e w2 ⟨A2, c2, rfl, ho2, hk2⟩
  have O12 := Lib.hid (O1.out.new hk2)
  have K2 := Lib.hid (K1.out.new hk2)
  clear ho2 hk2 O1 K1
  go_wp2_with fail
  refine (join_any _ 2 2 [[97], [98]] _ (Txs.two _ _ ⟨#[97]⟩ ⟨#[98]⟩ _ rfl) (by decide) (by decide) (by decide)).mono ?_
  rintro e w3 ⟨rfl, hk3⟩
  have K3 := Lib.hid ((K2.out.alloc _).new hk3)
  have O13 := Lib.hid ((O12.out.alloc _).new hk3)
  clear hk3 O12 K2
  rw [lv3.1, lv3.2]
  go_wp2_with fail
  refine (texts_any A1 _ 2 2 c1 2 [[97], [98, 46, 99]] [[97], [98, 46, 99]] _ ((O13.out.txs).new ((Kept.refl _ _).alloc _)) (Txs.two _ _ ⟨#[97]⟩ ⟨#[98, 46, 99]⟩ _ rfl) (by decide)).mono ?_
  rintro e w4 ⟨q, rfl, hw4⟩
  have K4 : Hid (New w w4) := by rw [hw4]; exact (K3.out.alloc _).drewN q
  clear hw4 K3 O13
  go_wp2_with fail
  refine (C4.out _).mono ?_
  rintro e w5 ⟨rfl, hk5⟩
  have K5 := Lib.hid (K4.out.new hk5)
  clear K4 hk5
  go_wp2_with fail
  refine (C5.out _).mono ?_
  rintro e w6 ⟨rfl, hk6⟩
  have K6 := Lib.hid (K5.out.new hk6)
  clear K5 hk6
  go_wp2
  go_ret
  exact ⟨rfl, K6.out⟩
end Go.Proofs.Ytofolfginoadiaa
