/-
  Contracts: what a key may be (the reference's), numbers laid one behind the other, a key's bytes on both sides.
-/
import Derived.Test.YtbiihjdjbknibaaFc
import Derived.Test.YtbiihjdjbknibaaEf
namespace Go.Proofs.Ytbiihjdjbknibaa
set_option maxRecDepth 100000
open Go.RowKit

set_option maxRecDepth 100000 in
set_option maxHeartbeats 3200000 in
theorem rmay_any (k : KY) (w : World) (hn : k.n.size ≤ maxLen) :
    Calls Try.prog 48 #[.agg #[.int .i64 k.i, .int .u8 (k.t : Nat), .string k.n, .int .i64 k.c]] w (NewBool w (mayK k)) := by
  have H0 : Hid (¬ (1 ≤ k.i ∧ k.i ≤ 65535) → mayK k = false) := may_i
  have H1 : Hid (1 ≤ k.i ∧ k.i ≤ 65535 → k.t = 1 → mayK k = decide (k.n.data.toList = [] ∧ k.c = 0)) := may_1
  have H2 : Hid (1 ≤ k.i ∧ k.i ≤ 65535 → k.t = 2 → mayK k = (nameL k.n.data.toList && decide (k.c = 0))) := may_2
  have H3 : Hid (1 ≤ k.i ∧ k.i ≤ 65535 → k.t = 3 → mayK k = decide (k.n.data.toList = [] ∧ 0 ≤ k.c ∧ k.c < 8)) := may_3
  have H4 : Hid (k.t ≠ 1 → k.t ≠ 2 → k.t ≠ 3 → mayK k = false) := may_0
  generalize mayK k = r at *
  obtain ⟨i, t, s, c⟩ := k
  dsimp only at *
  have HS := Lib.hid hn
  clear hn
  go_enter Try.func48, Try.ntmps48
  by_cases hi : 1 ≤ i
  · have e1 : decide (i < 1) = false := decide_eq_false (by omega)
    by_cases hi2 : i ≤ 65535
    · have HI : Hid (1 ≤ i ∧ i ≤ 65535) := ⟨hi, hi2⟩
      have e2 : decide (65535 < i) = false := decide_eq_false (by omega)
      clear hi H0
      by_cases t1 : t = 1
      · have HR := Lib.hid (H1.out HI.out t1)
        subst t1
        clear H1 H2 H3 H4 HI
        rcases nil_cases s with rfl | ⟨n1, n2, n3⟩
        · by_cases hc : c = 0
          · subst hc
            go_wp2
            go_ret
            exact ⟨by rw [HR.out]; rfl, (Kept.refl _ _).alloc _⟩
          · have HF : Hid (r = false) := HR.out.trans (decide_eq_false fun h => hc h.2)
            have d : (c == 0) = false := beq_eq_false_iff_ne.2 hc
            clear hc HR
            go_wp2
            go_ret
            exact ⟨by rw [HF.out]; rfl, (Kept.refl _ _).alloc _⟩
        · have HF : Hid (r = false) := HR.out.trans (decide_eq_false fun h => n1 h.1)
          clear n1 HR
          go_wp2
          go_ret
          exact ⟨by rw [HF.out]; rfl, (Kept.refl _ _).alloc _⟩
      · by_cases t2 : t = 2
        · have HR := Lib.hid (H2.out HI.out t2)
          subst t2
          clear t1 H1 H2 H3 H4 HI
          go_wp2_with fail
          refine (rname_any s _ HS.out).mono ?_
          rintro e w1 ⟨rfl, rfl⟩
          generalize nameL s.data.toList = b at *
          cases b
          · go_wp2
            go_ret
            exact ⟨by rw [HR.out]; rfl, (Kept.refl _ _).alloc _⟩
          · by_cases hc : c = 0
            · subst hc
              go_wp2
              go_ret
              exact ⟨by rw [HR.out]; rfl, (Kept.refl _ _).alloc _⟩
            · have HF : Hid (r = false) := HR.out.trans (by rw [decide_eq_false hc]; rfl)
              have d : (c == 0) = false := beq_eq_false_iff_ne.2 hc
              clear hc HR
              go_wp2
              go_ret
              exact ⟨by rw [HF.out]; rfl, (Kept.refl _ _).alloc _⟩
        · by_cases t3 : t = 3
          · have HR := Lib.hid (H3.out HI.out t3)
            subst t3
            clear t1 t2 H1 H2 H3 H4 HI
            rcases nil_cases s with rfl | ⟨n1, n2, n3⟩
            · by_cases hc : 0 ≤ c
              · by_cases hd : c < 8
                · have HF : Hid (r = true) := HR.out.trans (decide_eq_true ⟨rfl, hc, hd⟩)
                  have d8 : decide (c < 8) = true := decide_eq_true hd
                  clear HR
                  go_wp2
                  go_ret
                  exact ⟨by rw [HF.out]; rfl, (Kept.refl _ _).alloc _⟩
                · have HF : Hid (r = false) := HR.out.trans (decide_eq_false fun h => hd h.2.2)
                  have d8 : decide (c < 8) = false := decide_eq_false hd
                  clear HR
                  go_wp2
                  go_ret
                  exact ⟨by rw [HF.out]; rfl, (Kept.refl _ _).alloc _⟩
              · have HF : Hid (r = false) := HR.out.trans (decide_eq_false fun h => hc h.2.1)
                have d : decide (0 ≤ c) = false := decide_eq_false hc
                have d8 : decide (c < 8) = true := decide_eq_true (by omega)
                clear HR
                go_wp2
                go_ret
                exact ⟨by rw [HF.out]; rfl, (Kept.refl _ _).alloc _⟩
            · have HF : Hid (r = false) := HR.out.trans (decide_eq_false fun h => n1 h.1)
              clear n1 HR
              go_wp2
              go_ret
              exact ⟨by rw [HF.out]; rfl, (Kept.refl _ _).alloc _⟩
          · have HF := Lib.hid (H4.out t1 t2 t3)
            have d1 : ((t : Int) == 1) = false := beq_eq_false_iff_ne.2 (by omega)
            have d2 : ((t : Int) == 2) = false := beq_eq_false_iff_ne.2 (by omega)
            have d3 : ((t : Int) == 3) = false := beq_eq_false_iff_ne.2 (by omega)
            clear t1 t2 t3 H1 H2 H3 H4 HI
            go_wp2
            go_ret
            exact ⟨by rw [HF.out]; rfl, (Kept.refl _ _).alloc _⟩
    · have HF := Lib.hid (H0.out (fun h => hi2 h.2))
      have e2 : decide (65535 < i) = true := decide_eq_true (by omega)
      clear hi2 H0 H1 H2 H3 H4
      go_wp2
      go_ret
      exact ⟨by rw [HF.out]; rfl, (Kept.refl _ _).alloc _⟩
  · have HF := Lib.hid (H0.out (fun h => hi h.1))
    have e1 : decide (i < 1) = true := decide_eq_true (by omega)
    clear hi H0 H1 H2 H3 H4
    go_wp2
    go_ret
    exact ⟨by rw [HF.out]; rfl, (Kept.refl _ _).alloc _⟩

/-- A number of 64 bits as it is laid. -/
def uN (x : Int) : Nat := (IntKind.u64.wrap x).toNat
theorem uN_eq (x : Int) : IntKind.u64.wrap x = ((uN x : Nat) : Int) := by unfold uN; rw [IntKind.wrap_u64]; omega
theorem uN_lt (x : Int) : uN x < 18446744073709551616 := by unfold uN; rw [IntKind.wrap_u64]; omega

/-- Numbers and how many bytes each has, as cells. -/
def fcells : List (Int × Nat) → List Value
  | [] => []
  | f :: r => .int .i64 f.1 :: .int .i64 (f.2 : Nat) :: fcells r
theorem fcells_at : ∀ (fs : List (Int × Nat)) (k : Nat) (f : Int × Nat), fs[k]? = some f → (fcells fs)[2 * k]? = some (.int .i64 f.1) ∧ (fcells fs)[2 * k + 1]? = some (.int .i64 (f.2 : Nat))
  | [], k, f, h => by simp at h
  | g :: r, 0, f, h => by simp at h; subst h; exact ⟨rfl, rfl⟩
  | g :: r, k + 1, f, h => by
    have := fcells_at r k f (by simpa using h)
    rw [show 2 * (k + 1) = 2 * k + 1 + 1 by omega]
    simpa [fcells] using this
def fOk (f : Int × Nat) : Bool := fitB (uN f.1) f.2
def layB (fs : List (Int × Nat)) : List Nat := fs.flatMap fun f => leB (uN f.1) f.2
def layL (fs : List (Int × Nat)) : List Nat := if fs.all fOk = true then layB fs else []
def layE (fs : List (Int × Nat)) : Int := if fs.all fOk = true then 0 else 2

theorem layB_take (fs : List (Int × Nat)) (k : Nat) (f : Int × Nat) (h : fs[k]? = some f) : layB (fs.take (k + 1)) = layB (fs.take k) ++ leB (uN f.1) f.2 := by
  unfold layB
  rw [List.take_add_one, h, List.flatMap_append]
  simp
theorem layB_len : ∀ (fs : List (Int × Nat)), (∀ f ∈ fs, isSz (f.2 : Nat)) → (layB fs).length ≤ 8 * fs.length
  | [], _ => by simp [layB]
  | f :: r, h => by
    have ih := layB_len r fun g hg => h g (by simp [hg])
    have h8 : f.2 ≤ 8 := by have := h f (by simp); unfold isSz at this; omega
    unfold layB at ih ⊢
    simp only [List.flatMap_cons, List.length_append, leB_length, List.length_cons]
    omega

set_option maxRecDepth 100000 in
set_option maxHeartbeats 1600000 in
theorem lay_any (g m : Nat) (fs : List (Int × Nat)) (w : World) (hb : Blk w g 86 (fcells fs)) (hm : fs.length = m) (hm8 : m ≤ 8) (hs : ∀ f ∈ fs, isSz (f.2 : Nat)) :
    Calls Try.prog 53 #[.slice (some ⟨g, 0, none⟩) m m] w (RetB w (layL fs) (layE fs)) := by
  obtain ⟨i0, hi, hz0, hz1, hz2⟩ := info_parts info_u8
  have HB := Lib.hid hb
  have HM := Lib.hid hm
  have HS := Lib.hid hs
  clear hb hm hs
  go_enter Try.func53, Try.ntmps53
  go_wp2_with fail
  go_loopw [4, 11] (fun o i wr => ∃ (k : Nat) (A : Option Addr) (c : Nat), k ≤ m ∧ i = .int .i64 k ∧ o = .slice A (layB (fs.take k)).length c ∧ Hid (OwnB wr 5 w.heap.size A c (layB (fs.take k))) ∧ Hid (New w wr) ∧ Hid ((fs.take k).all fOk = true)) (fun _ i _ => m - (intOf i).toNat)
  case atStart => exact ⟨0, none, 0, Nat.zero_le _, rfl, rfl, OwnB.nil _ _ _, Kept.refl _ _, rfl⟩
  case round =>
    obtain ⟨k, A, c, hk, rfl, rfl, HO, HN, HA⟩ := hrel
    by_cases hlt : k < m
    · obtain ⟨f, hf⟩ : ∃ f, fs[k]? = some f := ⟨_, List.getElem?_eq_getElem (by rw [HM.out]; exact hlt)⟩
      have hsz := Lib.hid (HS.out f (List.mem_of_getElem? hf))
      obtain ⟨c1, c2⟩ := fcells_at _ _ _ hf
      have d1 : wr.cell? ⟨g, k * 2, none⟩ = some (.int .i64 f.1) := by rw [(HB.out.kept HN.out id).cell, Nat.mul_comm]; exact c1
      have d2 : wr.cell? ⟨g, k * 2 + 1, none⟩ = some (.int .i64 (f.2 : Nat)) := by rw [(HB.out.kept HN.out id).cell, Nat.mul_comm]; exact c2
      have HF := Lib.hid hf
      have hu : IntKind.u64.wrap f.1 = ((uN f.1 : Nat) : Int) := uN_eq _
      clear hf c1 c2
      obtain ⟨x, s⟩ := f
      dsimp only at *
      have hul := uN_lt x
      generalize hq : uN x = u at *
      have HQ := Lib.hid hq
      clear hq
      have HFO : Hid (fOk (x, s) = fitB u s) := by show _ = _; unfold fOk; rw [HQ.out]
      go_wp2_with fail
      refine (eput_any u s _ hul).mono ?_
      rintro e w1 ⟨A1, c1, rfl, o1, k1⟩
      have K1 : Hid (New w w1) := (HN.out.alloc _).new k1
      have O1 := Lib.hid (o1.mono (B' := w.heap.size) (HN.out.alloc _).size)
      have O2 := Lib.hid (HO.out.new (((Kept.refl _ wr).alloc _).new k1))
      clear o1 k1 HO HN d1 d2 hu hul
      by_cases hfit : fitB u s = true
      · have E1 : putL u (s : Nat) = leB u s := by unfold putL; rw [Int.toNat_natCast, if_pos ⟨hsz.out, hfit⟩]
        have E2 : putE u (s : Nat) = 0 := by unfold putE; rw [Int.toNat_natCast, if_pos ⟨hsz.out, hfit⟩]
        rw [E1] at O1 ⊢
        rw [E2]
        clear E1 E2
        have HLEN : Hid ((layB (fs.take k)).length ≤ 8 * m) := by
          have := layB_len (fs.take k) fun f hf => HS.out f (List.mem_of_mem_take hf)
          rw [List.length_take, HM.out] at this
          show _ ≤ _
          omega
        have HA2 : Hid ((fs.take (k + 1)).all fOk = true) := by
          show _ = _
          rw [List.take_add_one, HF.out, List.all_append, HA.out]
          simp [HFO.out, hfit]
        have HT : Hid (layB (fs.take (k + 1)) = layB (fs.take k) ++ leB u s) := by
          show _ = _
          rw [layB_take _ _ _ HF.out]
          show _ ++ leB (uN x) s = _
          rw [HQ.out]
        have hsl : s ≤ 8 := by have := hsz.out; unfold isSz at this; omega
        have hll : (leB u s).length = s := leB_length _ _
        clear hfit HA HF HFO
        have HLN := Lib.hid hll
        clear hll
        go_wp2_with (at_builtin; refine wpList_append_bytes _ rfl _ _ _ rfl 5 i0 Try.underlying25 hi hz0 hz1 hz2 w.heap.size A _ c (layB (fs.take k)) rfl O2.out rfl A1 _ c1 (leB u s) rfl O1.out.bts ?_ K1.out.size ?_)
        · have h1 := HLEN.out
          have h2 := HLN.out
          omega
        intro A2 c2 w2 hown hg _
        have K2 : Hid (New w w2) := Kept.of_own K1.out O2.out hg
        have O3 : Hid (OwnB w2 5 w.heap.size A2 c2 (layB (fs.take (k + 1)))) := by rw [HT.out]; exact hown
        have HL2 : Hid ((layB (fs.take k)).length + (leB u s).length = (layB (fs.take (k + 1))).length) := by rw [HT.out, List.length_append]; rfl
        clear hown hg K1 O1 O2 HT HLEN
        go_wp2
        go_roundw
        case rel => exact ⟨k + 1, A2, c2, by omega, by go_num, by rw [HL2.out], O3, K2, HA2⟩
        case measure => simp [intOf]; omega
      · have E1 : putL u (s : Nat) = [] := by unfold putL; rw [Int.toNat_natCast, if_neg (fun h => hfit h.2)]
        have E2 : putE u (s : Nat) = 2 := by unfold putE; rw [Int.toNat_natCast, if_neg (fun h => hfit h.2)]
        rw [E1] at O1 ⊢
        rw [E2]
        have HAL : Hid (¬ fs.all fOk = true) := by
          intro h
          have := List.all_eq_true.1 h _ (List.mem_of_getElem? HF.out)
          rw [HFO.out] at this
          exact hfit this
        have EL : Hid (RetB w (layL fs) (layE fs) (.returned (.tuple #[.slice none 0 0, .int .i64 2])) w1) := by
          unfold layL layE
          rw [if_neg HAL.out, if_neg HAL.out]
          exact RetB.nil _ _ _ K1.out
        clear E1 E2 hfit HAL O1 O2 K1 HA HF HFO HS
        go_wp2
        go_ret2
        exact EL.out
    · have hk2 : k = m := by omega
      have EL : Hid (RetB w (layL fs) (layE fs) (.returned (.tuple #[.slice A (layB (fs.take k)).length c, .int .i64 0])) wr) := by
        have hall := HA.out
        have ho := HO.out
        rw [hk2, ← HM.out, List.take_length] at hall ho ⊢
        unfold layL layE
        rw [if_pos hall, if_pos hall]
        exact ⟨A, c, rfl, ho, HN.out⟩
      clear hk2 HA HO HN
      go_wp2
      go_ret2
      exact EL.out
end Go.Proofs.Ytbiihjdjbknibaa
