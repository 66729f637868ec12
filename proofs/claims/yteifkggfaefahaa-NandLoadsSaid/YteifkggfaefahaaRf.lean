/-
  The contract of the reference's Load.
-/
import Derived.Test.YteifkggfaefahaaRe
namespace Go.Proofs.Yteifkggfaefahaa
open Go.ChangeShapes Go.WideShapes Go.ChangeAt Go.RowKit

def RLoadP (w : World) (a b c d : Nat) (l : List Nat) (bl : List Int) (e : Ending) (w' : World) : Prop :=
  (allIn a bl → RefP w (loadS a b c d l bl) e w') ∧ (¬ allIn a bl → e = .returned (.tuple #[.pointer none, .int .i64 2]) ∧ New w w')
theorem RLoadP.no {w w' : World} {a b c d : Nat} {l : List Nat} {bl : List Int} {x : Int} (hx : x ∈ bl) (hn : ¬ (0 ≤ x ∧ x < a)) (hk : New w w') : RLoadP w a b c d l bl (.returned (.tuple #[.pointer none, .int .i64 2])) w' :=
  ⟨fun h => absurd (h x hx) hn, fun _ => ⟨rfl, hk⟩⟩

/-- The chip while its bytes are laid. -/
def ldS (a b c d : Nat) (l : List Nat) (k : Nat) : CSt := { newS a b c d with by_ := l.take k ++ List.replicate (a * b * c - k) 255 }
theorem ld_len {l : List Nat} {N k : Nat} (hl : l.length = N) (hk : k ≤ N) : (l.take k ++ List.replicate (N - k) 255).length = N := by simp; omega
theorem ld_step {l : List Nat} {N k x : Nat} (hl : l.length = N) (hk : k < N) (hx : l[k]? = some x) : (l.take k ++ List.replicate (N - k) 255).set k x = l.take (k + 1) ++ List.replicate (N - (k + 1)) 255 := by
  have h1 : (l.take k).length = k := by simp; omega
  have hkl : k < l.length := by omega
  rw [List.set_append_right _ _ (by omega), h1, Nat.sub_self, show N - k = (N - (k + 1)) + 1 from by omega, List.replicate_succ, List.set_cons_zero, List.take_succ_eq_append_getElem hkl, (List.getElem?_eq_some_iff.1 hx).2]
  simp
theorem ld_bytes {l : List Nat} (k m : Nat) (hb : IsBytes l) : IsBytes (l.take k ++ List.replicate m 255) := fun x hx => by
  rcases List.mem_append.1 hx with h | h
  · exact hb x (List.mem_of_mem_take h)
  · have := List.eq_of_mem_replicate h; omega

theorem rLoad_len (a b c d : Nat) (A : Option Addr) (n cA : Nat) (B : Option Addr) (m cB : Nat) (w : World) (h : geoOk a b c d) (hne : n ≠ a * b * c) (_hn : n ≤ 140737488351232) :
    Calls Try.prog 14 #[.agg #[.int .i64 a, .int .i64 b, .int .i64 c, .int .i64 d], .slice A n cA, .slice B m cB] w fun e w' => e = .returned (.tuple #[.pointer none, .int .i64 2]) ∧ New w w' := by
  have HG := Lib.hid h
  have hlen : (newS a b c d).by_.length = a * b * c := by simp [newS]
  have HL := Lib.hid hlen
  generalize hN : a * b * c = N at *
  have q1 : ((n : Int) == (N : Int)) = false := beq_eq_false_iff_ne.2 (by omega)
  have q2 : (n == N) = false := beq_eq_false_iff_ne.2 hne
  clear h hN hlen
  go_enter Try.func14, Try.ntmps14
  go_wp2_with fail
  refine (rNew_ok a b c d _ HG.out).mono ?_
  rintro e w2 ⟨g, Q, rfl, ⟨gc, gb, cc, cb, Ah, ch, hr⟩, hq, hk⟩
  have K2 : Hid (New w w2) := ((Kept.refl _ _).alloc _).new hk
  have c4 := hr.c4
  rw [HL.out] at c4
  have hgl := hr.chip.lt
  clear hr hq hk
  go_wp2
  go_ret2
  exact ⟨rfl, K2.out⟩

set_option maxRecDepth 100000 in
set_option maxHeartbeats 3200000 in
theorem rLoad_any (a b c d : Nat) (A : Option Addr) (n cA : Nat) (l : List Nat) (B : Option Addr) (m cB : Nat) (bl : List Int) (w : World) (h : geoOk a b c d) (hA : Bts w A n l) (hB : InsN w .i64 B m bl) (hm : m ≤ 9223372036854775807) (hlen : n = a * b * c) :
    Calls Try.prog 14 #[.agg #[.int .i64 a, .int .i64 b, .int .i64 c, .int .i64 d], .slice A n cA, .slice B m cB] w (RLoadP w a b c d l bl) := by
  have hb2 : a * b * c ≤ 524288 := prod_le (by have := h.1; omega) (by have := h.2.1; omega) (by have := h.2.2.1; omega)
  have HG := Lib.hid h
  have hlen2 : (newS a b c d).by_.length = a * b * c := by simp [newS]
  have HL := Lib.hid hlen2
  have HA := Lib.hid hA
  have HB := Lib.hid hB
  have ha64 := h.1.2
  have ha8 := h.1.1
  subst hlen
  have HS0 : Hid (newS a b c d = ldS a b c d l 0) := by simp [Hid, ldS, newS]
  have hldl : ∀ k, k ≤ a * b * c → (ldS a b c d l k).by_.length = a * b * c := fun k hk => ld_len hA.1 hk
  have HLdl := Lib.hid hldl
  have HStep : Hid (∀ k x, k < a * b * c → l[k]? = some x → (ldS a b c d l k).by_.set k x = (ldS a b c d l (k + 1)).by_) := fun k x hk hx => ld_step hA.1 hk hx
  have HEnd : Hid ((ldS a b c d l (a * b * c)).by_ = l) := by show l.take _ ++ List.replicate _ 255 = l; rw [Nat.sub_self, List.take_of_length_le (by rw [hA.1]; exact Nat.le_refl _)]; simp
  have HByt : Hid (∀ k, IsBytes (ldS a b c d l k).by_) := fun k => ld_bytes k _ hA.2.1
  generalize hN : a * b * c = N at *
  have HN := Lib.hid hN
  clear h hN hA hB hlen2 hldl
  obtain ⟨wA, hwA⟩ : ∃ wA, wA = w.alloc (.cells #[.int .i64 a, .int .i64 b, .int .i64 c, .int .i64 d] 23) := ⟨_, rfl⟩
  have NA0 : Hid (New w wA) := by rw [hwA]; exact (Kept.refl _ _).alloc _
  have BGA : Hid (Blk wA w.heap.size 23 [.int .i64 a, .int .i64 b, .int .i64 c, .int .i64 d]) := by rw [hwA]; exact Blk.made w _ _
  have HwA := Lib.hid hwA
  clear hwA
  go_enter Try.func14, Try.ntmps14
  go_wp2_with fail
  rw [← HwA.out]
  refine (rNew_ok a b c d _ HG.out).mono ?_
  rintro e w2 ⟨g, Q, rfl, ⟨gc, gb, cc, cb, Ah, ch, hr⟩, hq, hk⟩
  have NA2 := Lib.hid hk
  have HQ := Lib.hid hq
  rw [HS0.out] at hr
  have R2 := Lib.hid hr
  have c4 := hr.c4
  rw [HLdl.out 0 (Nat.zero_le _)] at c4
  have hgl := hr.chip.lt
  clear hr hq hk
  go_wp2
  go_loopw [10] (fun i wr => ∃ k : Nat, k ≤ N ∧ i = .int .i64 k ∧ Hid (RRep Q wr g gc gb cc cb Ah ch (ldS a b c d l k)) ∧ Hid (New wA wr)) (fun i _ => N - (intOf i).toNat)
  case atStart => exact ⟨0, Nat.zero_le _, rfl, R2, NA2⟩
  case round =>
    obtain ⟨k, hk, rfl, VR, VN⟩ := hrel
    clear R2 NA2 c4 hgl
    have c4 := VR.out.c4
    rw [HLdl.out k hk] at c4
    have hgl := VR.out.chip.lt
    by_cases hlt : k < N
    · obtain ⟨g3, o3, x, eA, hx, hxb, hcx⟩ := ((HA.out.new NA0.out).new VN.out).at_ hlt
      have EA := Lib.hid eA
      have HX := Lib.hid hx
      obtain ⟨junk, hj⟩ := VR.out.cells
      have HJ := Lib.hid hj
      have hlk := HLdl.out k hk
      have HLk := Lib.hid hlk
      obtain ⟨v, hcv⟩ : ∃ v, wr.cell? ⟨gc, k, none⟩ = some v := by
        rw [hj.cell, List.getElem?_append_left (by rw [List.length_map, hlk]; exact hlt)]
        exact ⟨_, List.getElem?_eq_getElem (by rw [List.length_map, hlk]; exact hlt)⟩
      have hfr := hj.free k
      have hnk : (k : Int) < (N : Int) := by omega
      clear hx hj hlk
      subst eA
      go_wp2
      go_region
      all_goals go_wp2
      all_goals go_roundw
      case rel =>
        have hks : Kept (· = gc) wr (wr.setCell ⟨gc, k, none⟩ (.int .u8 (x : Int))) := Kept.set1 wr gc k _
        have hb1 := HJ.out.put k (.int .u8 (x : Int))
        rw [List.set_append_left _ _ (by rw [List.length_map, HLk.out]; exact hlt), set_any _ k x (.int .u8 (x : Int)) rfl, HStep.out k x hlt HX.out] at hb1
        have hr2 := VR.out.setCells hks (ldS a b c d l (k + 1)).by_ (by rw [HLdl.out (k + 1) hlt, HLk.out]) (HByt.out (k + 1)) junk hb1
        refine ⟨k + 1, by omega, by go_num, hr2.new ((Kept.refl _ _).drew), (VN.out.setCell (p := ⟨gc, k, none⟩) (fun hh => by have := HQ.out gc VR.out.qc; simp at hh; omega) _).drew⟩
      case measure => simp [intOf]; omega
    · obtain rfl : k = N := by omega
      have R3 : Hid (RRep Q wr g gc gb cc cb Ah ch { loadS a b c d l [] with bad := marks a (bl.take 0) }) := by
        have := VR.out
        have e : ldS a b c d l k = { loadS a b c d l [] with bad := marks a (bl.take 0) } := by
          have e2 := HEnd.out
          unfold ldS at e2 ⊢
          simp only at e2
          rw [e2]
          rfl
        rw [e] at this
        exact this
      have HM : Hid (New wA wr) := VN
      clear VR c4 VN hgl
      go_wp2
      go_loopw [11] (fun i wr => ∃ j : Nat, j ≤ m ∧ i = .int .i64 j ∧ Hid (RRep Q wr g gc gb cc cb Ah ch { loadS a b c d l [] with bad := marks a (bl.take j) }) ∧ Hid (New wA wr) ∧ Hid (∀ i x, i < j → bl[i]? = some x → 0 ≤ x ∧ x < a)) (fun i _ => m - (intOf i).toNat)
      case atStart => exact ⟨0, Nat.zero_le _, rfl, R3, HM, fun i x hi => absurd hi (by omega)⟩
      case round =>
        obtain ⟨j, hj, rfl, VR, VN, VA⟩ := hrel
        clear R3 HM
        have c5 := VR.out.c5
        have hml := marks_len a (bl.take j)
        have HML := Lib.hid hml
        rw [show ({ loadS a b c d l [] with bad := marks a (bl.take j) } : CSt).bad.length = a from hml] at c5
        have hgl := VR.out.chip.lt
        have g0 : ∀ wx, New wA wx → wx.cell? ⟨w.heap.size, 0, none⟩ = some (.int .i64 a) := fun wx hx => (BGA.out.new hx).cell 0
        have d0 := g0 _ VN.out
        have hgw : w.heap.size < _ := (BGA.out.new VN.out).lt
        clear hml g0
        by_cases hlt2 : j < m
        · obtain ⟨gi, oi, x, eB, hx, hwf, hcx⟩ := ((HB.out.new NA0.out).new VN.out).at_ hlt2
          have EB := Lib.hid eB
          have HX := Lib.hid hx
          have hji : (j : Int) < (m : Int) := by omega
          clear hx hwf
          subst eB
          by_cases hneg : x < 0
          · have hd1 : decide (x < 0) = true := decide_eq_true hneg
            go_wp2
            go_quiet (fail)
            go_wp2
            go_ret2
            have K9 : New w (wr.drewN nq) := (NA0.out.new VN.out).drewN nq
            exact RLoadP.no (List.mem_of_getElem? HX.out) (by omega) K9
          · have hd1 : decide (x < 0) = false := decide_eq_false hneg
            by_cases hge : (a : Int) ≤ x
            · have hd2 : decide ((a : Int) ≤ x) = true := decide_eq_true hge
              go_wp2
              go_quiet (fail)
              go_wp2
              go_ret2
              have K9 : New w (wr.drewN nq) := (NA0.out.new VN.out).drewN nq
              exact RLoadP.no (List.mem_of_getElem? HX.out) (by omega) K9
            · have hd2 : decide ((a : Int) ≤ x) = false := decide_eq_false hge
              obtain ⟨q, rfl, hq⟩ := nat_of (b := x) (n := a) (by omega)
              obtain ⟨junk, hjk⟩ := VR.out.bads
              have HJ := Lib.hid hjk
              obtain ⟨v, hcv⟩ : ∃ v, wr.cell? ⟨gb, q, none⟩ = some v := by
                rw [hjk.cell, List.getElem?_append_left (by rw [List.length_map]; show q < (marks a (bl.take j)).length; rw [HML.out]; exact hq)]
                exact ⟨_, List.getElem?_eq_getElem (by rw [List.length_map]; show q < (marks a (bl.take j)).length; rw [HML.out]; exact hq)⟩
              have hfr := hjk.free q
              have hqa : (q : Int) < (a : Int) := by omega
              clear hjk
              go_wp2
              go_quiet (fail)
              go_wp2
              go_region
              all_goals go_wp2
              all_goals go_roundw
              case rel =>
                have hd := VR.out.drewN (nq + 1)
                have hks : Kept (· = gb) (wr.drewN (nq + 1)) ((wr.drewN (nq + 1)).setCell ⟨gb, q, none⟩ (.bool true)) := Kept.set1 _ gb q _
                have hb1 := (HJ.out.drewN (nq + 1)).put q (.bool true)
                have e := marks_step a bl j (q : Int) HX.out
                rw [Int.toNat_natCast] at e
                rw [List.set_append_left _ _ (by rw [List.length_map, HML.out]; exact hq), set_bool, e] at hb1
                have hr2 := hd.setBads hks (marks a (bl.take (j + 1))) (by show (marks a _).length = (marks a _).length; rw [marks_len, marks_len]) junk hb1
                refine ⟨j + 1, by omega, by go_num, hr2, (VN.out.drewN (nq + 1)).setCell (p := ⟨gb, q, none⟩) (fun hh => by have := HQ.out gb VR.out.qb; simp at hh; omega) _, fun i y hi hy => ?_⟩
                rcases Nat.lt_or_ge i j with hi2 | hi2
                · exact VA.out i y hi2 hy
                · obtain rfl : i = j := by omega
                  have : (q : Int) = y := by have := HX.out; rw [hy] at this; injection this with this; exact this.symm
                  omega
              case measure => simp [intOf]; omega
        · obtain rfl : j = m := by omega
          have hall : Hid (allIn a bl) := fun x hx => by
            obtain ⟨i, hi⟩ := List.getElem?_of_mem hx
            exact VA.out i x (by rw [← HB.out.1]; exact (List.getElem?_eq_some_iff.1 hi).1) hi
          have R9 : Hid (RRep Q wr g gc gb cc cb Ah ch (loadS a b c d l bl)) := by
            have := VR.out
            rw [List.take_of_length_le (by rw [HB.out.1]; exact Nat.le_refl _)] at this
            exact this
          have K9 : Hid (New w wr) := NA0.out.new VN.out
          have HQ9 : Hid (∀ b, Q b → w.heap.size ≤ b) := fun b hb => Nat.le_trans NA0.out.size (HQ.out b hb)
          clear VR c5 d0
          go_wp2
          go_ret2
          exact ⟨fun _ => ⟨g, Q, rfl, ⟨_, _, _, _, _, _, R9.out⟩, HQ9.out, K9.out⟩, fun hn => absurd hall.out hn⟩
end Go.Proofs.Yteifkggfaefahaa
