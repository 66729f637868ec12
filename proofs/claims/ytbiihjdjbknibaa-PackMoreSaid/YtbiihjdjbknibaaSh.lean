/-
  The contract of layer 2's Get: what bytes say.
-/
import Derived.Test.YtbiihjdjbknibaaSg
namespace Go.Proofs.Ytbiihjdjbknibaa
set_option maxRecDepth 100000
open Go.ChangeShapes Go.WideShapes Go.ChangeAt Go.RowKit

theorem quietS {P : Program} {f : FuncId} {args : Array Value} {w : World} {n : Nat} {v : Value} (h : Calls P f args (w.drewN n) fun e w' => e = .returned v ∧ w.drewN n = w') :
    Calls P f args (w.drewN n) fun e w'' => e = .returned v ∧ ∃ m, w'' = w.drewN m := Calls.quiet_of_same (h.mono fun _ _ ⟨h1, h2⟩ => ⟨h1, h2.symm⟩)

theorem front_v (A : Option Addr) (n c : Nat) (l : List Nat) (w : World) (hb : Bts w A n l) (hn : 5 ≤ n) (hn2 : n ≤ 256) (hc : n ≤ c) (hc2 : c ≤ maxLen) (v0 v1 v2 : Nat) (h : leV (l.take 2) = v0 ∧ l.getD 2 0 = v1 ∧ lenF l = v2) :
    Calls Try.prog 33 #[.slice A n c] w fun e w' => e = .returned (.agg #[.int .i64 v0, .int .u8 v1, .int .i64 v2]) ∧ New w w' := by
  obtain ⟨rfl, rfl, rfl⟩ := h
  exact front_any A n c l w hb hn hn2 hc hc2

theorem sNoughts_v (A : Option Addr) (n c : Nat) (l : List Nat) (w : World) (ha : Bts w A n l) (hn : n ≤ 140737488355328) (no : Nat) (h : noughts l = no) :
    Calls Try.prog 34 #[.slice A n c] w fun e w' => e = .returned (.int .i64 no) ∧ w = w' := by subst h; exact sNoughts_any A n c l w ha hn

theorem sIsKind_v (k : Nat) (w : World) (b : Bool) (h : decide (isKd k) = b) :
    Calls Try.prog 35 #[.int .u8 k] w fun e w' => e = .returned (.bool b) ∧ w = w' := by subst h; exact sIsKind_any k w
theorem sBody_v (s z : Int) (w : World) (h : pgBody s = z) :
    Calls Try.prog 36 #[.int .i64 s] w fun e w' => e = .returned (.int .i64 z) ∧ w = w' := by subst h; exact sBody_any s w
theorem sBlank_v (A : Option Addr) (n c : Nat) (l : List Nat) (w : World) (ha : Bts w A n l) (hn : n ≤ maxLen) (b : Bool) (h : blank l = b) :
    Calls Try.prog 32 #[.slice A n c] w fun e w' => e = .returned (.bool b) ∧ w = w' := by subst h; exact sBlank_any A n c l w ha hn

def GetP (w : World) (l : List Nat) (e : Ending) (w' : World) : Prop :=
  ∃ A c, e = .returned (.tuple #[.int .u8 (sGetK l : Nat), .slice A (sGetL l).length c, .int .i64 (sGetE l)]) ∧ OwnB w' 5 w.heap.size A c (sGetL l) ∧ New w w'

theorem GetP.no {w w' : World} {l : List Nat} {E : Int} (h : sGetE l = E) (h0 : E ≠ 0) (hk : New w w') : GetP w l (.returned (.tuple #[.int .u8 0, .slice none 0 0, .int .i64 E])) w' := by
  have e1 : sGetK l = 0 := by unfold sGetK; rw [if_neg (by rw [h]; exact h0)]
  have e2 : sGetL l = [] := by unfold sGetL; rw [if_neg (by rw [h]; exact h0)]
  unfold GetP
  rw [e1, e2, h]
  exact ⟨none, 0, rfl, OwnB.nil _ _ _, hk⟩

theorem GetP.ok {w w4 w5 : World} {l : List Nat} {v1 v2 c : Nat} {A : Option Addr} (hE : sGetE l = 0) (hV : l.getD 2 0 = v1 ∧ lenF l = v2) (hk : New w w4) (ho : OwnB w5 5 w4.heap.size A c ((l.drop 5).take v2)) (hk5 : New w4 w5) (hlen : ((l.drop 5).take v2).length = v2) :
    GetP w l (.returned (.tuple #[.int .u8 v1, .slice A v2 c, .int .i64 0])) w5 := by
  obtain ⟨rfl, rfl⟩ := hV
  have e1 : sGetK l = l.getD 2 0 := by unfold sGetK; rw [if_pos hE]
  have e2 : sGetL l = (l.drop 5).take (lenF l) := by unfold sGetL; rw [if_pos hE]
  unfold GetP
  rw [e1, e2, hE, hlen]
  exact ⟨A, c, rfl, ho.mono hk.size, hk.new hk5⟩

theorem sGet_arg (A : Option Addr) (n c : Nat) (l : List Nat) (w : World) (hl : l.length = n) (_hn : n ≤ maxLen) (h : ¬ isPg (n : Int)) :
    Calls Try.prog 16 #[.slice A n c] w (GetP w l) := by
  have e1 : decide (isPg (n : Int)) = false := decide_eq_false h
  have HE := Lib.hid (show sGetE l = 2 from by unfold sGetE; rw [hl, if_neg h])
  unfold maxLen at _hn
  clear h hl
  go_enter Try.func16, Try.ntmps16
  go_wp2_with (go_at_call 31; refine (sIsSize_any _ _).mono ?_; rintro e w' ⟨rfl, rfl⟩; rw [e1])
  go_ret3
  exact GetP.no HE.out (by omega) (Kept.refl _ _)

theorem sGet_blank (A : Option Addr) (n c : Nat) (l : List Nat) (w : World) (hb : Bts w A n l) (h : isPg (n : Int)) (hbl : blank l = true) :
    Calls Try.prog 16 #[.slice A n c] w (GetP w l) := by
  have e1 : decide (isPg (n : Int)) = true := decide_eq_true h
  have HE := Lib.hid (show sGetE l = 6 from by unfold sGetE; rw [hb.1, if_pos h, if_pos hbl])
  have Hb := Lib.hid hb
  have hn : n ≤ 256 := by unfold isPg at h; omega
  clear h hb
  go_enter Try.func16, Try.ntmps16
  go_wp2_with (first
    | (go_at_call 31; refine (sIsSize_any _ _).mono ?_; rintro e w' ⟨rfl, rfl⟩; rw [e1])
    | (go_at_call 32; refine (sBlank_any _ _ _ _ _ Hb.out (by unfold maxLen; omega)).mono ?_; rintro e w' ⟨rfl, rfl⟩; rw [hbl]))
  go_ret3
  exact GetP.no HE.out (by omega) (Kept.refl _ _)

set_option maxHeartbeats 800000 in
theorem sGet_rest (A : Option Addr) (n c : Nat) (l : List Nat) (w : World) (hb : Bts w A n l) (h : isPg (n : Int)) (hbl : blank l = false) (hc : n ≤ c) (hc2 : c ≤ 9223372036854775807) :
    Calls Try.prog 16 #[.slice A n c] w (GetP w l) := by
  have e1 : decide (isPg (n : Int)) = true := decide_eq_true h
  have hE : sGetE l = if leV (l.take 2) = noughts (l.drop 2) then (if isForm l then 0 else 5) else 7 := by unfold sGetE; rw [hb.1, if_pos h, hbl]; simp
  have hn : n ≤ 256 := by unfold isPg at h; omega
  have hn1 : 128 ≤ n := by unfold isPg at h; omega
  have e3 : pgBody (n : Int) = (n : Int) - 5 := by unfold pgBody; rw [if_pos h]
  obtain ⟨_, _, _, m4, m5, m6⟩ := front_math l (by rw [hb.1]; omega) hb.2.1
  have Hb := Lib.hid hb
  have hF : isForm l ↔ isKd (l.getD 2 0) ∧ 5 + lenF l ≤ n ∧ blank (l.drop (5 + lenF l)) = true := by unfold isForm; rw [hb.1]
  generalize hv0 : leV (l.take 2) = v0 at *
  generalize hv1 : l.getD 2 0 = v1 at *
  generalize hv2 : lenF l = v2 at *
  have HV := Lib.hid (And.intro hv0 (And.intro hv1 hv2))
  generalize hno : noughts (l.drop 2) = no at *
  have HNo := Lib.hid hno
  have HE := Lib.hid hE
  have HF := Lib.hid hF
  clear hv0 hv1 hv2 hno hF
  obtain ⟨g0, o0, rfl, _⟩ := hb.2.2 (by omega)
  have hd2 : Bts w (some ⟨g0, o0 + 2, none⟩) (n - 2) (l.drop 2) := by
    have := hb.cut (k := 2) (c := c) (by omega) hc
    rw [if_neg (by omega)] at this
    simpa [Addr.add_lit] using this
  have HD2 := Lib.hid hd2
  have hc3 : ¬ c = 2 := by omega
  clear h hb hE hd2
  go_enter Try.func16, Try.ntmps16
  go_wp2_with (first
    | (go_at_call 31; refine (sIsSize_any _ _).mono ?_; rintro e w' ⟨rfl, rfl⟩; rw [e1])
    | (go_at_call 32; refine (sBlank_any _ _ _ _ _ Hb.out (by unfold maxLen; omega)).mono ?_; rintro e w' ⟨rfl, rfl⟩; rw [hbl]))
  refine (front_v _ n c l _ Hb.out (by omega) hn hc (by unfold maxLen; omega) v0 v1 v2 HV.out).mono ?_
  rintro e w1 ⟨rfl, hk⟩
  have K1 := Lib.hid hk
  clear hk
  go_wp2
  have b2 : Blk (w1.alloc (.cells #[.int .i64 v0, .int .u8 v1, .int .i64 v2] 63)) w1.heap.size 63 [.int .i64 v0, .int .u8 v1, .int .i64 v2] := Blk.made w1 _ _
  have k2 : New w (w1.alloc (.cells #[.int .i64 v0, .int .u8 v1, .int .i64 v2] 63)) := K1.out.alloc _
  generalize w1.alloc (.cells #[.int .i64 v0, .int .u8 v1, .int .i64 v2] 63) = w2 at *
  have K2 := Lib.hid k2
  have D2 : Hid (Bts w2 (some ⟨g0, o0 + 2, none⟩) (n - 2) (l.drop 2)) := HD2.out.new k2
  have L2 : Hid (Bts w2 (some ⟨g0, o0, none⟩) n l) := Hb.out.new k2
  have c0 := b2.cell 0
  have c1 := b2.cell 1
  have c2 := b2.cell 2
  simp only [List.getElem?_cons_zero, List.getElem?_cons_succ] at c0 c1 c2
  generalize w1.heap.size = gf at *
  clear b2 k2 K1 HD2 Hb
  have i1 : (2 : Int) ≤ (n : Int) := by omega
  have i2 : (n : Int) ≤ (c : Int) := by omega
  go_quiet ((go_at_call 34; exact quietS (sNoughts_v _ (n - 2) _ (l.drop 2) _ (D2.out.drewN _) (by omega) no HNo.out)))
  by_cases ht : v0 = no
  · have HT := Lib.hid ht
    have HE5 : Hid (¬ isForm l → sGetE l = 5) := fun h => by rw [HE.out, if_pos HT.out, if_neg h]
    have HE0 : Hid (isForm l → sGetE l = 0) := fun h => by rw [HE.out, if_pos HT.out, if_pos h]
    go_wp2
    have c1' : (w2.drewN nq).cell? ⟨gf, 1, none⟩ = some (.int .u8 v1) := c1
    have c2' : (w2.drewN nq).cell? ⟨gf, 2, none⟩ = some (.int .i64 v2) := c2
    have K3 : Hid (New w (w2.drewN nq)) := K2.out.drewN nq
    have L3 : Hid (Bts (w2.drewN nq) (some ⟨g0, o0, none⟩) n l) := L2.out.drewN nq
    generalize w2.drewN nq = w3 at *
    clear c0 c1 c2 K2 L2 D2 HE HNo HT ht
    by_cases hkd : isKd v1
    · have ek : decide (isKd v1) = true := decide_eq_true hkd
      go_quiet ((first
        | (go_at_call 35; exact quietS (sIsKind_v v1 _ true ek))
        | (go_at_call 36; exact quietS (sBody_v _ ((n : Int) - 5) _ e3))))
      by_cases hle : 5 + v2 ≤ n
      · have c1'' : (w3.drewN nq).cell? ⟨gf, 1, none⟩ = some (.int .u8 v1) := c1'
        have c2'' : (w3.drewN nq).cell? ⟨gf, 2, none⟩ = some (.int .i64 v2) := c2'
        have K4 : Hid (New w (w3.drewN nq)) := K3.out.drewN nq
        have L4 : Hid (Bts (w3.drewN nq) (some ⟨g0, o0, none⟩) n l) := L3.out.drewN nq
        generalize w3.drewN nq = w4 at *
        have B5 : Hid (Bts w4 (some ⟨g0, o0 + 5, none⟩) v2 ((l.drop 5).take v2)) := by
          have := (L4.out.cut (k := 5) (c := c) (by omega) hc).take (k := v2) (by omega)
          rw [if_neg (by omega)] at this
          simpa [Addr.add_lit, Hid] using this
        have cut := L4.out.cut (k := 5 + v2) (c := c) hle hc
        generalize hbb : blank (l.drop (5 + v2)) = bb
        have HBB := Lib.hid hbb
        have hc5 : ¬ c = 5 := by omega
        clear c1' c2' K3 L3 L4 hbb
        have HCut := Lib.hid cut
        clear cut
        cases bb
        · go_wp2_with fail
          all_goals refine (sBlank_v _ (n - (5 + v2)) _ (l.drop (5 + v2)) _ (by first | (have := HCut.out; rw [if_pos (by omega)] at this; exact this) | (have := HCut.out; rw [if_neg (by omega)] at this; simpa [Addr.add_lit] using this)) (by unfold maxLen; omega) false HBB.out).mono ?_
          all_goals rintro e w' ⟨rfl, rfl⟩
          all_goals go_wp2
          all_goals go_ret3
          all_goals exact GetP.no (HE5.out fun h => by have := (HF.out.1 h).2.2; rw [HBB.out] at this; cases this) (by omega) K4.out
        · have HLN : Hid (((l.drop 5).take v2).length = v2) := B5.out.1
          have HOk := Lib.hid (HE0.out (HF.out.2 ⟨hkd, hle, HBB.out⟩))
          go_wp2_with fail
          all_goals refine (sBlank_v _ (n - (5 + v2)) _ (l.drop (5 + v2)) _ (by first | (have := HCut.out; rw [if_pos (by omega)] at this; exact this) | (have := HCut.out; rw [if_neg (by omega)] at this; simpa [Addr.add_lit] using this)) (by unfold maxLen; omega) true HBB.out).mono ?_
          all_goals rintro e w' ⟨rfl, rfl⟩
          all_goals clear HCut
          all_goals go_wp2
          all_goals go_region_with (go_at_call 37; refine (clone_any _ v2 _ ((l.drop 5).take v2) _ B5.out.drew (by omega) (by intro h; cases h)).mono ?_; rintro e w5 ⟨A5, c5, rfl, hown, hk⟩; rw [HLN.out]; have c1w := hk.cell (show w4.drew.cell? ⟨gf, 1, none⟩ = _ from c1'') (fun f => f); have HO5 := Lib.hid hown; have HK5 := Lib.hid hk; clear hown hk)
          all_goals go_simp
          all_goals go_wp2
          all_goals go_ret3
          all_goals exact GetP.ok HOk.out HV.out.2 K4.out.drew HO5.out HK5.out HLN.out
      · go_wp2
        go_ret3
        exact GetP.no (HE5.out fun h => hle (HF.out.1 h).2.1) (by omega) (K3.out.drewN _)
    · have ek : decide (isKd v1) = false := decide_eq_false hkd
      go_quiet ((first
        | (go_at_call 35; exact quietS (sIsKind_v v1 _ false ek))))
      go_wp2
      go_ret3
      exact GetP.no (HE5.out fun h => hkd (HF.out.1 h).1) (by omega) (K3.out.drewN _)
  · have ht2 : ((v0 : Int) == (no : Int)) = false := beq_eq_false_iff_ne.2 (by omega)
    go_wp2
    go_ret3
    exact GetP.no (by rw [HE.out, if_neg ht]) (by omega) (K2.out.drewN _)

theorem sGet_any (A : Option Addr) (n c : Nat) (l : List Nat) (w : World) (hb : Bts w A n l) (hc : n ≤ c) (hc2 : c ≤ 9223372036854775807) :
    Calls Try.prog 16 #[.slice A n c] w (GetP w l) := by
  by_cases h : isPg (n : Int)
  · by_cases hbl : blank l = true
    · exact sGet_blank A n c l w hb h hbl
    · exact sGet_rest A n c l w hb h (by simpa using hbl) hc hc2
  · exact sGet_arg A n c l w hb.1 (by unfold maxLen; omega) h
end Go.Proofs.Ytbiihjdjbknibaa
