/-
  The contract of the reference's Get.
-/
import Derived.Test.YtgfdiboaiifdnaaGreatSl
namespace Go.Proofs.YtgfdiboaiifdnaaGreat
open Go.ChangeShapes Go.WideShapes Go.ChangeAt Go.RowKit

theorem rGet_arg (A : Option Addr) (n c : Nat) (l : List Nat) (w : World) (hl : l.length = n) (_hn : n ≤ maxLen) (h : ¬ isPg (n : Int)) :
    Calls Tryz.prog 74 #[.slice A n c] w (GetP w l) := by
  have e1 : decide (isPg (n : Int)) = false := decide_eq_false h
  have HE := Lib.hid (show sGetE l = 2 from by unfold sGetE; rw [hl, if_neg h])
  unfold maxLen at _hn
  clear h hl
  go_enter Tryz.func74, Tryz.ntmps74
  go_wp2_with (go_at_call 89; refine (rSize_any _ _).mono ?_; rintro e w' ⟨rfl, rfl⟩; rw [e1])
  go_ret3
  exact GetP.no HE.out (by omega) (Kept.refl _ _)

theorem rGet_blank (A : Option Addr) (n c : Nat) (l : List Nat) (w : World) (hb : Bts w A n l) (h : isPg (n : Int)) (hbl : blank l = true) :
    Calls Tryz.prog 74 #[.slice A n c] w (GetP w l) := by
  have e1 : decide (isPg (n : Int)) = true := decide_eq_true h
  have HE := Lib.hid (show sGetE l = 6 from by unfold sGetE; rw [hb.1, if_pos h, if_pos hbl])
  have Hb := Lib.hid hb
  have hn : n ≤ 256 := by unfold isPg at h; omega
  clear h hb
  go_enter Tryz.func74, Tryz.ntmps74
  go_wp2_with (first
    | (go_at_call 89; refine (rSize_any _ _).mono ?_; rintro e w' ⟨rfl, rfl⟩; rw [e1])
    | (go_at_call 90; refine (rBlank_any _ _ _ _ _ Hb.out (by omega)).mono ?_; rintro e w' ⟨rfl, rfl⟩; rw [hbl]))
  go_ret3
  exact GetP.no HE.out (by omega) (Kept.refl _ _)

theorem five (l : List Nat) (h : 5 ≤ l.length) (hb : IsBytes l) : ∃ a0 a1 a2 a3 a4 : Nat, (l[0]? = some a0 ∧ l[1]? = some a1 ∧ l[2]? = some a2 ∧ l[3]? = some a3 ∧ l[4]? = some a4) ∧ (a0 < 256 ∧ a1 < 256 ∧ a2 < 256 ∧ a3 < 256 ∧ a4 < 256) ∧
    leV (l.take 2) = a0 + 256 * a1 ∧ l.getD 2 0 = a2 ∧ lenF l = a3 + 256 * a4 := by
  match l, h with
  | a :: b :: c :: d :: e :: r, _ =>
    refine ⟨a, b, c, d, e, ⟨rfl, rfl, rfl, rfl, rfl⟩, ⟨hb a (by simp), hb b (by simp), hb c (by simp), hb d (by simp), hb e (by simp)⟩, ?_, rfl, ?_⟩
    · simp [leV]
    · simp [leV, lenF]

/-- append onto a row of the call's own as one step of a region that draws. -/
theorem step_append_bytes {P : Program} {w : World} {ops : Array Oper} {o : Oper} {a : Act} {K : Act → World → Prop} {Q : Exit → Act → World → Prop} {E : Prop} (hgd : o.guard = none) (s x : Operand) (t : TypeId)
    (ho : o.op = .call { callee := .builtin .append, args := #[s, x], argTypes := #[t, t] })
    (e : TypeId) (i : TypeInfo) (ht : P.underlying t = some (.slice e)) (hi : P.info? e = some i) (hz : i.zero = some (.int .u8 0)) (hs : i.size = 1) (hby : i.bytes = 1)
    (B : Nat) (A : Option Addr) (n c : Nat) (l : List Nat) (hsv : a.eval s = .slice A n c) (hown : OwnB w e B A c l) (hn : n = l.length)
    (A' : Option Addr) (m c' : Nat) (k : List Nat) (hx : a.eval x = .slice A' m c') (hr : Bts w A' m k)
    (hbytes : l.length + m ≤ 140737488355328) (hbase : B ≤ w.heap.size)
    (h : ∀ A2 c2 w', OwnB w' e B A2 c2 (l ++ k) → w.grownBy w' (A.map (·.block)) → K (a.put o.dst (.slice A2 (n + m) c2)) w') :
    if Region.wanted o (yielded ops a.tmps) = true then Oper.wp P o a w K Q else E := by
  have hw : Region.wanted o (yielded ops a.tmps) = true := by simp [Region.wanted, hgd]
  rw [if_pos hw]
  obtain ⟨A2, c2, w', hrun, h2, h3, h4⟩ := run_append_bytes (P := P) w t o.type e i ht hi hz hs hby B A c l hown A' m c' k hr hbytes hbase n hn
  unfold Oper.wp
  simp [execOp, ho, resolve, invoke, builtin, hsv, hx, hrun, Result.andThen]
  exact h A2 c2 w' h2 h3

theorem rSize_v (s : Int) (w : World) (b : Bool) (h : decide (isPg s) = b) :
    Calls Tryz.prog 89 #[.int .i64 s] w fun e w' => e = .returned (.bool b) ∧ w = w' := by subst h; exact rSize_any s w

set_option maxRecDepth 100000 in
set_option maxHeartbeats 1000000 in
theorem rGet_rest (A : Option Addr) (n c : Nat) (l : List Nat) (w : World) (hb : Bts w A n l) (h : isPg (n : Int)) (hbl : blank l = false) (hc : n ≤ c) (_hc2 : c ≤ 9223372036854775807) :
    Calls Tryz.prog 74 #[.slice A n c] w (GetP w l) := by
  have e1 : decide (isPg (n : Int)) = true := decide_eq_true h
  have hE : sGetE l = if leV (l.take 2) = noughts (l.drop 2) then (if isForm l then 0 else 5) else 7 := by unfold sGetE; rw [hb.1, if_pos h, hbl]; simp
  have hn : n ≤ 256 := by unfold isPg at h; omega
  have hn1 : 128 ≤ n := by unfold isPg at h; omega
  obtain ⟨i0, hi, hz0, hz1, hz2⟩ := info_parts info_u8
  have hF : isForm l ↔ isKd (l.getD 2 0) ∧ 5 + lenF l ≤ n ∧ blank (l.drop (5 + lenF l)) = true := by unfold isForm; rw [hb.1]
  obtain ⟨a0, a1, a2, a3, a4, ⟨g0, g1, g2, g3, g4⟩, ⟨q0, q1, q2, q3, q4⟩, v0, v1, v2⟩ := five l (by rw [hb.1]; omega) hb.2.1
  rw [v0] at hE
  obtain ⟨z, hz⟩ : ∃ z, z = a3 + 256 * a4 := ⟨_, rfl⟩
  rw [← hz] at v2
  have HV := Lib.hid (And.intro v1 v2)
  rw [v1, v2] at hF
  have hzi : (a3 : Int) + 256 * (a4 : Int) = (z : Int) := by omega
  have hzb : z < 65536 := by omega
  generalize hno : noughts (l.drop 2) = no at hE
  have HNo := Lib.hid hno
  have HE := Lib.hid hE
  have HF := Lib.hid hF
  have Hb := Lib.hid hb
  obtain ⟨gb, ob, rfl, hcell⟩ := hb.2.2 (by omega)
  have c0 : w.cell? ⟨gb, ob, none⟩ = some (.int .u8 (a0 : Int)) := by simpa using hcell 0 a0 g0
  have c1 := hcell 1 a1 g1
  have c2 := hcell 2 a2 g2
  have c3 := hcell 3 a3 g3
  have c4 := hcell 4 a4 g4
  have hd2 : Bts w (some ⟨gb, ob + 2, none⟩) (n - 2) (l.drop 2) := by
    have := hb.cut (k := 2) (c := c) (by omega) hc
    rw [if_neg (by omega)] at this
    simpa [Addr.add_lit] using this
  have HD2 := Lib.hid hd2
  have hc3 : ¬ c = 2 := by omega
  have i1 : (2 : Int) ≤ (n : Int) := by omega
  have i2 : (n : Int) ≤ (c : Int) := by omega
  have j0 : (0 : Int) < (n : Int) := by omega
  have j1 : (1 : Int) < (n : Int) := by omega
  have j2 : (2 : Int) < (n : Int) := by omega
  have j3 : (3 : Int) < (n : Int) := by omega
  have j4 : (4 : Int) < (n : Int) := by omega
  clear h hb hE hd2 hF hno v0 v1 v2 g0 g1 g2 g3 g4 hcell hz
  go_enter Tryz.func74, Tryz.ntmps74
  go_wp2_with fail
  refine (rSize_v _ _ true e1).mono ?_
  rintro e w' ⟨rfl, rfl⟩
  go_wp2_with fail
  refine (rBlank_v _ _ _ l _ Hb.out (by omega) false hbl).mono ?_
  rintro e w' ⟨rfl, rfl⟩
  go_wp2
  go_quiet ((go_at_call 91; exact quietS (rNoughts_v _ (n - 2) _ (l.drop 2) _ (HD2.out.drewN _) (by omega) no HNo.out)))
  have K3 : Hid (New w (w.drewN nq)) := (Kept.refl _ _).drewN nq
  have L3 : Hid (Bts (w.drewN nq) (some ⟨gb, ob, none⟩) n l) := Hb.out.drewN nq
  have d2 : (w.drewN nq).cell? ⟨gb, ob + 2, none⟩ = some (.int .u8 a2) := c2
  have d3 : (w.drewN nq).cell? ⟨gb, ob + 3, none⟩ = some (.int .u8 a3) := c3
  have d4 : (w.drewN nq).cell? ⟨gb, ob + 4, none⟩ = some (.int .u8 a4) := c4
  generalize w.drewN nq = w3 at *
  clear c0 c1 c2 c3 c4 HD2 Hb HNo
  by_cases ht : a0 + 256 * a1 = no
  · have HE5 : Hid (¬ isForm l → sGetE l = 5) := fun h => by rw [HE.out, if_pos ht, if_neg h]
    have HE0 : Hid (isForm l → sGetE l = 0) := fun h => by rw [HE.out, if_pos ht, if_pos h]
    have ht2 : ((a0 : Int) + 256 * (a1 : Int) == (no : Int)) = true := beq_iff_eq.2 (by omega)
    clear HE ht
    go_wp2
    clear ht2
    go_quiet (fail)
    have K4 : Hid (New w (w3.drewN nq)) := K3.out.drewN nq
    have L4 : Hid (Bts (w3.drewN nq) (some ⟨gb, ob, none⟩) n l) := L3.out.drewN nq
    have d2' : (w3.drewN nq).cell? ⟨gb, ob + 2, none⟩ = some (.int .u8 a2) := d2
    generalize w3.drewN nq = w4 at *
    clear d2 d3 d4 K3 L3
    by_cases hk1 : a2 < 1
    · go_wp2
      go_ret3
      exact GetP.no (HE5.out fun h => by have := (HF.out.1 h).1; unfold isKd at this; omega) (by omega) K4.out
    · by_cases hk7 : 7 < a2
      · go_wp2
        go_ret3
        exact GetP.no (HE5.out fun h => by have := (HF.out.1 h).1; unfold isKd at this; omega) (by omega) K4.out
      · have hkd : isKd a2 := by unfold isKd; omega
        by_cases hle : 5 + z ≤ n
        · have B5 : Hid (Bts w4 (some ⟨gb, ob + 5, none⟩) z ((l.drop 5).take z)) := by
            have := (L4.out.cut (k := 5) (c := c) (by omega) hc).take (k := z) (by omega)
            rw [if_neg (by omega)] at this
            simpa [Addr.add_lit, Hid] using this
          have HCut := Lib.hid (L4.out.cut (k := 5 + z) (c := c) hle hc)
          generalize hbb : blank (l.drop (5 + z)) = bb
          have HBB := Lib.hid hbb
          have hc5 : ¬ c = 5 := by omega
          clear L4 hbb
          cases bb
          · go_wp2_with fail
            all_goals refine (rBlank_v _ (n - (5 + z)) _ (l.drop (5 + z)) _ (by first | (have := HCut.out; rw [if_pos (by omega)] at this; exact this) | (have := HCut.out; rw [if_neg (by omega)] at this; simpa [Addr.add_lit] using this)) (by omega) false HBB.out).mono ?_
            all_goals rintro e w' ⟨rfl, rfl⟩
            all_goals go_wp2
            all_goals go_ret3
            all_goals exact GetP.no (HE5.out fun h => by have := (HF.out.1 h).2.2; rw [HBB.out] at this; cases this) (by omega) K4.out
          · have HLN : Hid (((l.drop 5).take z).length = z) := B5.out.1
            have HNB : Hid (([] : List Nat).length + z ≤ 140737488355328) := by show _ ≤ _; simp; omega
            have D2 : Hid (w4.drew.cell? ⟨gb, ob + 2, none⟩ = some (.int .u8 (a2 : Int))) := d2'
            have HWB : Hid (w4.heap.size ≤ w4.drew.heap.size) := Nat.le_refl _
            have HOk := Lib.hid (HE0.out (HF.out.2 ⟨hkd, hle, HBB.out⟩))
            have hwr : IntKind.i64.wrap (5 + (z : Int)) = 5 + (z : Int) := by rw [IntKind.wrap_i64]; omega
            have htn : (5 + (z : Int)).toNat = 5 + z := by omega
            have r1 : (5 : Int) ≤ 5 + (z : Int) := by omega
            have r2 : 5 + (z : Int) ≤ (c : Int) := by omega
            go_wp2_with fail
            all_goals refine (rBlank_v _ (n - (5 + z)) _ (l.drop (5 + z)) _ (by first | (have := HCut.out; rw [if_pos (by omega)] at this; exact this) | (have := HCut.out; rw [if_neg (by omega)] at this; simpa [Addr.add_lit] using this)) (by omega) true HBB.out).mono ?_
            all_goals rintro e w' ⟨rfl, rfl⟩
            all_goals clear HCut
            all_goals go_wp2
            · have hz9 : ¬ z = 0 := by omega
              go_region_law (with_reducible refine step_append_bytes (o := ⟨some 70, _, _, _, _, _⟩) rfl (.tmp 65) (.tmp 69) 27 rfl 5 i0 Tryz.underlying27 hi hz0 hz1 hz2 w4.heap.size none 0 0 [] ?_ (OwnB.nil _ _ _) rfl (some ⟨gb, ob + 5, none⟩) z z ((l.drop 5).take z) ?_ B5.out.drew HNB.out HWB.out ?_; (next => go_simp); (next => go_simp); intro A5 c5 w5 hown hg; have hk5 : New w4.drew w5 := (Kept.refl _ _).grown hg (by simp); have d2w : w5.cell? ⟨gb, ob + 2, none⟩ = some (.int .u8 (a2 : Int)) := hk5.cell (p := ⟨gb, ob + 2, none⟩) D2.out (fun f => f); have HO5 := Lib.hid hown; have HK5 := Lib.hid hk5; clear hown hk5 hg)
              all_goals go_simp
              all_goals go_wp2
              all_goals go_ret3
              all_goals exact GetP.ok HOk.out HV.out K4.out.drew HO5.out HK5.out HLN.out
            · go_region_law (with_reducible refine step_append_bytes (o := ⟨some 70, _, _, _, _, _⟩) rfl (.tmp 65) (.tmp 69) 27 rfl 5 i0 Tryz.underlying27 hi hz0 hz1 hz2 w4.heap.size none 0 0 [] ?_ (OwnB.nil _ _ _) rfl (some ⟨gb, ob + 5, none⟩) z (c - 5) ((l.drop 5).take z) ?_ B5.out.drew HNB.out HWB.out ?_; (next => go_simp); (next => go_simp); intro A5 c5 w5 hown hg; have hk5 : New w4.drew w5 := (Kept.refl _ _).grown hg (by simp); have d2w : w5.cell? ⟨gb, ob + 2, none⟩ = some (.int .u8 (a2 : Int)) := hk5.cell (p := ⟨gb, ob + 2, none⟩) D2.out (fun f => f); have HO5 := Lib.hid hown; have HK5 := Lib.hid hk5; clear hown hk5 hg)
              all_goals go_simp
              all_goals go_wp2
              all_goals go_ret3
              all_goals exact GetP.ok HOk.out HV.out K4.out.drew HO5.out HK5.out HLN.out
        · go_wp2
          go_ret3
          exact GetP.no (HE5.out fun h => hle (HF.out.1 h).2.1) (by omega) K4.out
  · have ht2 : ((a0 : Int) + 256 * (a1 : Int) == (no : Int)) = false := beq_eq_false_iff_ne.2 (by omega)
    go_wp2
    go_ret3
    exact GetP.no (by rw [HE.out, if_neg ht]) (by omega) K3.out

theorem rGet_any (A : Option Addr) (n c : Nat) (l : List Nat) (w : World) (hb : Bts w A n l) (hc : n ≤ c) (hc2 : c ≤ 9223372036854775807) :
    Calls Tryz.prog 74 #[.slice A n c] w (GetP w l) := by
  by_cases h : isPg (n : Int)
  · by_cases hbl : blank l = true
    · exact rGet_blank A n c l w hb h hbl
    · exact rGet_rest A n c l w hb h (by simpa using hbl) hc (by omega)
  · exact rGet_arg A n c l w hb.1 (by unfold maxLen; omega) h

theorem rGet_k {w0 wc : World} (A : Option Addr) (n c : Nat) (l : List Nat) (K : Hid (New w0 wc)) (hb : Hid (Bts wc A n l)) (hc : n ≤ c) (hc2 : c ≤ 9223372036854775807) (k : Nat) (x : List Nat) (E : Int) (h : sGetK l = k ∧ sGetL l = x ∧ sGetE l = E) (m : Nat) (hm : x.length = m) :
    Calls Tryz.prog 74 #[.slice A n c] wc fun e w' => ∃ A' c', e = .returned (.tuple #[.int .u8 k, .slice A' m c', .int .i64 E]) ∧ Hid (OwnB w' 5 w0.heap.size A' c' x) ∧ Hid (New wc w') ∧ Hid (New w0 w') := by
  obtain ⟨rfl, rfl, rfl⟩ := h
  subst hm
  refine (rGet_any A n c l wc hb.out hc hc2).mono ?_
  rintro e w' ⟨A', c', rfl, ho, hk⟩
  exact ⟨A', c', rfl, ho.mono K.out.size, hk, K.out.new hk⟩
end Go.Proofs.YtgfdiboaiifdnaaGreat
