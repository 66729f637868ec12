/-
  EndsBack: what is put, one behind the other, is taken off in that order, and nothing is left; for every numbers and rows.
-/
import Derived.Test.YtgeojhopnegdjaaEg
namespace Go.Proofs.Ytgeojhopnegdjaa.endsBack
open Go.ChangeShapes Go.WideShapes Go.ChangeAt Go.RowKit

theorem own : ownKnob Try.prog.godebug = none := by kernel_rfl
theorem laidOut : laidOutB Try.prog = true := by kernel_rfl

set_option maxRecDepth 100000 in
set_option maxHeartbeats 4000000 in
theorem walk (A : Option Addr) (m c : Nat) (l : List Int) (B : Option Addr) (n d : Nat) (ls : List (List Nat)) (w : World) (hi : IsI w .u64 (.slice A m c) A m c l) (hr : IsR w (.slice B n d) B n d ls) :
    Calls Try.prog 5 #[.slice A m c, .slice B n d] w (True1 w) := by
  have hm : m ≤ 9223372036854775807 := by have := hi.le; have := hi.cap; unfold maxLen at this; omega
  have hn : n ≤ 9223372036854775807 := by have := hr.le; have := hr.cap; unfold maxLen at this; omega
  have Hi := Lib.hid hi
  have Hr := Lib.hid hr
  clear hi hr
  obtain ⟨i0, hi, hz0, hz1', hz2⟩ := info_parts info_u8
  go_enter Try.func5, Try.ntmps5
  go_upto_block 0 with fail
  go_cut [5, 6] (fun v _ wx => ∃ A1 c1, v = .slice A1 (encN (prs l (min m 40))).length c1 ∧ OwnB wx 5 w.heap.size A1 c1 (encN (prs l (min m 40))) ∧ New w wx)
  case first =>
    go_wp2_with fail
    go_loopw [5, 6] (fun v i wr => ∃ (k : Nat) (A1 : Option Addr) (c1 : Nat) (L : Nat), k ≤ m ∧ k ≤ 40 ∧ i = .int .i64 k ∧ v = .slice A1 L c1 ∧ L ≤ 320 ∧ Hid (L = (encN (prs l k)).length) ∧ OwnB wr 5 w.heap.size A1 c1 (encN (prs l k)) ∧ New w wr) (fun _ i _ => m - (intOf i).toNat)
    case atStart => exact ⟨0, none, 0, 0, by omega, by omega, rfl, rfl, by omega, by simp [Hid, encN, prs], OwnB.nil _ _ _, Kept.refl _ _⟩
    case round =>
      obtain ⟨k, A1, c1, L, hk, hk40, rfl, rfl, hL, HL, ho, hnew⟩ := hrel
      have HO := Lib.hid ho
      have HK := Lib.hid hnew
      clear ho hnew
      by_cases hend : k < m ∧ k < 40
      · obtain ⟨hkm, hk4⟩ := hend
        obtain ⟨gb, o, x, rfl, hx, hxw, hcw⟩ := Hi.out.ins.at_ hkm
        obtain ⟨y, rfl, hy⟩ := u64_nat hxw
        have hc := HK.out.cell hcw (fun f => f)
        have HX := Lib.hid hx
        clear hx hxw hcw
        go_upto_region 6 with fail
        rw [wrap_sz k]
        have hz := szOf_le k
        have HS := Lib.hid (szOf_sz k)
        generalize hzz : szOf k = z at *
        have HZ := Lib.hid hzz
        obtain ⟨hz1, hz8⟩ := hz
        clear hzz
        go_wp2_with fail
        have ey : (y : Int) / 2 ^ (64 - 8 * z) = ((y / 2 ^ (64 - 8 * z) : Nat) : Int) := by rw [Int.natCast_ediv, Int.natCast_pow]; rfl
        rw [ey]
        clear ey
        have HF := Lib.hid (div_fits y z HS.out hy)
        have hv : y / 2 ^ (64 - 8 * z) < 18446744073709551616 := Nat.lt_of_le_of_lt (Nat.div_le_self _ _) hy
        have HV : Hid (y / 2 ^ (64 - 8 * z) = (l.getD k 0).toNat / 2 ^ (64 - 8 * szOf k)) := by rw [Hid, HZ.out, List.getD_eq_getElem?_getD, HX.out]; simp
        generalize y / 2 ^ (64 - 8 * z) = v at *
        refine (put_ok v z _ hv HS.out HF.out).mono ?_
        rintro e w3 ⟨A3, c3, rfl, o3, k3⟩
        rw [leB_length]
        have O3 := Lib.hid o3
        have O1 := Lib.hid (HO.out.new k3)
        have K3 := Lib.hid (HK.out.new k3)
        clear o3 k3 HO HK hc
        go_wp2_with (at_builtin; refine wpList_append_bytes _ rfl _ _ _ rfl 5 i0 Try.underlying23 hi hz0 hz1' hz2 w.heap.size A1 L c1 (encN (prs l k)) rfl O1.out HL.out A3 z c3 (leB v z) rfl ?_ ?_ K3.out.size ?_)
        · have := O3.out.bts; rwa [leB_length] at this
        · rw [← HL.out]; omega
        intro A4 c4 w4 o4 g4 _
        have K4 := Lib.hid (Kept.of_own K3.out O1.out g4)
        have O4 : Hid (OwnB w4 5 w.heap.size A4 c4 (encN (prs l (k + 1)))) := by rw [Hid, encN_succ, ← HV.out, HZ.out]; exact o4
        clear g4 o4 O1 O3 K3
        have hl4 := encN_len l (k + 1)
        have HL4 : Hid (L + z = (encN (prs l (k + 1))).length) := by rw [Hid, encN_succ, List.length_append, ← HL.out, leB_length, HZ.out]
        have hL4 : L + z ≤ 320 := by have := HL4.out; omega
        clear hl4
        go_wp2
        go_roundw
        case rel => exact ⟨k + 1, A4, c4, L + z, by omega, by omega, by go_num, rfl, hL4, HL4, O4.out, K4.out⟩
        case measure => simp [intOf]; omega
      · have e : min m 40 = k := by omega
        clear Hi Hr
        rcases Nat.lt_or_ge k m with hkn | hkn
        · have h60 : 40 ≤ k := by omega
          clear hend
          have HE := Lib.hid e
          clear e
          go_wp2
          go_meet
          exact ⟨A1, c1, by rw [HE.out, ← HL.out], by rw [HE.out]; exact HO.out, HK.out⟩
        · clear hend
          have HE := Lib.hid e
          clear e
          go_wp2
          go_meet
          exact ⟨A1, c1, by rw [HE.out, ← HL.out], by rw [HE.out]; exact HO.out, HK.out⟩
  case rest =>
    obtain ⟨A1, c1, rfl, ho1, hk1⟩ := hcut
    have HO1 := Lib.hid ho1
    have HK1 := Lib.hid hk1
    clear ho1 hk1
    have hN : (encN (prs l (min m 40))).length ≤ 320 := by have := encN_len l (min m 40); omega
    generalize hall : encN (prs l (min m 40)) = nums at *
    have HALL := Lib.hid hall
    clear hall
    go_upto_block 2 with fail
    go_cut [5, 10] (fun v _ wx => ∃ A1 c1, v = .slice A1 (nums ++ encR (ls.take (min n 40))).length c1 ∧ OwnB wx 5 w.heap.size A1 c1 (nums ++ encR (ls.take (min n 40))) ∧ New w wx)
    case first =>
      go_wp2_with fail
      generalize hL0 : nums.length = L0 at *
      have HL0 := Lib.hid hL0
      clear hL0
      go_loopw [5, 10] (fun v i wr => ∃ (k : Nat) (A1 : Option Addr) (c1 : Nat) (L : Nat), k ≤ n ∧ k ≤ 40 ∧ i = .int .i64 k ∧ v = .slice A1 L c1 ∧ L ≤ 10560 ∧ Hid (L = (nums ++ encR (ls.take k)).length) ∧ OwnB wr 5 w.heap.size A1 c1 (nums ++ encR (ls.take k)) ∧ New w wr) (fun _ i _ => n - (intOf i).toNat)
      case atStart => exact ⟨0, A1, c1, L0, by omega, by omega, rfl, rfl, by omega, by simp [Hid, encR, HL0.out], by simpa [encR] using HO1.out, HK1.out⟩
      case round =>
        obtain ⟨k, A2, c2, L, hk, hk40, rfl, rfl, hL, HL, ho, hnew⟩ := hrel
        have HO := Lib.hid ho
        have HK := Lib.hid hnew
        clear ho hnew HO1 HK1
        by_cases hend : k < n ∧ k < 40
        · obtain ⟨hkm, hk4⟩ := hend
          obtain ⟨gb, o, rw0, B0, c0, rfl, hx, hcw, hbt, hle0, hc0⟩ := Hr.out.rws.at_ hkm
          have hc := HK.out.cell hcw (fun f => f)
          have HC := Lib.hid hcw
          have HB := Lib.hid (hbt.new HK.out)
          have HX := Lib.hid hx
          have hn0 : rw0.length ≤ 9223372036854775807 := by unfold maxLen at hc0; omega
          clear hx hcw hbt
          have HR0 : Hid (rowE rw0 = if rw0.length ≤ 255 then 0 else 3) := rfl
          have hrl := rowL_len rw0
          generalize hRL : rw0.length = q0 at *
          have HRL := Lib.hid hRL
          clear hRL
          go_wp2_with fail
          refine (erow_any B0 q0 c0 rw0 _ HB.out (by unfold maxLen; omega)).mono ?_
          rintro e w3 ⟨A3, c3, rfl, o3, k3⟩
          rw [HR0.out]
          have O3 := Lib.hid o3
          have O1 := Lib.hid (HO.out.new k3)
          have K3 := Lib.hid (HK.out.new k3)
          clear o3 k3 HO HK hc
          have hc := K3.out.cell HC.out (fun f => f)
          generalize hq3 : (rowL rw0).length = q3 at *
          have HQ3 := Lib.hid hq3
          clear hq3
          have hd : decide ((q0 : Int) ≤ 255) = decide (q0 ≤ 255) := by rw [Bool.eq_iff_iff]; simp; omega
          by_cases h255 : q0 ≤ 255
          all_goals
            simp only [h255, decide_true, decide_false] at hd
            simp only [h255, if_true, if_false]
            go_wp2_with (at_builtin; refine wpList_append_bytes _ rfl _ _ _ rfl 5 i0 Try.underlying23 hi hz0 hz1' hz2 w.heap.size A2 L c2 (nums ++ encR (ls.take k)) rfl O1.out HL.out A3 q3 c3 (rowL rw0) rfl ?_ ?_ K3.out.size ?_)
            · have := O3.out.bts; rwa [HQ3.out] at this
            · rw [← HL.out]; omega
            intro A4 c4 w4 o4 g4 _
            have K4 := Lib.hid (Kept.of_own K3.out O1.out g4)
            have O4 : Hid (OwnB w4 5 w.heap.size A4 c4 (nums ++ encR (ls.take (k + 1)))) := by rw [Hid, encR_take _ _ _ HX.out]; exact o4
            have HL4 : Hid (L + q3 = (nums ++ encR (ls.take (k + 1))).length) := by rw [Hid, encR_take _ _ _ HX.out, HL.out, ← HQ3.out]; simp only [List.length_append]; omega
            have hL4 : L + q3 ≤ 10560 := by
              have h1 := encR_len (ls.take (k + 1))
              have h2 := HL4.out
              rw [List.length_append, HL0.out] at h2
              rw [List.length_take] at h1
              omega
            clear g4 o4 O1 O3 K3 hc
            go_wp2
            go_roundw
            case rel => exact ⟨k + 1, A4, c4, L + q3, by omega, by omega, by go_num, rfl, hL4, HL4, O4.out, K4.out⟩
            case measure => simp [intOf]; omega
        · have e : min n 40 = k := by omega
          clear Hi Hr
          rcases Nat.lt_or_ge k n with hkn | hkn
          · have h60 : 40 ≤ k := by omega
            clear hend
            have HE := Lib.hid e
            clear e
            go_wp2
            go_meet
            exact ⟨A2, c2, by rw [HE.out, ← HL.out], by rw [HE.out]; exact HO.out, HK.out⟩
          · clear hend
            have HE := Lib.hid e
            clear e
            go_wp2
            go_meet
            exact ⟨A2, c2, by rw [HE.out, ← HL.out], by rw [HE.out]; exact HO.out, HK.out⟩
    case rest =>
      obtain ⟨A2, c2, rfl, ho2, hk2⟩ := hcut
      have HO2 := Lib.hid ho2
      have HK2 := Lib.hid hk2
      clear ho2 hk2 HO1 HK1
      have hM : (nums ++ encR (ls.take (min n 40))).length ≤ 10560 := by
        have h1 := encR_len (ls.take (min n 40))
        rw [List.length_take] at h1
        rw [List.length_append]
        omega
      generalize hLL : (nums ++ encR (ls.take (min n 40))).length = LL at *
      have HLL := Lib.hid hLL
      clear hLL
      go_wp2_with fail
      refine (new_any A2 LL c2 (nums ++ encR (ls.take (min n 40))) _ (by have := HO2.out.bts; rwa [HLL.out] at this) (by omega) ?_).mono ?_
      · intro hA
        rcases HO2.out.2 with ⟨_, h1, h2⟩ | ⟨g, sp, h1, _⟩
        · refine ⟨h1, ?_⟩
          have := HLL.out
          rw [h2] at this
          exact this.symm
        · rw [hA] at h1; cases h1
      rintro e w3 ⟨g, rfl, r3, g3, k3⟩
      have R3 := Lib.hid r3.any
      have K3 := Lib.hid (HK2.out.new k3)
      have G3 : Hid (w.heap.size ≤ g) := Nat.le_trans HK2.out.size g3
      clear r3 g3 k3 HO2 HK2
      go_upto_block 4 with fail
      go_cut [14] (fun _ wx => Rdr Any wx g (encR (ls.take (min n 40))) ∧ New w wx)
      case first =>
        go_wp2_with fail
        go_loopw [14] (fun i wr => ∃ (k : Nat), k ≤ m ∧ k ≤ 40 ∧ i = .int .i64 k ∧ Rdr Any wr g (encN ((prs l (min m 40)).drop k) ++ encR (ls.take (min n 40))) ∧ New w wr) (fun i _ => m - (intOf i).toNat)
        case atStart => exact ⟨0, by omega, by omega, rfl, by rw [List.drop_zero, HALL.out]; exact R3.out, K3.out⟩
        case round =>
          obtain ⟨k, hk, hk40, rfl, hr, hnew⟩ := hrel
          have HR := Lib.hid hr
          have HK := Lib.hid hnew
          clear hr hnew R3 K3
          by_cases hend : k < m ∧ k < 40
          · obtain ⟨hkm, hk4⟩ := hend
            obtain ⟨gb, o, x, rfl, hx, hxw, hcw⟩ := Hi.out.ins.at_ hkm
            obtain ⟨y, rfl, hy⟩ := u64_nat hxw
            have HC := Lib.hid hcw
            have HX := Lib.hid hx
            clear hx hxw hcw
            go_upto_region 22 with fail
            rw [wrap_sz k]
            have hz := szOf_le k
            have HS := Lib.hid (szOf_sz k)
            generalize hzz : szOf k = z at *
            have HZ := Lib.hid hzz
            obtain ⟨hz1, hz8⟩ := hz
            clear hzz
            have HF := Lib.hid (div_fits y z HS.out hy)
            have HV : Hid ((l.getD k 0).toNat / 2 ^ (64 - 8 * szOf k) = y / 2 ^ (64 - 8 * z)) := by rw [Hid, HZ.out, List.getD_eq_getElem?_getD, HX.out]; simp
            have hR := HR.out
            rw [encN_drop l (min m 40) k (by omega), HV.out, HZ.out, List.append_assoc] at hR
            have HR2 := Lib.hid hR
            clear hR HR
            go_wp2_with fail
            refine (etake_any g _ z _ HR2.out).mono ?_
            rintro e w4 ⟨rfl, r4, k4⟩
            obtain ⟨t1, t2, t3⟩ := take_put (y / 2 ^ (64 - 8 * z)) z (encN ((prs l (min m 40)).drop (k + 1)) ++ encR (ls.take (min n 40))) HS.out HF.out
            rw [t3] at r4
            rw [t1, t2]
            have R4 := Lib.hid r4
            have K4 := Lib.hid (HK.out.trans k4 fun i hi e => by have := G3.out; omega)
            clear r4 k4 t1 t2 t3 HR2 HK
            have hc := K4.out.cell HC.out (fun f => f)
            go_wp2
            go_roundw
            case rel => exact ⟨k + 1, by omega, by omega, by go_num, R4.out, K4.out⟩
            case measure => simp [intOf]; omega
          · have e : min m 40 = k := by omega
            have hnil : encN ((prs l (min m 40)).drop k) = [] := by rw [List.drop_of_length_le (by rw [prs_length]; omega)]; rfl
            have hR := HR.out
            rw [hnil, List.nil_append] at hR
            have HR2 := Lib.hid hR
            clear hR hnil HR e
            clear Hi Hr
            rcases Nat.lt_or_ge k m with hkn | hkn
            · have h60 : 40 ≤ k := by omega
              clear hend
              go_wp2
              go_meet
              exact ⟨HR2.out, HK.out⟩
            · clear hend
              go_wp2
              go_meet
              exact ⟨HR2.out, HK.out⟩
      case rest =>
        obtain ⟨hr4, hk4⟩ := hcut
        have HR4 := Lib.hid hr4
        have HK4 := Lib.hid hk4
        clear hr4 hk4 R3 K3 Hi
        go_upto_block 6 with fail
        go_cut [18] (fun _ wx => Rdr Any wx g [] ∧ New w wx)
        case first =>
          go_wp2_with fail
          go_loopw [18] (fun i wr => ∃ (k : Nat), k ≤ n ∧ k ≤ 40 ∧ i = .int .i64 k ∧ Rdr Any wr g (encR ((ls.take (min n 40)).drop k)) ∧ New w wr) (fun i _ => n - (intOf i).toNat)
          case atStart => exact ⟨0, by omega, by omega, rfl, HR4.out, HK4.out⟩
          case round =>
            obtain ⟨k, hk, hk40, rfl, hr, hnew⟩ := hrel
            have HR := Lib.hid hr
            have HK := Lib.hid hnew
            clear hr hnew HR4 HK4
            by_cases hend : k < n ∧ k < 40
            · obtain ⟨hkm, hk4⟩ := hend
              obtain ⟨gb, o, rw0, B0, c0, rfl, hx, hcw, hbt, hle0, hc0⟩ := Hr.out.rws.at_ hkm
              have hc := HK.out.cell hcw (fun f => f)
              have HC := Lib.hid hcw
              have HB := Lib.hid hbt
              have hn0 : rw0.length ≤ 9223372036854775807 := by unfold maxLen at hc0; omega
              have hx' : (ls.take (min n 40))[k]? = some rw0 := by rw [List.getElem?_take, if_pos (by omega)]; exact hx
              have hR := HR.out
              rw [encR_drop _ _ _ hx'] at hR
              have HR2 := Lib.hid hR
              clear hx hcw hbt hx' hR HR
              by_cases h255 : rw0.length ≤ 255
              · have hR := HR2.out
                rw [show rowL rw0 = rw0.length :: rw0 from by unfold rowL; rw [if_pos h255], List.cons_append] at hR
                have HR3 := Lib.hid hR
                clear hR HR2
                have HT : Hid ((rw0 ++ encR ((ls.take (min n 40)).drop (k + 1))).take rw0.length = rw0) := by rw [Hid, List.take_left]
                have HD : Hid ((rw0 ++ encR ((ls.take (min n 40)).drop (k + 1))).drop rw0.length = encR ((ls.take (min n 40)).drop (k + 1))) := by rw [Hid, List.drop_left]
                generalize hRL : rw0.length = q0 at *
                have HRL := Lib.hid hRL
                clear hRL
                go_wp2_with fail
                refine (erow_ok g q0 _ _ HR3.out (by rw [List.length_append, HRL.out]; omega)).mono ?_
                rintro e w4 ⟨A4, c4, rfl, o4, r4, k4⟩
                rw [HT.out] at o4 ⊢
                rw [HD.out] at r4
                have R4 := Lib.hid r4
                have O4 := Lib.hid o4
                have K4 := Lib.hid (HK.out.trans k4 fun i hi e => by have := G3.out; omega)
                clear r4 k4 o4 HR3 HK hc
                rw [HRL.out]
                have hc := K4.out.cell HC.out (fun f => f)
                go_wp2_with fail
                refine (same_eq A4 B0 q0 _ _ rw0 _ (by have := O4.out.bts; rwa [HRL.out] at this) (HB.out.new K4.out) (by unfold maxLen; omega)).mono ?_
                rintro e w5 ⟨d5, rfl, hw5⟩
                have K5 : Hid (New w w5) := by rw [hw5]; exact K4.out.drewN d5
                have R5 : Hid (Rdr Any w5 g (encR ((ls.take (min n 40)).drop (k + 1)))) := by rw [hw5]; exact R4.out.drewN d5
                clear hw5 K4 R4 O4 hc
                go_wp2
                go_roundw
                case rel => exact ⟨k + 1, by omega, by omega, by go_num, R5.out, K5.out⟩
                case measure => simp [intOf]; omega
              · have hR := HR2.out
                rw [show rowL rw0 = [] from by unfold rowL; rw [if_neg h255], List.nil_append] at hR
                have HR3 := Lib.hid hR
                clear hR HR2
                go_wp2
                go_roundw
                case rel => exact ⟨k + 1, by omega, by omega, by go_num, HR3.out, HK.out⟩
                case measure => simp [intOf]; omega
            · have hnil : encR ((ls.take (min n 40)).drop k) = [] := by rw [List.drop_of_length_le (by rw [List.length_take]; omega)]; rfl
              have hR := HR.out
              rw [hnil] at hR
              have HR2 := Lib.hid hR
              clear hR hnil HR
              clear Hr
              rcases Nat.lt_or_ge k n with hkn | hkn
              · have h60 : 40 ≤ k := by omega
                clear hend
                go_wp2
                go_meet
                exact ⟨HR2.out, HK.out⟩
              · clear hend
                go_wp2
                go_meet
                exact ⟨HR2.out, HK.out⟩
        case rest =>
          obtain ⟨hr5, hk5⟩ := hcut
          have HR5 := Lib.hid hr5
          have HK5 := Lib.hid hk5
          clear hr5 hk5 HR4 HK4
          go_wp2_with (first
            | (go_at_call 19; refine (eleft_any g _ _ HR5.out).mono ?_; rintro e w6 ⟨rfl, rfl⟩)
            | (go_at_call 14; refine (works_any _).mono ?_; rintro e w7 ⟨rfl, hk⟩; have HK7 := Lib.hid hk; clear hk))
          go_ret
          exact ⟨rfl, HK5.out.new HK7.out⟩

set_option maxRecDepth 100000 in
theorem lifted (os : Os) (started : os.Started) (H : Type) (enc : TypeId × Value → H) :
    ReturnsInHanded {} Try.checked os 5 .any (Rows.endsBackSpec.pre6 enc Try.prog Try.f5 Rows.endsBackRow.domain false) (Rows.endsBackSpec.post enc Try.prog Try.f5 false true false false) := by
  refine lift_new (C := Try.checked) (s := Rows.endsBackSpec) (tb := 4) own started (by kernel_rfl) Try.func5
    (ChangeSpec.witness6 (enc := enc) (C := Try.checked) false ⟨#[], #[.slice none 0 0, .slice none 0 0], []⟩ 8 (by kernel_rfl) (by kernel_rfl) (by kernel_rfl) (by kernel_rfl))
    rfl (by kernel_rfl) Try.underlying4 ?_ laidOut (of_decide_eq_true (by kernel_rfl)) ?_
  · intro ds hd
    match ds, hd with
    | [d0, d1], _ => exact ⟨rfl, rfl, rfl⟩
  · intro W base args ds hA
    have hA : Args enc Try.prog W base Try.f5.params.toList args.toList ds := hA
    rw [Try.params5] at hA
    obtain ⟨v0, vs0, d0, ds0, p0, hargs, rfl, a0, hA⟩ := hA.cons_
    obtain ⟨v1, vs1, d1, ds1, p1, rfl, rfl, a1, hA⟩ := hA.cons_
    obtain ⟨rfl, rfl⟩ := hA.nil_
    obtain rfl : args = #[v0, v1] := by cases args; simp_all
    obtain ⟨A0, n0, c0, l0, b0⟩ := a0.intsK Try.underlying43 Try.underlying22 (by kernel_rfl)
    obtain rfl := b0.val
    obtain ⟨A1, n1, c1, l1, b1⟩ := a1.rows_ Try.underlying44 Try.underlying23 Try.underlying5 (by kernel_rfl) (by kernel_rfl)
    obtain rfl := b1.val
    exact walk A0 n0 c0 l0 A1 n1 c1 l1 W b0 b1

theorem over : Rows.endsBackRow.holds Try.pinned (OpenSpec.ofChange Rows.endsBackSpec) :=
  OpenClaim.holds_of_wide 5 Try.f5 rfl rfl rfl rfl rfl rfl rfl ⟨rfl, rfl, rfl, rfl, rfl⟩ rfl rfl rfl rfl rfl (by kernel_rfl) Try.func5 (by kernel_rfl)
    (of_decide_eq_true (by kernel_rfl)) (by unfold Func.isWrapper; first | (rw [if_pos (by decide +kernel)]; kernel_rfl) | (rw [if_neg (by decide +kernel)]; exact ⟨rfl, rfl⟩))
    (fun os started H enc _ => lifted os started H enc)

theorem proved : Rows.EndsBackSaid := over
end Go.Proofs.Ytgeojhopnegdjaa.endsBack
