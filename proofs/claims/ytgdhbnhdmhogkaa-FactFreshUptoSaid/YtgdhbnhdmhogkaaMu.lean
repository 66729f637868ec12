/-
  The library's merging in place: of one change behind.
-/
import Derived.Test.YtgdhbnhdmhogkaaMt
namespace Go.Proofs.Ytgdhbnhdmhogkaa
open Go.ChangeShapes Go.WideShapes Go.ChangeAt Go.RowKit

set_option maxRecDepth 100000 in
set_option maxHeartbeats 6400000 in
theorem symR_any (g n c a m b : Nat) (P U S : List CE) (u : CE) (sp : List Value) (w : World) (hb : Blk w g 45 (ces (P ++ (U ++ (u :: S))) ++ sp)) (ha : P.length = a) (hU : a + U.length = m) (hm : m + 1 = b) (h2 : a + 1 < m) (ho : ordC (cts U)) (hbn : b ≤ n) (hn : n ≤ 140737488351232) :
    Calls Try.prog 49 #[.slice (some ⟨g, 0, none⟩) n c, .int .i64 (a : Nat), .int .i64 (m : Nat), .int .i64 (b : Nat), .func (.func 33) #[] #[]] w
      (fun e w' => ∃ U1 U2, U = U1 ++ U2 ∧ (∀ x ∈ U1, befK u.f.k x.f.k = false) ∧ (∀ x ∈ U2, befK u.f.k x.f.k = true) ∧ RwcP w g sp (P ++ (U1 ++ (u :: (U2 ++ S)))) e w') := by
  have HB := Lib.hid hb
  have HP := Lib.hid ha
  have HU := Lib.hid hU
  have HO := Lib.hid ho
  clear hb ha hU ho
  have t1 : ((m : Int) - (a : Int) == 1) = false := beq_eq_false_iff_ne.2 (by omega)
  have t2 : (b : Int) - (m : Int) = 1 := by omega
  go_enter Try.func49, Try.ntmps49
  go_wp2_with fail
  go_loopw [14, 15] (fun ti tj wr => ∃ i j : Nat, a ≤ i ∧ i ≤ j ∧ j ≤ m ∧ ti = .int .i64 i ∧ tj = .int .i64 j ∧ Hid (∀ t v, U[t]? = some v → a + t < i → befK u.f.k v.f.k = false) ∧ Hid (∀ t v, U[t]? = some v → j ≤ a + t → befK u.f.k v.f.k = true) ∧ Hid (New w wr)) (fun ti tj _ => (intOf tj).toNat - (intOf ti).toNat)
  case atStart => exact ⟨a, m, Nat.le_refl _, by omega, Nat.le_refl _, rfl, rfl, fun t v _ h => absurd h (by omega), fun t v ht h => by
    have h1 := (List.getElem?_eq_some_iff.1 ht).1
    have h2 := HU.out
    omega, Kept.refl _ _⟩
  case round =>
    obtain ⟨i, j, him, hij, hjb, rfl, rfl, VI, VJ, VN⟩ := hrel
    by_cases hlt : i < j
    · obtain ⟨h, hh0⟩ : ∃ h : Nat, h = (i + j) / 2 := ⟨_, rfl⟩
      have hh1 : i ≤ h := by omega
      have hh2 : h < j := by omega
      have s0 : ((i : Int) + (j : Int)) / 2 = (h : Int) := by omega
      obtain ⟨t0, ht0⟩ : ∃ t0, a + t0 = h := ⟨h - a, by omega⟩
      obtain ⟨v, hvv⟩ : ∃ v, U[t0]? = some v := ⟨_, List.getElem?_eq_getElem (by have := HU.out; omega)⟩
      have hh : (P ++ (U ++ (u :: S)))[h]? = some v := by
        rw [List.getElem?_append_right (by rw [HP.out]; omega), HP.out, show h - a = t0 by omega, List.getElem?_append_left (List.getElem?_eq_some_iff.1 hvv).1]
        exact hvv
      have hu : (P ++ (U ++ (u :: S)))[m]? = some u := by
        have h9 := HU.out
        rw [List.getElem?_append_right (by rw [HP.out]; omega), HP.out, List.getElem?_append_right (by omega), show m - a - U.length = 0 by omega]
        rfl
      have HLO : Hid (befK u.f.k v.f.k = false → ∀ t x, U[t]? = some x → a + t < h + 1 → befK u.f.k x.f.k = false) := fun hb t x hx ht => by
        rcases Nat.lt_or_ge t t0 with h1 | h1
        · exact befK_le_trans (ordC_at HO.out hx hvv h1) hb
        · rw [show t = t0 by omega, hvv] at hx
          injection hx with hx
          rw [← hx]; exact hb
      have HHI : Hid (befK u.f.k v.f.k = true → ∀ t x, U[t]? = some x → h ≤ a + t → befK u.f.k x.f.k = true) := fun hb t x hx ht => by
        rcases Nat.lt_or_ge t0 t with h1 | h1
        · exact bef_le2 hb (ordC_at HO.out hvv hx h1)
        · rw [show t = t0 by omega, hvv] at hx
          injection hx with hx
          rw [← hx]; exact hb
      have VB := HB.out.kept VN.out id
      have y0 : wr.cell? ⟨g, h * 6, none⟩ = some (.int .i64 v.f.k.i) := crow_cell (j := 0) VB hh (by omega) rfl
      have p0 := fun d os => cell_regrown y0 d os
      have y1 : wr.cell? ⟨g, h * 6 + 1, none⟩ = some (.int .u8 (v.f.k.t : Nat)) := crow_cell (j := 1) VB hh (by omega) rfl
      have p1 := fun d os => cell_regrown y1 d os
      have y2 : wr.cell? ⟨g, h * 6 + 2, none⟩ = some (.string v.f.k.n) := crow_cell (j := 2) VB hh (by omega) rfl
      have p2 := fun d os => cell_regrown y2 d os
      have y3 : wr.cell? ⟨g, h * 6 + 3, none⟩ = some (.int .i64 v.f.k.c) := crow_cell (j := 3) VB hh (by omega) rfl
      have p3 := fun d os => cell_regrown y3 d os
      have y4 : wr.cell? ⟨g, h * 6 + 4, none⟩ = some (.slice v.A v.f.v.length v.c) := crow_cell (j := 4) VB hh (by omega) rfl
      have p4 := fun d os => cell_regrown y4 d os
      have y5 : wr.cell? ⟨g, h * 6 + 5, none⟩ = some (.bool v.f.g) := crow_cell (j := 5) VB hh (by omega) rfl
      have p5 := fun d os => cell_regrown y5 d os
      have z0 : wr.cell? ⟨g, m * 6, none⟩ = some (.int .i64 u.f.k.i) := crow_cell (j := 0) VB hu (by omega) rfl
      have r0 := fun d os => cell_regrown z0 d os
      have z1 : wr.cell? ⟨g, m * 6 + 1, none⟩ = some (.int .u8 (u.f.k.t : Nat)) := crow_cell (j := 1) VB hu (by omega) rfl
      have r1 := fun d os => cell_regrown z1 d os
      have z2 : wr.cell? ⟨g, m * 6 + 2, none⟩ = some (.string u.f.k.n) := crow_cell (j := 2) VB hu (by omega) rfl
      have r2 := fun d os => cell_regrown z2 d os
      have z3 : wr.cell? ⟨g, m * 6 + 3, none⟩ = some (.int .i64 u.f.k.c) := crow_cell (j := 3) VB hu (by omega) rfl
      have r3 := fun d os => cell_regrown z3 d os
      have z4 : wr.cell? ⟨g, m * 6 + 4, none⟩ = some (.slice u.A u.f.v.length u.c) := crow_cell (j := 4) VB hu (by omega) rfl
      have r4 := fun d os => cell_regrown z4 d os
      have z5 : wr.cell? ⟨g, m * 6 + 5, none⟩ = some (.bool u.f.g) := crow_cell (j := 5) VB hu (by omega) rfl
      have r5 := fun d os => cell_regrown z5 d os
      clear y0 z0 y1 z1 y2 z2 y3 z3 y4 z4 y5 z5
      have cB := Lib.hid (fun (d : Nat) (os : Array Obj) => Calls.regrown_of (d := d) (os := os) ((cmpC_any u v (Go.Sort.grow (redrawn wr d) os)).mono fun e w' hh => ⟨hh.1, hh.2.below⟩))
      obtain ⟨z, hz⟩ : ∃ z, cmpK u.f.k v.f.k = z := ⟨_, rfl⟩
      rw [hz] at cB
      have HZ : Hid (befK u.f.k v.f.k = decide (z < 0)) := by rw [← hz]; rfl
      have u1 : (h : Int) < (n : Int) := by omega
      have u2 : (m : Int) < (n : Int) := by omega
      clear hz hh hu VB hvv ht0 hh0
      have hd2 : decide (z < 0) = true ∨ decide (z < 0) = false := by cases decide (z < 0) <;> simp
      rcases hd2 with d2 | d2
      · have HZ2 : Hid (befK u.f.k v.f.k = true) := HZ.out.trans d2
        have HNEW := Lib.hid (HHI.out HZ2.out)
        go_wp2_with fail
        refine wp_region_quiet_below (by kernel_rfl) (by kernel_rfl) ?_
        repeat (quiet_step (first
          | (go_at_call 33; exact cB.out _ _)))
        refine wpQuiet_nil ?_
        intro _ hw'
        obtain ⟨⟨dq, osq⟩, hw''⟩ := hw'
        subst hw''
        have K9 : Hid (New w (Go.Sort.grow (redrawn wr dq) osq)) := new_regrown VN.out dq osq
        clear cB p0 r0 p1 r1 p2 r2 p3 r3 p4 r4 p5 r5
        go_wp2
        go_roundw
        case rel => exact ⟨i, h, him, hh1, by omega, rfl, rfl, VI, HNEW, K9⟩
        case measure => simp [intOf]; omega
      · have HZ2 : Hid (befK u.f.k v.f.k = false) := HZ.out.trans d2
        have HNEW := Lib.hid (HLO.out HZ2.out)
        go_wp2_with fail
        refine wp_region_quiet_below (by kernel_rfl) (by kernel_rfl) ?_
        repeat (quiet_step (first
          | (go_at_call 33; exact cB.out _ _)))
        refine wpQuiet_nil ?_
        intro _ hw'
        obtain ⟨⟨dq, osq⟩, hw''⟩ := hw'
        subst hw''
        have K9 : Hid (New w (Go.Sort.grow (redrawn wr dq) osq)) := new_regrown VN.out dq osq
        clear cB p0 r0 p1 r1 p2 r2 p3 r3 p4 r4 p5 r5
        go_wp2
        go_roundw
        case rel => exact ⟨h + 1, j, by omega, by omega, hjb, by go_num, rfl, HNEW, VJ, K9⟩
        case measure => simp [intOf]; omega
    · have hij2 : i = j := by omega
      subst hij2
      clear hlt hij
      obtain ⟨q, hq⟩ : ∃ q, a + q = i := ⟨i - a, by omega⟩
      obtain ⟨U1, hU1⟩ : ∃ U1, U1 = U.take q := ⟨_, rfl⟩
      obtain ⟨U2, hU2⟩ : ∃ U2, U2 = U.drop q := ⟨_, rfl⟩
      have hVV : Hid (U = U1 ++ U2) := by rw [hU1, hU2]; exact (List.take_append_drop _ _).symm
      have hL1 : Hid (U1.length = q) := by rw [hU1, Hid, List.length_take]; have := HU.out; omega
      have hL2 : Hid (i + U2.length = m) := by rw [hU2, Hid, List.length_drop]; have := HU.out; omega
      have F1 : Hid (∀ v ∈ U1, befK u.f.k v.f.k = false) := fun v hv => by
        obtain ⟨t, ht⟩ := List.mem_iff_getElem?.1 hv
        have h1 : t < U1.length := (List.getElem?_eq_some_iff.1 ht).1
        rw [hL1.out] at h1
        refine VI.out t v ?_ (by omega)
        rw [hVV.out, List.getElem?_append_left (by rw [hL1.out]; exact h1)]
        exact ht
      have F2 : Hid (∀ v ∈ U2, befK u.f.k v.f.k = true) := fun v hv => by
        obtain ⟨t, ht⟩ := List.mem_iff_getElem?.1 hv
        refine VJ.out (q + t) v ?_ (by omega)
        rw [hVV.out, List.getElem?_append_right (by rw [hL1.out]; omega), hL1.out, show q + t - q = t by omega]
        exact ht
      have HBW : Hid (Blk wr g 45 (ces (P ++ (U1 ++ (U2 ++ (u :: ([] ++ S))))) ++ sp)) := by
        have := HB.out.kept VN.out id
        rw [hVV.out, List.append_assoc] at this
        exact this
      have KW : Hid (Kept (· = g) w wr) := VN.out.mono fun _ _ f => f.elim
      have HIQ := Lib.hid hq
      have hI : i ≤ m := hjb
      clear hU1 hU2 VI VJ VN HB HO HU hq hjb
      go_wp2_with fail
      go_loopw [17] (fun tk wr => ∃ k : Nat, i ≤ k ∧ k ≤ m ∧ tk = .int .i64 k ∧ Hid (Blk wr g 45 (ces (P ++ (U1 ++ (U2.take (k - i) ++ (u :: (U2.drop (k - i) ++ S))))) ++ sp)) ∧ Hid (Kept (· = g) w wr)) (fun tk _ => (intOf tk).toNat)
      case atStart => exact ⟨m, hI, Nat.le_refl _, rfl, by rw [List.take_of_length_le (by have := hL2.out; omega), List.drop_of_length_le (by have := hL2.out; omega)]; exact HBW, KW⟩
      case round =>
        obtain ⟨k, hk1, hk2, rfl, UB, UK⟩ := hrel
        by_cases hlt : i < k
        · obtain ⟨e, he⟩ : ∃ e, e + 1 = k := ⟨k - 1, by omega⟩
          obtain ⟨t, ht⟩ : ∃ t, t + 1 = k - i := ⟨k - i - 1, by omega⟩
          have htq : t < U2.length := by have := hL2.out; omega
          obtain ⟨y, hyt⟩ : ∃ y, U2[t]? = some y := ⟨_, List.getElem?_eq_getElem htq⟩
          have hd : U2.drop t = y :: U2.drop (t + 1) := by
            obtain ⟨h1, e1⟩ := List.getElem?_eq_some_iff.1 hyt
            rw [List.drop_eq_getElem_cons h1, e1]
          have htk : U2.take (t + 1) = U2.take t ++ [y] := by rw [List.take_add_one, hyt]; rfl
          have hl1 : (P ++ (U1 ++ U2.take t)).length = e := by
            rw [List.length_append, HP.out, List.length_append, hL1.out, List.length_take]
            have := HIQ.out
            omega
          have hform : P ++ (U1 ++ (U2.take (t + 1) ++ (u :: (U2.drop (t + 1) ++ S)))) = (P ++ (U1 ++ U2.take t)) ++ y :: u :: (U2.drop (t + 1) ++ S) := by
            rw [htk]
            simp only [List.append_assoc, List.cons_append, List.nil_append]
          have HF2 : Hid (P ++ (U1 ++ (U2.take (e - i) ++ (u :: (U2.drop (e - i) ++ S)))) = (P ++ (U1 ++ U2.take t)) ++ u :: y :: (U2.drop (t + 1) ++ S)) := by
            rw [Hid, show e - i = t by omega, hd]
            simp only [List.append_assoc, List.cons_append]
          rw [← ht, hform] at UB
          have HST := Lib.hid (set_swap (P ++ (U1 ++ U2.take t)) u y (U2.drop (t + 1) ++ S))
          rw [hl1, he] at HST
          have hx : ((P ++ (U1 ++ U2.take t)) ++ y :: u :: (U2.drop (t + 1) ++ S))[k]? = some u := by
            rw [List.getElem?_append_right (by omega), hl1, show k - e = 1 by omega]
            rfl
          have hz : ((P ++ (U1 ++ U2.take t)) ++ y :: u :: (U2.drop (t + 1) ++ S))[e]? = some y := by
            rw [List.getElem?_append_right (by omega), hl1, Nat.sub_self]
            rfl
          have HL1 := Lib.hid (List.getElem?_eq_some_iff.1 hx).1
          have HL2 := Lib.hid (List.getElem?_eq_some_iff.1 hz).1
          have a0 : wr.cell? ⟨g, k * 6, none⟩ = some (.int .i64 u.f.k.i) := crow_cell (j := 0) UB.out hx (by omega) rfl
          have a1 : wr.cell? ⟨g, k * 6 + 1, none⟩ = some (.int .u8 (u.f.k.t : Nat)) := crow_cell (j := 1) UB.out hx (by omega) rfl
          have a2 : wr.cell? ⟨g, k * 6 + 2, none⟩ = some (.string u.f.k.n) := crow_cell (j := 2) UB.out hx (by omega) rfl
          have a3 : wr.cell? ⟨g, k * 6 + 3, none⟩ = some (.int .i64 u.f.k.c) := crow_cell (j := 3) UB.out hx (by omega) rfl
          have a4 : wr.cell? ⟨g, k * 6 + 4, none⟩ = some (.slice u.A u.f.v.length u.c) := crow_cell (j := 4) UB.out hx (by omega) rfl
          have a5 : wr.cell? ⟨g, k * 6 + 5, none⟩ = some (.bool u.f.g) := crow_cell (j := 5) UB.out hx (by omega) rfl
          have b0 : wr.cell? ⟨g, e * 6, none⟩ = some (.int .i64 y.f.k.i) := crow_cell (j := 0) UB.out hz (by omega) rfl
          have b1 : wr.cell? ⟨g, e * 6 + 1, none⟩ = some (.int .u8 (y.f.k.t : Nat)) := crow_cell (j := 1) UB.out hz (by omega) rfl
          have b2 : wr.cell? ⟨g, e * 6 + 2, none⟩ = some (.string y.f.k.n) := crow_cell (j := 2) UB.out hz (by omega) rfl
          have b3 : wr.cell? ⟨g, e * 6 + 3, none⟩ = some (.int .i64 y.f.k.c) := crow_cell (j := 3) UB.out hz (by omega) rfl
          have b4 : wr.cell? ⟨g, e * 6 + 4, none⟩ = some (.slice y.A y.f.v.length y.c) := crow_cell (j := 4) UB.out hz (by omega) rfl
          have b5 : wr.cell? ⟨g, e * 6 + 5, none⟩ = some (.bool y.f.g) := crow_cell (j := 5) UB.out hz (by omega) rfl
          have f0 := UB.out.free (k * 6)
          have f1 := UB.out.free (k * 6 + 1)
          have f2 := UB.out.free (k * 6 + 2)
          have f3 := UB.out.free (k * 6 + 3)
          have f4 := UB.out.free (k * 6 + 4)
          have f5 := UB.out.free (k * 6 + 5)
          have h0 := UB.out.free (e * 6)
          have h1 := UB.out.free (e * 6 + 1)
          have h2 := UB.out.free (e * 6 + 2)
          have h3 := UB.out.free (e * 6 + 3)
          have h4 := UB.out.free (e * 6 + 4)
          have h5 := UB.out.free (e * 6 + 5)
          have v1 : (k : Int) < (n : Int) := by omega
          have v2 : (e : Int) < (n : Int) := by omega
          have v3 : (0 : Int) ≤ (k : Int) := by omega
          have v4 : (0 : Int) ≤ (e : Int) := by omega
          have v5 : IntKind.i64.wrap ((k : Int) - 1) = (e : Int) := by rw [IntKind.wrap_i64]; omega
          have hm2 : e + 1 ≤ k := by omega
          have hm3 : k ≤ e + 1 := by omega
          clear hx hz hl1 hd htk hform hyt htq ht he
          generalize (P ++ (U1 ++ U2.take t)) ++ y :: u :: (U2.drop (t + 1) ++ S) = L at *
          go_wp2_with fail
          go_region
          all_goals
            obtain ⟨w5, hw5⟩ : ∃ w5, w5 = ((((((wr.setCell ⟨g, k * 6, none⟩ (.int .i64 y.f.k.i)).setCell ⟨g, k * 6 + 1, none⟩ (.int .u8 (y.f.k.t : Nat))).setCell ⟨g, k * 6 + 2, none⟩ (.string y.f.k.n)).setCell ⟨g, k * 6 + 3, none⟩ (.int .i64 y.f.k.c)).setCell ⟨g, k * 6 + 4, none⟩ (.slice y.A y.f.v.length y.c)).setCell ⟨g, k * 6 + 5, none⟩ (.bool y.f.g)) := ⟨_, rfl⟩
            obtain ⟨bs5, ks5⟩ := crow_put (b := y) UB.out HL1.out hw5
            obtain ⟨w6, hw6⟩ : ∃ w6, w6 = ((((((w5.setCell ⟨g, e * 6, none⟩ (.int .i64 u.f.k.i)).setCell ⟨g, e * 6 + 1, none⟩ (.int .u8 (u.f.k.t : Nat))).setCell ⟨g, e * 6 + 2, none⟩ (.string u.f.k.n)).setCell ⟨g, e * 6 + 3, none⟩ (.int .i64 u.f.k.c)).setCell ⟨g, e * 6 + 4, none⟩ (.slice u.A u.f.v.length u.c)).setCell ⟨g, e * 6 + 5, none⟩ (.bool u.f.g)) := ⟨_, rfl⟩
            obtain ⟨bs6, ks6⟩ := crow_put (b := u) bs5 (by rw [List.length_set]; exact HL2.out) hw6
            rw [HST.out, ← HF2.out] at bs6
            have E6 := Lib.hid bs6.drew
            have K6 : Hid (Kept (· = g) w w6.drew) := ((UK.out.trans ks5 fun _ _ h => h).trans ks6 fun _ _ h => h).drew
            rw [hw5] at hw6
            have HW := Lib.hid hw6
            clear hw5 hw6 bs5 bs6 ks5 ks6 a0 b0 f0 h0 a1 b1 f1 h1 a2 b2 f2 h2 a3 b3 f3 h3 a4 b4 f4 h4 a5 b5 f5 h5
            go_wp2
            go_roundw
            case rel =>
              refine ⟨e, by omega, by omega, by first | rfl | go_num, ?_, ?_⟩
              · have := E6; rw [HW.out] at this; exact this
              · have := K6; rw [HW.out] at this; exact this
            case measure => simp [intOf]; omega
        · have E : Hid (RwcP w g sp (P ++ (U1 ++ (u :: (U2 ++ S)))) (.returned (.tuple #[])) wr) := by
            have := UB.out
            rw [show k - i = 0 by omega, List.take_zero, List.nil_append, List.drop_zero] at this
            exact ⟨rfl, this, UK.out⟩
          clear UB UK HBW KW
          go_wp2
          refine bodyPost_ret (results_none rfl _ _ _) rfl ?_
          exact ⟨U1, U2, hVV.out, F1.out, F2.out, E.out⟩
end Go.Proofs.Ytgdhbnhdmhogkaa
