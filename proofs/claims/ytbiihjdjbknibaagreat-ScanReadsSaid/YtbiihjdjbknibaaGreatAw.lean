/-
  The law's chip of whatever blocks, with bad ones; what of an era the program and the reference say alike.
-/
import Derived.Test.YtbiihjdjbknibaaGreatAv
namespace Go.Proofs.YtbiihjdjbknibaaGreat
set_option linter.unusedVariables false
set_option maxRecDepth 100000
open Go.ChangeShapes Go.WideShapes Go.ChangeAt Go.RowKit Go.Deep

def InOk (_ : World) (us : List Value) : Prop := ∃ x : Int, us = [.int .i64 x] ∧ (Lit.int .i64 x).wf = true ∧ -9223372036854775808 ≤ x ∧ x ≤ 9223372036854775807
def ChBad (w : World) (e : Ending) (w' : World) : Prop := ∃ g Q W il, e = .returned (.pointer (some ⟨g, 0, none⟩)) ∧ W.length = 16384 ∧ IsBytes W ∧ Hid (NChip Q w' g (loadS 16 8 128 0 W il)) ∧ Hid (New w w')

section
variable {H : Type} {enc : TypeId × Value → H} {W : World}
theorem Arg.intsR {base : Nat} {v : Value} {d : DataW H} {p : List MemPlace} (h : Arg enc Tryz.prog W base 23 v d p) : ∃ A n c, v = .slice A n c ∧ RowR InOk 1 W A n ∧ n ≤ 17592186044416 := by
  have h1' : Tryz.prog.cellsOf 3 = 1 := by kernel_rfl
  have b8 : Tryz.prog.bytesOf 3 = 8 := by kernel_rfl
  obtain ⟨A, n, c, hcs, hA, h1, h2, h3, hi⟩ := (h.rdsS Tryz.underlying23).list_ Tryz.underlying23 (by rw [h1']; omega)
  rw [h1'] at hi
  rw [b8] at h3
  injection hcs with hv _
  subst hv
  refine ⟨A, n, c, rfl, fun i hin => ?_, by unfold reachBytes at h3; omega⟩
  obtain ⟨g, o, rfl, hx⟩ := hi (by omega)
  obtain ⟨us, d', hl, hu, hr⟩ := hx i hin
  obtain ⟨x, hx2, hw⟩ := hr.int_ Tryz.underlying3
  exact ⟨g, o, us, rfl, hl, hu, x, hx2, hw, i64_bounds hw⟩
end

theorem split_era (s : CSt) (lo : Nat) : ∀ F : List TK, (F.map (bvO s)).Pairwise (fun a b => a.q ≤ b.q) → geS lo F = ((F.map (bvO s)).drop (ctB lo (F.map (bvO s)))).map (·.b) ∧ ltS lo F = ((F.map (bvO s)).take (ctB lo (F.map (bvO s)))).map (·.b)
  | [], _ => ⟨rfl, rfl⟩
  | x :: r, h => by
    have h2 := List.pairwise_cons.1 (show (bvO s x :: r.map (bvO s)).Pairwise _ from h)
    have ih := split_era s lo r h2.2
    unfold geS ltS at *
    rw [List.map_cons]
    by_cases hx : x.s < lo
    · have e : ctB lo (bvO s x :: r.map (bvO s)) = ctB lo (r.map (bvO s)) + 1 := if_pos hx
      rw [e, List.filter_cons, if_neg (by rw [decide_eq_false (by omega)]; decide), List.filter_cons, if_pos (decide_eq_true hx)]
      exact ⟨ih.1, by rw [List.take_succ_cons, List.map_cons, List.map_cons, ih.2]; rfl⟩
    · have e : ctB lo (bvO s x :: r.map (bvO s)) = 0 := if_neg hx
      rw [e]
      have hall : ∀ t ∈ x :: r, lo ≤ t.s := fun t ht => by
        rcases List.mem_cons.1 ht with rfl | ht
        · omega
        · have h3 : x.s ≤ t.s := h2.1 (bvO s t) (List.mem_map_of_mem ht)
          omega
      rw [List.filter_eq_self.2 fun t ht => decide_eq_true (hall t ht), List.filter_eq_nil_iff.2 fun t ht h4 => by have := hall t ht; have := of_decide_eq_true h4; omega]
      exact ⟨by simp [bvO, Function.comp_def], rfl⟩

theorem numCh_bk (s : CSt) : ∀ E : List BV, (∀ b ∈ E, b.l = pgsB s b.b) → numCh s (E.map (·.b)) = bkCh E
  | [], _ => rfl
  | b :: r, h => by
    have ih := numCh_bk s r fun c hc => h c (List.mem_cons_of_mem _ hc)
    unfold numCh bkCh at *
    rw [List.map_cons, List.flatMap_cons, List.flatMap_cons, ih, h b List.mem_cons_self]

/-- What the reference says of an era, in the program's words. -/
theorem era_ref {s : CSt} (h19 : s.nb ≤ 19) (era : Nat) : geS (lsB 0 (eraV s era (refL s s.nb))) (ofL era (refL s s.nb)) = ((eraL s era).drop (eraR s era)).map (·.b) ∧ ltS (lsB 0 (eraV s era (refL s s.nb))) (ofL era (refL s s.nb)) = ((eraL s era).take (eraR s era)).map (·.b) ∧
    apF [] (numCh s (geS (lsB 0 (eraV s era (refL s s.nb))) (ofL era (refL s s.nb)))) = eraF s era := by
  have e1 : eraL s era = eraV s era (refL s s.nb) := by unfold eraL; rw [tkn_any h19]
  have e2 : eraL s era = (ofL era (refL s s.nb)).map (bvO s) := by rw [e1, eraV_of]
  have hp : ((ofL era (refL s s.nb)).map (bvO s)).Pairwise (fun a b => a.q ≤ b.q) := by
    rw [← eraV_of]; exact eraV_pw (refL_pw s s.nb)
  obtain ⟨h1, h2⟩ := split_era s (lsB 0 (eraV s era (refL s s.nb))) _ hp
  have e3 : eraR s era = ctB (lsB 0 (eraV s era (refL s s.nb))) ((ofL era (refL s s.nb)).map (bvO s)) := by unfold eraR; rw [e1, ← eraV_of]
  refine ⟨by rw [h1, e2, e3], by rw [h2, e2, e3], ?_⟩
  unfold eraF
  rw [h1, numCh_bk, e2, e3]
  intro b hb
  obtain ⟨t, _, rfl⟩ := List.mem_map.1 (List.mem_of_mem_drop hb)
  rfl

set_option maxRecDepth 100000 in
set_option maxHeartbeats 6400000 in
theorem chipB_any (A : Option Addr) (n c : Nat) (bdA : Option Addr) (bdn bdc : Nat) (w : World) (hbk : BksIn w A n) (hn : n ≤ maxLen) (hbd : RowR InOk 1 w bdA bdn) (hbn : bdn ≤ 17592186044416) : Calls Tryz.prog 6 #[.slice A n c, .slice bdA bdn bdc] w (ChBad w) := by
  have H := Lib.hid hbk
  have HBD := Lib.hid hbd
  clear hbd
  unfold maxLen at hn
  clear hbk
  have e0 : Hid (geoOk ((16 : Nat) : Int) ((8 : Nat) : Int) ((128 : Nat) : Int) ((0 : Nat) : Int)) := by show geoOk 16 8 128 0; decide
  obtain ⟨i0, hi, hz0, hz1, hz2⟩ := info_parts info_u8
  have hmk := fun u => run_make_bytes (P := Tryz.prog) 52 5 i0 Tryz.underlying52 hi hz0 hz1 hz2 .i64 .i64 16384 16384 16384 16384 rfl rfl (Nat.le_refl _) (by omega) u
  obtain ⟨N, hN⟩ : ∃ N : Nat, N = 16384 := ⟨_, rfl⟩
  have HN := Lib.hid hN
  obtain ⟨Z, hZ⟩ : ∃ Z, Z = List.replicate 16384 0 := ⟨_, rfl⟩
  have HZ : Hid (Z = List.replicate N 0) := by show _ = _; rw [hZ, hN]
  rw [← hZ] at hmk
  clear hZ hN
  have K1 : Hid (New w (w.alloc (.cells #[.int .i64 16, .int .i64 8, .int .i64 128, .int .i64 0] 51))) := (Kept.refl _ _).alloc _
  have BG : Hid (Blk (w.alloc (.cells #[.int .i64 16, .int .i64 8, .int .i64 128, .int .i64 0] 51)) w.heap.size 51 [.int .i64 16, .int .i64 8, .int .i64 128, .int .i64 0]) := Blk.made w _ _
  obtain ⟨w2, hw2⟩ : ∃ w2, w2 = w.alloc (.cells #[.int .i64 16, .int .i64 8, .int .i64 128, .int .i64 0] 51) := ⟨_, rfl⟩
  have hs2 : w.heap.size + 1 = w2.heap.size := by rw [hw2]; simp
  have HS2 := Lib.hid hs2
  rw [← hw2] at K1 BG
  have HW2 := Lib.hid hw2
  have BZ : Hid (Blk (w2.alloc (.cells (rawB Z) 5)) w2.heap.size 5 ((fiN N 0).map byt)) := by rw [fiN_zero, ← HZ.out]; exact Blk.madeB w2 5 Z
  have KZ : Hid (New w2 (w2.alloc (.cells (rawB Z) 5))) := (Kept.refl _ _).alloc _
  clear hw2 hs2
  go_enter Tryz.func6, Tryz.ntmps6
  go_upto_block 0 with fail
  rw [← HW2.out]
  have hgS := HS2.out
  clear HW2 HS2 hmk
  generalize hgg0 : w.heap.size = gg0 at *
  generalize gg0 + 1 = gall at *
  subst hgS
  go_wp2_with fail
  go_loopw [7] (fun i wr => ∃ k : Nat, k ≤ 16384 ∧ i = .int .i64 k ∧ Hid (Blk wr w2.heap.size 5 ((fiN N k).map byt)) ∧ Hid (New w2 wr)) (fun i _ => 16384 - (intOf i).toNat)
  case atStart => exact ⟨0, by omega, rfl, BZ, KZ⟩
  case round =>
    obtain ⟨k, hk, rfl, VB, VK⟩ := hrel
    clear BZ KZ
    by_cases hlt : k < 16384
    · have HKN : Hid (k < N) := by rw [HN.out]; exact hlt
      have hcell : wr.cell? ⟨w2.heap.size, k, none⟩ = some (.int .u8 0) := by rw [VB.out.cell, List.getElem?_map, fiN_get N k HKN.out]; rfl
      have hfree := VB.out.free k
      go_wp2
      go_roundw
      case rel =>
        refine ⟨k + 1, by omega, by go_num, ?_, VK.out.setCell (p := ⟨w2.heap.size, k, none⟩) (fun hh => by simp at hh) _⟩
        have hb1 := VB.out.put k (.int .u8 255)
        rw [set_any _ k 255 (.int .u8 255) rfl, fiN_step N k HKN.out] at hb1
        exact hb1
      case measure => simp [intOf]; omega
    · have hkN : k = N := by have := HN.out; omega
      rw [hkN, fiN_full] at VB
      have VB' := VB
      have HWl : Hid ((scW N).length = 16384) := (scW_len N).trans HN.out
      have HWb := Lib.hid (scW_bytes N)
      have HWW : Hid (scW N = scW 16384) := by rw [Hid, HN.out]
      clear hkN HN HZ
      generalize scW N = W at *
      have VW : Hid (Blk wr w2.heap.size 5 (W.map byt)) := VB
      clear VB HWW
      have hgl : w2.heap.size < wr.heap.size := VB'.out.lt
      have KW := VK
      have hW0 : W.length = 16384 := HWl.out
      clear HWl VK
      go_upto_block 2 with fail
      go_cut [] (fun wx => ∃ W : List Nat, Hid (W.length = 16384) ∧ Hid (IsBytes W) ∧ Hid (Blk wx w2.heap.size 5 (W.map byt)) ∧ Hid (New w2 wx))
      case first =>
        go_wp2_with fail
        go_loopw [8] (fun i wv => ∃ (k : Nat) (W : List Nat), k ≤ 16 ∧ i = .int .i64 k ∧ Hid (W.length = 16384) ∧ Hid (IsBytes W) ∧ Hid (Blk wv w2.heap.size 5 (W.map byt)) ∧ Hid (New w2 wv)) (fun i _ => 16 - (intOf i).toNat)
        case atStart => exact ⟨0, W, by omega, rfl, hW0, HWb, VW, KW⟩
        case round =>
          obtain ⟨k, W, hk, rfl, HWL, HWB, VB, VK⟩ := hrel
          clear VW KW HWb hW0
          by_cases hln : k < n
          · have dn : decide (k < n) = true := decide_eq_true hln
            by_cases hl16 : k < 16
            · have d16 : decide ((k : Int) < 16) = true := decide_eq_true (by omega)
              obtain ⟨g, o, us, rfl, _, hcells, hok⟩ := H.out k hln
              obtain ⟨bb, kk, ee, ss, sA, sn, sc, rfl, hk1, he1, hs1, hsh, hsn⟩ := hok
              have S5 : Hid (∀ u, New w2 u → u.cell? ⟨g, o + k * 5, none⟩ = some (.bool bb) ∧ u.cell? ⟨g, o + k * 5 + 1, none⟩ = some (.int .u8 (kk : Nat)) ∧ u.cell? ⟨g, o + k * 5 + 2, none⟩ = some (.int .u8 (ee : Nat)) ∧ u.cell? ⟨g, o + k * 5 + 3, none⟩ = some (.int .u8 (ss : Nat)) ∧ u.cell? ⟨g, o + k * 5 + 4, none⟩ = some (.slice sA sn sc)) := fun u hu => by
                have key := fun (j : Nat) (v : Value) (hv) => (K1.out.new hu).cell (hcells j v hv) id
                exact ⟨key 0 _ rfl, by have := key 1 _ rfl; rwa [← Nat.add_assoc] at this, by have := key 2 _ rfl; rwa [← Nat.add_assoc] at this, by have := key 3 _ rfl; rwa [← Nat.add_assoc] at this, by have := key 4 _ rfl; rwa [← Nat.add_assoc] at this⟩
              have HSH := Lib.hid hsh
              have CPH : Hid (∀ u, Calls Tryz.prog 19 #[.int .i64 128, .agg #[.int .u8 (kk : Nat), .int .u32 (ee : Nat), .int .u64 (ss : Nat)]] u (RPutHO u 128 kk ee ss)) := fun u => rPutHead_own 128 kk ee ss u hk1 (by omega) (by omega)
              have HP128 : Hid (phE 128 kk ee ss = 0 → (phL 128 kk ee ss).length = 128) := ph128 kk ee ss
              clear hcells hsh
              obtain ⟨a, ha⟩ : ∃ a, a = k * 1024 := ⟨_, rfl⟩
              have sa : (k : Int) * 8 * 128 = (a : Int) := by omega
              have ha15 : a ≤ 15360 := by omega
              clear ha
              have we : IntKind.u32.wrap (ee : Int) = (ee : Int) := by rw [IntKind.wrap_u32]; omega
              have ws : IntKind.u64.wrap (ss : Int) = (ss : Int) := by rw [IntKind.wrap_u64]; omega
              have s1 : (0 : Int) ≤ (k : Int) := by omega
              have s3 : (k : Int) < (n : Int) := by omega
              go_upto_region 11 with fail
              go_cut [10, 11] (fun h e wx => ∃ (hA : Option Addr) (hc hn : Nat) (hl : List Nat) (he : Int), h = .slice hA hn hc ∧ e = .int .i64 he ∧ Hid (hl.length = hn) ∧ Hid (he = 0 → hn = 128) ∧ Hid (∀ b, hA = some b → b.block ≠ w2.heap.size) ∧ Hid (Bts wx hA hn hl) ∧ Hid (Blk wx w2.heap.size 5 (W.map byt)) ∧ Hid (New w2 wx))
              case first =>
                obtain ⟨x0, x1, x2, x3, x4⟩ := S5.out wr VK.out
                have FIN : Hid (∀ (u wH : World) (hA : Option Addr) (c : Nat), New wr u → Hid (OwnB wH 5 u.heap.size hA c (phL 128 kk ee ss)) → Hid (New u wH) → (Hid ((phL 128 kk ee ss).length = (phL 128 kk ee ss).length) ∧ Hid (phE 128 kk ee ss = 0 → (phL 128 kk ee ss).length = 128) ∧ Hid (∀ b, hA = some b → b.block ≠ w2.heap.size) ∧ Hid (Bts wH hA (phL 128 kk ee ss).length (phL 128 kk ee ss)) ∧ Hid (Blk wH w2.heap.size 5 (W.map byt)) ∧ Hid (New w2 wH))) := fun u wH hA c hu ho hk => by
                  refine ⟨rfl, HP128.out, fun b hb e => ?_, ho.out.bts, VB.out.kept (hu.new hk.out) id, VK.out.new (hu.new hk.out)⟩
                  have h1 := (ho.out.at_ b hb).2
                  have h2 := VB.out.lt
                  have h3 := hu.size
                  omega
                clear HP128 VB
                go_wp2_with fail
                go_region_law (first
                  | (go_simp; go_at_call 19; refine (CPH.out _).mono ?_; rintro e wH ⟨hA, hc, rfl, ho, hkk⟩; have F := FIN.out _ wH hA hc (by first | exact Kept.refl _ _ | exact (Kept.refl _ _).drew) ho hkk; clear ho hkk))
                all_goals
                  obtain ⟨f1, f2, f3, f4, f5, f6⟩ := F
                  simp only [Exit.then]
                  refine (‹∀ a w, Met _ a w → _›) _ _ ?_
                  go_meet
                  case rel => exact ⟨hA, hc, _, phL 128 kk ee ss, phE 128 kk ee ss, rfl, rfl, rfl, f2, f3, f4, f5, f6⟩
              case rest =>
                obtain ⟨hA, hc, hn5, hl, he, rfl, rfl, HHL, HHE, OH, TH, BH, NH⟩ := hcut
                clear VB VK CPH HP128 we ws
                go_upto_region 12 with fail
                go_cut [75] (fun v wx => ∃ r : Bool, v = .bool r ∧ Hid (r = true → he = 0) ∧ wc = wx)
                case first =>
                  obtain ⟨x0, x1, x2, x3, x4⟩ := S5.out _ NH.out
                  by_cases h0 : he = 0
                  · have dh : (he == 0) = true := beq_iff_eq.2 h0
                    have H0 := Lib.hid h0
                    clear h0
                    cases bb
                    · go_wp2
                      go_meet
                      case rel => exact ⟨true, rfl, fun _ => H0.out, rfl⟩
                    · go_wp2
                      go_meet
                      case rel => exact ⟨false, rfl, (fun h => by cases h), rfl⟩
                  · have dh : (he == 0) = false := beq_eq_false_iff_ne.2 h0
                    clear h0
                    go_wp2
                    go_meet
                    case rel => exact ⟨false, rfl, (fun h => by cases h), rfl⟩
                case rest =>
                  obtain ⟨r, rfl, HR0, rfl⟩ := hcut
                  go_upto_if 75 with fail
                  go_cut [] (fun wx => ∃ W : List Nat, Hid (W.length = 16384) ∧ Hid (IsBytes W) ∧ Hid (Blk wx w2.heap.size 5 (W.map byt)) ∧ Hid (New w2 wx))
                  case first =>
                    cases r with
                    | false =>
                      go_wp2
                      go_meet
                      exact ⟨W, HWL, HWB, BH, NH⟩
                    | true =>
                      have h128 : hn5 = 128 := HHE.out (HR0.out rfl)
                      clear HR0 HHE
                      go_wp2_with fail
                      go_loopw [12] (fun i wv => ∃ (j : Nat) (W : List Nat), j ≤ 128 ∧ i = .int .i64 j ∧ Hid (W.length = 16384) ∧ Hid (IsBytes W) ∧ Hid (Blk wv w2.heap.size 5 (W.map byt)) ∧ Hid (New w2 wv) ∧ Hid (Bts wv hA hn5 hl)) (fun i _ => 128 - (intOf i).toNat)
                      case atStart => exact ⟨0, W, by omega, rfl, HWL, HWB, BH, NH, TH⟩
                      case round =>
                        obtain ⟨j, W, hj, rfl, HWL, HWB, VB, VK, VT⟩ := hrel
                        by_cases hj1 : j < 128
                        · have d128 : decide ((j : Int) < 128) = true := decide_eq_true (by omega)
                          obtain ⟨gh, oh, y, eH, hy, hyb, hc3⟩ := VT.out.at_ (k := j) (by omega)
                          obtain ⟨z, hcell⟩ := all_get (o := a + j) VB.out HWL.out (by omega)
                          have hfree := VB.out.free (a + j)
                          obtain ⟨W', hW1, hW2, hW3⟩ := all_set (o := a + j) VB.out HWL.out hyb HWB.out
                          have HW1 := Lib.hid hW1
                          have HW2 := Lib.hid hW2
                          have HW3 := Lib.hid hW3
                          have HK3 : Hid (New w2 (wr.setCell ⟨w2.heap.size, a + j, none⟩ (.int .u8 (y : Nat)))) := VK.out.setCell (p := ⟨w2.heap.size, a + j, none⟩) (fun hh => by simp at hh) _
                          have HT3 : Hid (Bts (wr.setCell ⟨w2.heap.size, a + j, none⟩ (.int .u8 (y : Nat))) hA hn5 hl) := VT.out.kept (Kept.set1 wr w2.heap.size (a + j) (.int .u8 (y : Nat))) OH.out
                          subst eH
                          have t1 : (0 : Int) ≤ (j : Int) := by omega
                          have t2 : ((a : Int) + (j : Int)).toNat = a + j := by omega
                          have t3 : (a : Int) + (j : Int) < 16384 := by omega
                          have t4 : (0 : Int) ≤ (a : Int) + (j : Int) := by omega
                          clear hW1 hW2 hW3 hy VB HWL HWB VK VT
                          go_wp2
                          go_roundw
                          case rel => exact ⟨j + 1, W', by omega, by go_num, HW1, HW2, HW3, HK3, HT3⟩
                          case measure => simp [intOf]; omega
                        · have d128 : decide ((j : Int) < 128) = false := decide_eq_false (by omega)
                          go_wp2
                          go_meet
                          exact ⟨W, HWL, HWB, VB, VK⟩
                  case rest =>
                    clear HWL HWB BH NH TH OH HHL HHE HR0
                    obtain ⟨W, HWL, HWB, BH, NH⟩ := hcut
                    go_wp2_with fail
                    go_loopw [13] (fun i wv => ∃ (p : Nat) (W : List Nat), p ≤ 7 ∧ i = .int .i64 p ∧ Hid (W.length = 16384) ∧ Hid (IsBytes W) ∧ Hid (Blk wv w2.heap.size 5 (W.map byt)) ∧ Hid (New w2 wv)) (fun i _ => 7 - (intOf i).toNat)
                    case atStart => exact ⟨0, W, by omega, rfl, HWL, HWB, BH, NH⟩
                    case round =>
                      obtain ⟨p, W, hp, rfl, HWL, HWB, VB, VK⟩ := hrel
                      clear BH NH
                      obtain ⟨x0, x1, x2, x3, x4⟩ := S5.out wr VK.out
                      by_cases hps : p < sn
                      · have dp : decide (p < sn) = true := decide_eq_true hps
                        by_cases hp7 : p < 7
                        · have d7 : decide ((p : Int) < 7) = true := decide_eq_true (by omega)
                          obtain ⟨gs, os, us, eS, _, scells, sok⟩ := HSH.out p hps
                          obtain ⟨sd, cA, cn, cc, ce, q, bA, bn, bc, bl, rfl, hce, hcn, hq, hbl, hbn⟩ := sok
                          subst eS
                          have KA := K1.out.new VK.out
                          have key := fun (j : Nat) (v : Value) (hv) => KA.cell (scells j v hv) id
                          have y0 : wr.cell? ⟨gs, os + p * 4, none⟩ = some (.int .i64 sd) := key 0 _ rfl
                          have y1 : wr.cell? ⟨gs, os + p * 4 + 1, none⟩ = some (.slice cA cn cc) := by have := key 1 _ rfl; rwa [← Nat.add_assoc] at this
                          have y2 : wr.cell? ⟨gs, os + p * 4 + 2, none⟩ = some (.int .u8 (q : Nat)) := by have := key 2 _ rfl; rwa [← Nat.add_assoc] at this
                          have y3 : wr.cell? ⟨gs, os + p * 4 + 3, none⟩ = some (.slice bA bn bc) := by have := key 3 _ rfl; rwa [← Nat.add_assoc] at this
                          have CPG := Lib.hid (page_any sd cA cn cc ce q bA bn bc bl wr (hce.new KA) hcn hq (hbl.new KA) hbn)
                          have p1 : (0 : Int) ≤ (p : Int) := by omega
                          have p2 : (p : Int) < (sn : Int) := by omega
                          clear key scells hce hbl KA
                          go_wp2_with fail
                          refine CPG.out.mono ?_
                          rintro e w3 ⟨pA, pc, pl, rfl, tp, hpb, k3⟩
                          have TP := Lib.hid tp
                          have OP : Hid (∀ b, pA = some b → ¬ b.block = w2.heap.size) := fun b hb e => by
                            have h1 := hpb b hb
                            have h2 := VB.out.lt
                            omega
                          have VB3 := Lib.hid (VB.out.kept k3 id)
                          have VK3 := Lib.hid (VK.out.new k3)
                          clear tp hpb k3 CPG VB VK x0 x1 x2 x3 x4 y0 y1 y2 y3
                          obtain ⟨b, hb⟩ : ∃ b, b = a + (p + 1) * 128 := ⟨_, rfl⟩
                          have sb : (a : Int) + ((p : Int) + 1) * 128 = (b : Int) := by omega
                          have hb2 : b + 128 ≤ 16384 := by omega
                          clear hb
                          go_wp2_with fail
                          go_loopw [15] (fun i wv => ∃ (j : Nat) (W : List Nat), j ≤ 128 ∧ i = .int .i64 j ∧ Hid (W.length = 16384) ∧ Hid (IsBytes W) ∧ Hid (Blk wv w2.heap.size 5 (W.map byt)) ∧ Hid (New w2 wv) ∧ Hid (Bts wv pA 128 pl)) (fun i _ => 128 - (intOf i).toNat)
                          case atStart => exact ⟨0, W, by omega, rfl, HWL, HWB, VB3, VK3, TP⟩
                          case round =>
                            obtain ⟨j, W, hj, rfl, HWL, HWB, VB, VK, VT⟩ := hrel
                            by_cases hj1 : j < 128
                            · have d128 : decide ((j : Int) < 128) = true := decide_eq_true (by omega)
                              obtain ⟨gh, oh, y, eH, hy, hyb, hc3⟩ := VT.out.at_ (k := j) (by omega)
                              obtain ⟨z, hcell⟩ := all_get (o := b + j) VB.out HWL.out (by omega)
                              have hfree := VB.out.free (b + j)
                              obtain ⟨W', hW1, hW2, hW3⟩ := all_set (o := b + j) VB.out HWL.out hyb HWB.out
                              have HW1 := Lib.hid hW1
                              have HW2 := Lib.hid hW2
                              have HW3 := Lib.hid hW3
                              have HK3 : Hid (New w2 (wr.setCell ⟨w2.heap.size, b + j, none⟩ (.int .u8 (y : Nat)))) := VK.out.setCell (p := ⟨w2.heap.size, b + j, none⟩) (fun hh => by simp at hh) _
                              have HT3 : Hid (Bts (wr.setCell ⟨w2.heap.size, b + j, none⟩ (.int .u8 (y : Nat))) pA 128 pl) := VT.out.kept (Kept.set1 wr w2.heap.size (b + j) (.int .u8 (y : Nat))) OP.out
                              subst eH
                              have t1 : (0 : Int) ≤ (j : Int) := by omega
                              have t2 : ((b : Int) + (j : Int)).toNat = b + j := by omega
                              have t3 : (b : Int) + (j : Int) < 16384 := by omega
                              have t4 : (0 : Int) ≤ (b : Int) + (j : Int) := by omega
                              clear hW1 hW2 hW3 hy VB HWL HWB VK VT
                              go_wp2
                              go_roundw
                              case rel => exact ⟨j + 1, W', by omega, by go_num, HW1, HW2, HW3, HK3, HT3⟩
                              case measure => simp [intOf]; omega
                            · have d128 : decide ((j : Int) < 128) = false := decide_eq_false (by omega)
                              clear VT
                              go_wp2
                              go_roundw
                              case rel => exact ⟨p + 1, W, by omega, by go_num, HWL, HWB, VB, VK⟩
                              case measure => simp [intOf]; omega
                        · have d7 : decide ((p : Int) < 7) = false := decide_eq_false (by omega)
                          go_wp2
                          go_roundw
                          case rel => exact ⟨k + 1, W, by omega, by go_num, HWL, HWB, VB, VK⟩
                          case measure => simp [intOf]; omega
                      · have dp : decide (p < sn) = false := decide_eq_false hps
                        go_wp2
                        go_roundw
                        case rel => exact ⟨k + 1, W, by omega, by go_num, HWL, HWB, VB, VK⟩
                        case measure => simp [intOf]; omega
            · have d16 : decide ((k : Int) < 16) = false := decide_eq_false (by omega)
              go_wp2
              go_meet
              exact ⟨W, HWL, HWB, VB, VK⟩
          · have dn : decide (k < n) = false := decide_eq_false hln
            go_wp2
            go_meet
            exact ⟨W, HWL, HWB, VB, VK⟩
      case rest =>
        clear VW KW HWb hW0
        obtain ⟨W, HWL, HWB, VB, VK⟩ := hcut
        have K3 : Hid (New w wc) := K1.out.new VK.out
        have BW3 : Hid (Bts wc (some ⟨w2.heap.size, 0, none⟩) 16384 W) := by simpa [Hid] using Bts.of_blkN (off := 0) (junk := []) (by simpa using VB.out) HWB.out HWL.out
        have BG3 := Lib.hid (BG.out.new VK.out)
        have HW16 := HWL
        clear VB BG HWL
        have hgg := BG3.out.lt
        go_wp2_with fail
        go_loopw [16, 17] (fun o i wv => ∃ (k q : Nat) (X : Option Addr) (d : Nat) (il : List Int), k ≤ bdn ∧ q ≤ k ∧ i = .int .i64 k ∧ o = .slice X q d ∧ Hid (il.length = q) ∧ Hid (∀ x ∈ il, (Lit.int .i64 x).wf = true ∧ 0 ≤ x ∧ x < 16) ∧ Hid (OwnV wv 3 1 wc.heap.size X q d (il.map fun x => .int .i64 x)) ∧ Hid (New wc wv)) (fun _ i _ => bdn - (intOf i).toNat)
        case atStart => exact ⟨0, 0, none, 0, [], Nat.zero_le _, Nat.le_refl _, rfl, rfl, rfl, (by intro x hx; cases hx), OwnV.nil _ _ _ _, Kept.refl _ _⟩
        case round =>
          obtain ⟨k, q, X, d, il, hk, hqk, rfl, rfl, HIL, HIR, VO, VN⟩ := hrel
          by_cases hlt : k < bdn
          · have dk : decide (k < bdn) = true := decide_eq_true hlt
            obtain ⟨gi, oi, us, eB, _, icells, iok⟩ := HBD.out k hlt
            obtain ⟨x, rfl, hwf, hx1, hx2⟩ := iok
            have ix : wr.cell? ⟨gi, oi + k, none⟩ = some (.int .i64 x) := by
              have h1 := icells 0 _ rfl
              have h2 := (K3.out.new VN.out).cell h1 id
              simpa using h2
            subst eB
            have s1 : (0 : Int) ≤ (k : Int) := by omega
            have s3 : (k : Int) < (bdn : Int) := by omega
            by_cases h0 : 0 ≤ x
            · have d0 : decide ((0 : Int) ≤ x) = true := decide_eq_true h0
              by_cases h16 : x < 16
              · have d16 : decide (x < 16) = true := decide_eq_true h16
                obtain ⟨w5, hw5⟩ : ∃ w5, w5 = wr.alloc (.cells #[.int .i64 x] 3) := ⟨_, rfl⟩
                have m5 : New wr w5 := by rw [hw5]; exact (Kept.refl _ _).alloc _
                have B5 : Hid (Blk w5 wr.heap.size 3 [.int .i64 x]) := by rw [hw5]; exact Blk.made wr _ _
                have N5 := Lib.hid (VN.out.new m5)
                have V5 := Lib.hid (VO.out.new m5)
                have HW5 := Lib.hid hw5
                have HIR2 : Hid (∀ y ∈ il ++ [x], (Lit.int .i64 y).wf = true ∧ 0 ≤ y ∧ y < 16) := fun y hy => by
                  rcases List.mem_append.1 hy with h | h
                  · exact HIR.out y h
                  · rw [List.mem_singleton.1 h]; exact ⟨hwf, h0, h16⟩
                clear m5 hw5 VO VN HIR hwf icells h0 h16
                go_wp2_with (at_builtin; rw [← HW5.out]; refine wpList_append_int rfl _ _ rfl wc.heap.size X q d _ rfl V5.out wr.heap.size 1 x rfl B5.out (by omega) N5.out.size ?_)
                intro A6 c6 w6 O6 K6
                have V6 : Hid (OwnV w6 3 1 wc.heap.size A6 (q + 1) c6 ((il ++ [x]).map fun x => .int .i64 x)) := by rw [Hid, List.map_append]; exact O6.out
                have N6 : Hid (New wc w6) := new_row N5.out V5.out K6.out
                have HIL2 : Hid ((il ++ [x]).length = q + 1) := by rw [Hid, List.length_append, HIL.out]; rfl
                clear O6 K6 V5 N5 B5 HW5 HIL ix
                go_wp2
                go_roundw
                case rel => exact ⟨k + 1, q + 1, A6, c6, _, by omega, by omega, by go_num, rfl, HIL2, HIR2, V6, N6⟩
                case measure => simp [intOf]; omega
              · have d16 : decide (x < 16) = false := decide_eq_false h16
                clear h0 h16 hx1 hx2 icells
                go_wp2
                go_roundw
                case rel => exact ⟨k + 1, q, X, d, il, by omega, by omega, by go_num, rfl, HIL, HIR, VO, VN⟩
                case measure => simp [intOf]; omega
            · have d0 : decide ((0 : Int) ≤ x) = false := decide_eq_false h0
              clear h0 hx1 hx2 icells
              go_wp2
              go_roundw
              case rel => exact ⟨k + 1, q, X, d, il, by omega, by omega, by go_num, rfl, HIL, HIR, VO, VN⟩
              case measure => simp [intOf]; omega
          · have dk : decide (k < bdn) = false := decide_eq_false hlt
            have IB : InsN wr .i64 X q il := ⟨HIL.out, fun x hx => (HIR.out x hx).1, fun h0 => by
              obtain ⟨_, hcq, _, ho⟩ := VO.out
              rcases ho with ⟨_, rfl⟩ | ⟨gq, sp, rfl, _, hb, _⟩
              · omega
              · refine ⟨gq, 0, rfl, fun j x hj => ?_⟩
                have hjl : j < il.length := (List.getElem?_eq_some_iff.1 hj).1
                rw [Nat.zero_add, hb.cell, List.getElem?_append_left (by rw [List.length_map]; exact hjl), List.getElem?_map, hj]
                rfl⟩
            have CL := Lib.hid (nLoad_any 16 8 128 0 (some ⟨w2.heap.size, 0, none⟩) 16384 16384 W X q d il wr e0.out (BW3.out.new VN.out) (by intro h; cases h) (by omega) IB (by omega) (by omega))
            have HAI : Hid (allIn 16 il) := fun x hx => ⟨(HIR.out x hx).2.1, by have := (HIR.out x hx).2.2; omega⟩
            have BG4 := BG3.out.kept VN.out id
            have g0 : wr.cell? ⟨gg0, 0, none⟩ = some (.int .i64 16) := BG4.cell 0
            have g1 : wr.cell? ⟨gg0, 1, none⟩ = some (.int .i64 8) := BG4.cell 1
            have g2 : wr.cell? ⟨gg0, 2, none⟩ = some (.int .i64 128) := BG4.cell 2
            have g3 : wr.cell? ⟨gg0, 3, none⟩ = some (.int .i64 0) := BG4.cell 3
            have KF := Lib.hid (K3.out.new VN.out)
            clear IB BG4 VO VN HIR HIL BW3 K1 VK e0 HBD
            go_wp2_with fail
            refine CL.out.mono ?_
            rintro e w4 ⟨h1, -⟩
            obtain ⟨g, Q, rfl, hc, hq, hk⟩ := h1 HAI.out
            have R : Hid (ChBad w (.returned (.pointer (some ⟨g, 0, none⟩))) w4) := ⟨g, Q, W, il, rfl, HW16.out, HWB.out, hc, KF.out.new hk⟩
            clear h1 hc hq hk CL HW16 HWB
            go_wp2
            go_ret
            exact R.out
end Go.Proofs.YtbiihjdjbknibaaGreat
