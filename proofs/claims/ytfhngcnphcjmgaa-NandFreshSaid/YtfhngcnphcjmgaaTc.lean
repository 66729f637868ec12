/-
  Acts played, one behind the other, on a chip and the reference's.
-/
import Derived.Test.YtfhngcnphcjmgaaTb
import Derived.Test.YtfhngcnphcjmgaaNw
namespace Go.Proofs.Ytfhngcnphcjmgaa
open Go.ChangeShapes Go.WideShapes Go.ChangeAt Go.RowKit

theorem pAct_any (w0 : World) (gp : Nat) (s : CSt) (a : ActV) (A B : Option Addr) (n c m e : Nat) (w : World) (hp : PairX w0 w gp s) (hm : ActM w0 a A n c B m e) (hk : New w0 w) (hd : s.deeds < 4611686018427387904)
    (K : Ending → World → Prop) (h : ∀ w', PairX w0 w' gp (actS s a) → New w0 w' → K (.returned (.bool true)) w') :
    Calls Try.prog 47 #[.pointer (some ⟨gp, 0, none⟩), .agg #[.int .i64 a.do_, .int .i64 a.block, .int .i64 a.page, .int .u8 (a.fill : Int), .slice A n c, .slice B m e]] w K := by
  have hp0 := hp
  obtain ⟨Qc, Qr, g, gr, hp⟩ := hp
  by_cases e1 : a.do_ = 1
  · have e2 : actS s a = progS s a.block a.page (actBy a.fill a.bytes s.nz) := by unfold actS; rw [if_pos e1]; rfl
    rw [e2] at h
    rw [e1]
    exact pAct_prog w0 gp Qc Qr g gr s a.block a.page a.fill a.bytes A B n c m e w hp hd hm.bts hm.alen hm.fill hk K h
  by_cases e2 : a.do_ = 2
  · have e3 : actS s a = erasS s a.block := by unfold actS; rw [if_neg e1, if_pos e2]
    rw [e3] at h
    rw [e2]
    exact pAct_erase w0 gp Qc Qr g gr s a.block a.page (a.fill : Int) A B n c m e w hp hd K fun w' h1 h2 => h w' ⟨_, _, _, _, h1⟩ (new_of_kept hk h2 fun b hb => hb.elim (hp.newc b) (hp.newr b))
  by_cases e4 : a.do_ = 4
  · have e3 : actS s a = hitsS s a.hits := by unfold actS; rw [if_neg e1, if_neg e2, if_pos e4]
    rw [e3] at h
    rw [e4]
    exact pAct_hits w0 gp Qc Qr g gr s a.block a.page (a.fill : Int) A B n c m e a.hits w hp hm.hits hm.bnil hm.blen hk K h
  by_cases e5 : a.do_ = 5
  · have e3 : actS s a = powS s := by unfold actS; rw [if_neg e1, if_neg e2, if_neg e4, if_pos e5]
    rw [e3] at h
    rw [e5]
    exact pAct_pow w0 gp Qc Qr g gr s a.block a.page (a.fill : Int) A B n c m e w hp hk K h
  have e6 : actS s a = s := by unfold actS; rw [if_neg e1, if_neg e2, if_neg e4, if_neg e5]
  rw [e6] at h
  by_cases e3 : a.do_ = 3
  · rw [e3]
    exact pAct_read w0 gp Qc Qr g gr s a.block a.page (a.fill : Int) A B n c m e w hp hk K h
  · exact pAct_other gp a.do_ a.block a.page (a.fill : Int) A B n c m e w (by omega) K fun w' hw' => h w' ⟨_, _, _, _, hp.new hw'⟩ (hk.new hw')

/-- A list of acts al it is handed in. -/
def ActsA (w : World) (A : Option Addr) (n : Nat) (al : List ActV) : Prop :=
  al.length = n ∧ (0 < n → ∃ g o, A = some ⟨g, o, none⟩ ∧ ∀ (i : Nat) (a : ActV), al[i]? = some a → ∃ Ab nb cb Bh mh ch,
    w.cell? ⟨g, o + i * 6, none⟩ = some (.int .i64 a.do_) ∧ w.cell? ⟨g, o + i * 6 + 1, none⟩ = some (.int .i64 a.block) ∧ w.cell? ⟨g, o + i * 6 + 2, none⟩ = some (.int .i64 a.page) ∧ w.cell? ⟨g, o + i * 6 + 3, none⟩ = some (.int .u8 (a.fill : Int)) ∧
      w.cell? ⟨g, o + i * 6 + 4, none⟩ = some (.slice Ab nb cb) ∧ w.cell? ⟨g, o + i * 6 + 5, none⟩ = some (.slice Bh mh ch) ∧ ActM w a Ab nb cb Bh mh ch)
theorem ActsA.new {w w' : World} {A : Option Addr} {n : Nat} {al : List ActV} (h : ActsA w A n al) (hk : New w w') : ActsA w' A n al := by
  obtain ⟨h1, h2⟩ := h
  refine ⟨h1, fun h0 => ?_⟩
  obtain ⟨g, o, e, hc⟩ := h2 h0
  refine ⟨g, o, e, fun i a ha => ?_⟩
  obtain ⟨Ab, nb, cb, Bh, mh, ch, c0, c1, c2, c3, c4, c5, c6⟩ := hc i a ha
  exact ⟨Ab, nb, cb, Bh, mh, ch, hk.cell c0 (fun f => f), hk.cell c1 (fun f => f), hk.cell c2 (fun f => f), hk.cell c3 (fun f => f), hk.cell c4 (fun f => f), hk.cell c5 (fun f => f), c6.new hk⟩

theorem geo_store {w w' : World} {b : Nat} {t : TypeId} {c0 c1 c2 c3 v0 v1 v2 v3 : Value} (h : Blk w b t [c0, c1, c2, c3]) (hw : w' = (((w.setCell ⟨b, 0, none⟩ v0).setCell ⟨b, 1, none⟩ v1).setCell ⟨b, 2, none⟩ v2).setCell ⟨b, 3, none⟩ v3) :
    Blk w' b t [v0, v1, v2, v3] ∧ Kept (· = b) w w' := by
  subst hw
  exact ⟨(((h.put 0 v0).put 1 v1).put 2 v2).put 3 v3, (((Kept.set1 w b 0 v0).setCell (p := ⟨b, 1, none⟩) (fun _ => rfl) _).setCell (p := ⟨b, 2, none⟩) (fun _ => rfl) _).setCell (p := ⟨b, 3, none⟩) (fun _ => rfl) _⟩

set_option maxRecDepth 100000 in
set_option maxHeartbeats 1600000 in
theorem played_no (a b c d : Int) (A : Option Addr) (n ca : Nat) (w : World) (hg : ¬ geoOk (wiB a) (wiP b) c d) (K : Ending → World → Prop) (h : ∀ w', New w w' → K (.returned (.tuple #[.pointer none, .bool true])) w') :
    Calls Try.prog 13 #[.agg #[.int .i64 a, .int .i64 b, .int .i64 c, .int .i64 d], .slice A n ca] w K := by
  have HK := Lib.hid h
  have HG := Lib.hid hg
  clear h hg
  go_enter Try.func13, Try.ntmps13
  go_wp2_with fail
  have NB : Hid (New w (w.alloc (.cells #[.int .i64 a, .int .i64 b, .int .i64 c, .int .i64 d] 23))) := (Kept.refl _ _).alloc _
  have BB : Hid (Blk (w.alloc (.cells #[.int .i64 a, .int .i64 b, .int .i64 c, .int .i64 d] 23)) w.heap.size 23 [.int .i64 a, .int .i64 b, .int .i64 c, .int .i64 d]) := Blk.made w _ _
  generalize w.alloc (.cells #[.int .i64 a, .int .i64 b, .int .i64 c, .int .i64 d] 23) = w1 at *
  refine wi_any a b c d _ _ fun wi hwi => ?_
  have NI : Hid (New w wi) := NB.out.new hwi
  have BI : Hid (Blk wi w.heap.size 23 [.int .i64 a, .int .i64 b, .int .i64 c, .int .i64 d]) := BB.out.new hwi
  clear hwi NB BB
  generalize wiB a = x at *
  generalize wiP b = y at *
  have f0 := BI.out.free 0
  have f1 := BI.out.free 1
  have f2 := BI.out.free 2
  have f3 := BI.out.free 3
  have d0 : wi.cell? ⟨w.heap.size, 0, none⟩ = some (.int .i64 a) := BI.out.cell 0
  have d1 : wi.cell? ⟨w.heap.size, 1, none⟩ = some (.int .i64 b) := BI.out.cell 1
  have d2 : wi.cell? ⟨w.heap.size, 2, none⟩ = some (.int .i64 c) := BI.out.cell 2
  have d3 : wi.cell? ⟨w.heap.size, 3, none⟩ = some (.int .i64 d) := BI.out.cell 3
  have hlt := BI.out.lt
  obtain ⟨ws, hws⟩ : ∃ ws, ws = (((wi.setCell ⟨w.heap.size, 0, none⟩ (.int .i64 x)).setCell ⟨w.heap.size, 1, none⟩ (.int .i64 y)).setCell ⟨w.heap.size, 2, none⟩ (.int .i64 c)).setCell ⟨w.heap.size, 3, none⟩ (.int .i64 d) := ⟨_, rfl⟩
  obtain ⟨bs, ks⟩ := geo_store BI.out hws
  have BS := Lib.hid bs
  have KS := Lib.hid ks
  have HWS := Lib.hid hws
  clear hws bs ks
  go_wp2_with fail
  rw [← HWS.out]
  clear HWS f0 f1 f2 f3 d0 d1 d2 d3 hlt
  have NS : Hid (New w ws) := NI.out.trans KS.out (fun i hi h => absurd h (by omega))
  refine (nNew_no x y c d _ HG.out).mono ?_
  rintro e wn ⟨rfl, hn⟩
  have NN : Hid (New w wn) := NS.out.new hn
  have BN : Hid (Blk wn w.heap.size 23 [.int .i64 x, .int .i64 y, .int .i64 c, .int .i64 d]) := BS.out.new hn
  clear hn
  have d0 : wn.cell? ⟨w.heap.size, 0, none⟩ = some (.int .i64 x) := BN.out.cell 0
  have d1 : wn.cell? ⟨w.heap.size, 1, none⟩ = some (.int .i64 y) := BN.out.cell 1
  have d2 : wn.cell? ⟨w.heap.size, 2, none⟩ = some (.int .i64 c) := BN.out.cell 2
  have d3 : wn.cell? ⟨w.heap.size, 3, none⟩ = some (.int .i64 d) := BN.out.cell 3
  go_wp2_with fail
  refine (rNew_no x y c d _ HG.out).mono ?_
  rintro e wr ⟨rfl, hr⟩
  have NR : Hid (New w wr) := NN.out.new hr
  clear hr d0 d1 d2 d3
  go_wp2
  exact HK.out _ NR.out

set_option maxRecDepth 100000 in
set_option maxHeartbeats 1600000 in
theorem played_ok (a b c d : Int) (x y u v : Nat) (A : Option Addr) (n ca : Nat) (al : List ActV) (w : World) (hl : ActsA w A n al) (hg : geoOk x y u v) (hx : wiB a = x) (hy : wiP b = y) (hu : c = u) (hv : d = v)
    (K : Ending → World → Prop) (h : ∀ gp w', PairX w w' gp (playS (newS x y u v) (al.take 40)) → New w w' → K (.returned (.tuple #[.pointer (some ⟨gp, 0, none⟩), .bool true])) w') :
    Calls Try.prog 13 #[.agg #[.int .i64 a, .int .i64 b, .int .i64 c, .int .i64 d], .slice A n ca] w K := by
  have HL := Lib.hid hl
  have HLN := Lib.hid hl.1
  have HX := Lib.hid hx
  have HY := Lib.hid hy
  clear hl hx hy
  subst hu hv
  have HK := Lib.hid h
  have HG := Lib.hid hg
  clear h hg
  go_enter Try.func13, Try.ntmps13
  go_wp2_with fail
  have NB : Hid (New w (w.alloc (.cells #[.int .i64 a, .int .i64 b, .int .i64 (u : Int), .int .i64 (v : Int)] 23))) := (Kept.refl _ _).alloc _
  have BB : Hid (Blk (w.alloc (.cells #[.int .i64 a, .int .i64 b, .int .i64 (u : Int), .int .i64 (v : Int)] 23)) w.heap.size 23 [.int .i64 a, .int .i64 b, .int .i64 (u : Int), .int .i64 (v : Int)]) := Blk.made w _ _
  generalize w.alloc (.cells #[.int .i64 a, .int .i64 b, .int .i64 (u : Int), .int .i64 (v : Int)] 23) = w1 at *
  refine wi_any a b u v _ _ fun wi hwi => ?_
  have NI : Hid (New w wi) := NB.out.new hwi
  have BI : Hid (Blk wi w.heap.size 23 [.int .i64 a, .int .i64 b, .int .i64 (u : Int), .int .i64 (v : Int)]) := BB.out.new hwi
  clear hwi NB BB
  rw [HX.out, HY.out]
  clear HX HY
  have f0 := BI.out.free 0
  have f1 := BI.out.free 1
  have f2 := BI.out.free 2
  have f3 := BI.out.free 3
  have d0 : wi.cell? ⟨w.heap.size, 0, none⟩ = some (.int .i64 a) := BI.out.cell 0
  have d1 : wi.cell? ⟨w.heap.size, 1, none⟩ = some (.int .i64 b) := BI.out.cell 1
  have d2 : wi.cell? ⟨w.heap.size, 2, none⟩ = some (.int .i64 (u : Int)) := BI.out.cell 2
  have d3 : wi.cell? ⟨w.heap.size, 3, none⟩ = some (.int .i64 (v : Int)) := BI.out.cell 3
  have hlt := BI.out.lt
  obtain ⟨ws, hws⟩ : ∃ ws, ws = (((wi.setCell ⟨w.heap.size, 0, none⟩ (.int .i64 (x : Int))).setCell ⟨w.heap.size, 1, none⟩ (.int .i64 (y : Int))).setCell ⟨w.heap.size, 2, none⟩ (.int .i64 (u : Int))).setCell ⟨w.heap.size, 3, none⟩ (.int .i64 (v : Int)) := ⟨_, rfl⟩
  obtain ⟨bs, ks⟩ := geo_store BI.out hws
  have BS := Lib.hid bs
  have KS := Lib.hid ks
  have HWS := Lib.hid hws
  clear hws bs ks
  go_wp2_with fail
  rw [← HWS.out]
  clear HWS f0 f1 f2 f3 d0 d1 d2 d3 hlt
  have NS : Hid (New w ws) := NI.out.trans KS.out (fun i hi h => absurd h (by omega))
  refine (nNew_ok x y u v _ HG.out).mono ?_
  rintro e wn ⟨g, Qc, rfl, h1, h2, h3⟩
  have CN := Lib.hid h1
  have LN := Lib.hid h2
  have NN : Hid (New w wn) := NS.out.new h3
  have BN : Hid (Blk wn w.heap.size 23 [.int .i64 (x : Int), .int .i64 (y : Int), .int .i64 (u : Int), .int .i64 (v : Int)]) := BS.out.new h3
  clear h1 h2 h3
  have d0 : wn.cell? ⟨w.heap.size, 0, none⟩ = some (.int .i64 (x : Int)) := BN.out.cell 0
  have d1 : wn.cell? ⟨w.heap.size, 1, none⟩ = some (.int .i64 (y : Int)) := BN.out.cell 1
  have d2 : wn.cell? ⟨w.heap.size, 2, none⟩ = some (.int .i64 (u : Int)) := BN.out.cell 2
  have d3 : wn.cell? ⟨w.heap.size, 3, none⟩ = some (.int .i64 (v : Int)) := BN.out.cell 3
  go_wp2_with fail
  refine (rNew_ok x y u v _ HG.out).mono ?_
  rintro e wr ⟨gr, Qr, rfl, h1, h2, h3⟩
  have RR := Lib.hid h1
  have LR := Lib.hid h2
  have NR : Hid (New w wr) := NN.out.new h3
  have CR : Hid (NChip Qc wr g (newS x y u v)) := CN.out.new h3
  clear h1 h2 h3 d0 d1 d2 d3
  have PX : Hid (PairX w (wr.alloc (.cells #[.pointer (some ⟨g, 0, none⟩), .pointer (some ⟨gr, 0, none⟩)] 37)) wr.heap.size (playS (newS x y u v) (al.take 0))) := by
    have z1 := NS.out.size
    have z2 := NN.out.size
    exact ⟨Qc, Qr, g, gr, { pair := Blk.made wr _ _, newp := NR.out.size, chip := CR.out.new ((Kept.refl _ _).alloc _), ref := RR.out.new ((Kept.refl _ _).alloc _), apart := fun x h1 h2 => by have := CN.out.low x h1; have := LR.out x h2; omega, newc := fun x h1 => by have := LN.out x h1; omega, newr := fun x h1 => by have := LR.out x h1; omega, pc := fun hh => by have := CR.out.low _ hh; omega, pr := fun hh => by have := RR.out.low _ hh; omega }⟩
  have NX : Hid (New w (wr.alloc (.cells #[.pointer (some ⟨g, 0, none⟩), .pointer (some ⟨gr, 0, none⟩)] 37))) := NR.out.alloc _
  clear CR RR NR CN LN LR NN BN NS KS BS BI NI
  go_wp2_with fail
  go_loopw [11] (fun i wx => ∃ k : Nat, k ≤ n ∧ k ≤ 40 ∧ i = .int .i64 k ∧ Hid (PairX w wx wr.heap.size (playS (newS x y u v) (al.take k))) ∧ Hid (New w wx)) (fun i _ => 40 - (intOf i).toNat)
  case atStart => exact ⟨0, Nat.zero_le _, by omega, rfl, PX, NX⟩
  case round =>
    obtain ⟨k, hk, hk2, rfl, VX, VN⟩ := hrel
    clear PX NX
    by_cases hin : k < n ∧ k < 40
    · obtain ⟨hlt, hlt2⟩ := hin
      obtain ⟨gA, oA, rfl, hc⟩ := HL.out.2 (by omega)
      obtain ⟨act, hact⟩ : ∃ act, al[k]? = some act := ⟨_, List.getElem?_eq_getElem (by rw [HLN.out]; exact hlt)⟩
      obtain ⟨Ab, nb, cb, Bh, mh, ch, c0, c1, c2, c3, c4, c5, c6⟩ := hc k act hact
      have d0 := VN.out.cell c0 (fun f => f)
      have d1 := VN.out.cell c1 (fun f => f)
      have d2 := VN.out.cell c2 (fun f => f)
      have d3 := VN.out.cell c3 (fun f => f)
      have d4 := VN.out.cell c4 (fun f => f)
      have d5 := VN.out.cell c5 (fun f => f)
      have HM := Lib.hid c6
      have HST := Lib.hid (playS_step (newS x y u v) al k act hact)
      have HDD : Hid ((playS (newS x y u v) (al.take k)).deeds < 4611686018427387904) := by
        show _ < _
        have h1 := playS_deeds (al.take k) (newS x y u v)
        have h2 : (newS x y u v).deeds = 0 := rfl
        have h3 : (al.take k).length ≤ k := List.length_take_le _ _
        omega
      clear hc hact c0 c1 c2 c3 c4 c5 c6
      go_wp2_with fail
      refine pAct_any w _ _ act Ab Bh nb cb mh ch _ VX.out HM.out VN.out HDD.out _ fun wy h1 h2 => ?_
      rw [HST.out] at h1
      have VX2 := Lib.hid h1
      have VN2 := Lib.hid h2
      clear h1 h2 d0 d1 d2 d3 d4 d5 HST HDD
      go_wp2
      go_roundw
      case rel => exact ⟨k + 1, by omega, by omega, by go_num, VX2, VN2⟩
      case measure => simp [intOf]; omega
    · have HT : Hid (al.take k = al.take 40) := by
        show _ = _
        rcases Nat.lt_or_ge k n with h | h
        · rw [show k = 40 by omega]
        · rw [List.take_of_length_le (by rw [HLN.out]; omega), List.take_of_length_le (by rw [HLN.out]; omega)]
      have VX2 := VX.out
      rw [HT.out] at VX2
      have VX3 := Lib.hid VX2
      clear VX2 VX HT
      obtain ⟨Qc2, Qr2, g2, gr2, hP⟩ := VX3.out
      have HP := Lib.hid hP
      clear hP
      rcases Nat.lt_or_ge k n with hlt | hlt
      · have hlt2 : ¬ k < 40 := by omega
        clear hin
        go_wp2_with fail
        refine (pSame_any w _ _ _ _ _ _ _ HP.out).mono ?_
        rintro e wz ⟨rfl, hz⟩
        have HZ := Lib.hid hz
        clear hz
        go_wp2
        exact HK.out _ _ ⟨_, _, _, _, HP.out.new HZ.out⟩ (VN.out.new HZ.out)
      · have hlt2 : ¬ k < n := by omega
        clear hin
        go_wp2_with fail
        refine (pSame_any w _ _ _ _ _ _ _ HP.out).mono ?_
        rintro e wz ⟨rfl, hz⟩
        have HZ := Lib.hid hz
        clear hz
        go_wp2
        exact HK.out _ _ ⟨_, _, _, _, HP.out.new HZ.out⟩ (VN.out.new HZ.out)
end Go.Proofs.Ytfhngcnphcjmgaa
