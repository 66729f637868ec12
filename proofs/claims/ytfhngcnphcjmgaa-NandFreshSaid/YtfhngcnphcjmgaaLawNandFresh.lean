/-
  NandFresh: what is handed in stays, the room behind it too, and what is answered is new memory; for every geometry, every list of acts (the first 40 are played) and every mask.
-/
import Derived.Test.YtfhngcnphcjmgaaTd
namespace Go.Proofs.Ytfhngcnphcjmgaa.nandFresh
open Go.ChangeShapes Go.WideShapes Go.ChangeAt Go.RowKit

theorem own : ownKnob Try.prog.godebug = none := by kernel_rfl
theorem laidOut : laidOutB Try.prog = true := by kernel_rfl

theorem hit_cells (w : World) (gm : Nat) (fails : Bool) (Am : Option Addr) (m cm : Nat) (ml : List Nat) (a : Int) (hb : Bts w Am m ml) (hA : Am = none → cm = 0 ∧ m = 0) (hm : m ≤ cm) (hc : cm ≤ maxLen) (hm2 : m ≤ 140737488351232) (ha : -9223372036854775808 ≤ a ∧ a ≤ 9223372036854775807) (hg : gm = w.heap.size) :
    (∀ x ∈ [(⟨a, fails, ml⟩ : HitI)], HitIOk x) ∧ RowV (w.alloc (.cells #[.int .i64 a, .bool fails, .slice Am m cm] 52)) (some ⟨gm, 0, none⟩) 1 3 [.int .i64 a, .bool fails, .slice Am m cm] ∧
      (∀ u ∈ [Value.int .i64 a, .bool fails, .slice Am m cm], u.oneCell' = true) ∧ ∀ (i : Nat) (x : HitI), [(⟨a, fails, ml⟩ : HitI)][i]? = some x → HitCell (w.alloc (.cells #[.int .i64 a, .bool fails, .slice Am m cm] 52)) [.int .i64 a, .bool fails, .slice Am m cm] i x := by
  subst hg
  have hl := hb.1
  refine ⟨?_, ⟨rfl, fun _ => ⟨w.heap.size, 0, rfl, fun j v hv => ?_⟩⟩, ?_, ?_⟩
  · intro h hh
    simp only [List.mem_singleton] at hh
    subst hh
    exact ⟨ha.2, ha.1, hb.2.1, by show ml.length ≤ _; omega⟩
  · rw [(Blk.made w 52 #[.int .i64 a, .bool fails, .slice Am m cm]).cell, Nat.zero_add]
    exact hv
  · intro u hu
    simp only [List.mem_cons, List.not_mem_nil, or_false] at hu
    rcases hu with rfl | rfl | rfl <;> rfl
  · intro i h hh
    match i, hh with
    | 0, hh =>
      simp only [List.getElem?_cons_zero, Option.some.injEq] at hh
      subst hh
      refine ⟨rfl, rfl, Am, cm, by rw [hl]; rfl, ?_, ?_, ?_, ?_⟩
      · rw [hl]; exact hb.new ((Kept.refl _ _).alloc _)
      · rw [hl]; exact hA
      · show ml.length ≤ cm; omega
      · exact hc

/-- A pair stays where only blocks turn that are younger than it. -/
theorem Pair.young {w0 W w w' : World} {gp : Nat} {Qc Qr S : Nat → Prop} {g gr : Nat} {s s1 : CSt} (hW : Pair w0 W gp Qc Qr g gr s1) (h : Pair w0 w gp Qc Qr g gr s) (hk : Kept S w w') (hS : ∀ b, S b → W.heap.size ≤ b) : Pair w0 w' gp Qc Qr g gr s :=
  { h with pair := h.pair.kept hk fun q => by have := hS _ q; have := hW.pair.lt; omega, chip := h.chip.kept hk fun b h1 h2 => by have := hS b h2; have := hW.lowc b h1; omega, ref := h.ref.kept hk fun b h1 h2 => by have := hS b h2; have := hW.lowr b h1; omega }
theorem Pair.hits {w0 w wa wb : World} {gp : Nat} {Qc Qr : Nat → Prop} {g gr : Nat} {s s' : CSt} (h : Pair w0 w gp Qc Qr g gr s) (h0 : New w0 w) (ka : Kept Qc w wa) (ca : NChip (fun b => Qc b ∨ (w.heap.size ≤ b ∧ b < wa.heap.size)) wa g s') {wa2 : World} (kn : New wa wa2) (kb : Kept Qr wa2 wb) (cb : RChip (fun b => Qr b ∨ (wa2.heap.size ≤ b ∧ b < wb.heap.size)) wb gr s') :
    Pair w0 wb gp (fun b => Qc b ∨ (w.heap.size ≤ b ∧ b < wa.heap.size)) (fun b => Qr b ∨ (wa2.heap.size ≤ b ∧ b < wb.heap.size)) g gr s' := by
  have hgp := h.pair.lt
  have z1 := ka.size
  have z2 := kn.size
  have z3 := h0.size
  exact { pair := ((h.pair.kept ka h.pc).new kn).kept kb h.pr, newp := h.newp,
          chip := (ca.new kn).kept kb fun x h1 h2 => by
            rcases h1 with h1 | h1
            · exact h.apart x h1 h2
            · have := h.lowr x h2; omega
          ref := cb
          apart := fun x h1 h2 => by
            rcases h1 with h1 | h1
            · rcases h2 with h2 | h2
              · exact h.apart x h1 h2
              · have := h.lowc x h1; omega
            · rcases h2 with h2 | h2
              · have := h.lowr x h2; omega
              · omega
          newc := fun x h1 => by
            rcases h1 with h1 | h1
            · exact h.newc x h1
            · omega
          newr := fun x h1 => by
            rcases h1 with h1 | h1
            · exact h.newr x h1
            · omega
          pc := fun h1 => by
            rcases h1 with h1 | h1
            · exact h.pc h1
            · omega
          pr := fun h1 => by
            rcases h1 with h1 | h1
            · exact h.pr h1
            · omega }

theorem Pair.other {w0 w w' : World} {gp : Nat} {Qc Qr S : Nat → Prop} {g gr : Nat} {s : CSt} (h : Pair w0 w gp Qc Qr g gr s) (hk : Kept S w w') (hS : ∀ b, S b → ¬ Qc b ∧ ¬ Qr b ∧ b ≠ gp) : Pair w0 w' gp Qc Qr g gr s :=
  { h with pair := h.pair.kept hk fun q => (hS _ q).2.2 rfl, chip := h.chip.kept hk fun b h1 h2 => (hS b h2).1 h1, ref := h.ref.kept hk fun b h1 h2 => (hS b h2).2.1 h1 }
theorem spoil_n (A : Option Addr) (c B m by_ : Nat) (l : List Nat) (w : World) (h : OwnB w 5 B A c l) (hm : l.length = m) :
    Calls Try.prog 27 #[.slice A m c, .int .u8 (by_ : Nat)] w fun e w' => e = .returned (.tuple #[]) ∧ Kept (blkIs A) w w' := by
  subst hm
  exact spoil_any A c B by_ l w h
theorem left_q (g n d : Nat) (A : Option Addr) (l : List Nat) (w : World) (hv : Blk w g 5 ((l ++ [7, 7, 7]).map byt)) (ha : Bts w A n l) (hn : n ≤ 140737488351232) :
    Calls Try.prog 26 #[.slice (some ⟨g, 0, none⟩) n (n + 3), .slice A n d] w fun e w' => e = .returned (.bool true) ∧ New w w' := by
  refine (left_any g n d A l w hv ha.1 ha hn).mono ?_
  rintro e w' ⟨q, rfl, rfl⟩
  exact ⟨rfl, (Kept.refl _ _).drewN q⟩

set_option maxRecDepth 100000 in
set_option maxHeartbeats 6400000 in
theorem walk (a b c d : Int) (A : Option Addr) (n ca : Nat) (al : List ActV) (AA : Option Addr) (na cc : Nat) (ml : List Nat) (w : World) (hl : ActsA w A n al) (hz : IsB w (.slice AA na cc) AA na cc ml) :
    Calls Try.prog 6 #[.agg #[.int .i64 a, .int .i64 b, .int .i64 c, .int .i64 d], .slice A n ca, .slice AA na cc] w (True1 w) := by
  have HL := Lib.hid hl
  have HZ := Lib.hid hz
  have hna := hz.le
  have hcc := hz.cap
  clear hl hz
  by_cases hg : geoOk (wiB a) (wiP b) c d
  · obtain ⟨x, y, u, v, hx, hy, hu, hv⟩ := geo_nat hg
    rw [hx, hy, hu, hv] at hg
    have HG := Lib.hid hg
    have HX := Lib.hid hx
    have HY := Lib.hid hy
    have HU := Lib.hid hu
    have HV := Lib.hid hv
    clear hg hx hy hu hv
    go_enter Try.func6, Try.ntmps6
    go_wp2_with fail
    have A0 : Hid (New w (w.alloc (.cells #[.int .i64 a, .int .i64 b, .int .i64 c, .int .i64 d] 23))) := (Kept.refl _ _).alloc _
    generalize w.alloc (.cells #[.int .i64 a, .int .i64 b, .int .i64 c, .int .i64 d] 23) = wg at *
    refine played_ok a b c d x y u v A n ca al _ (HL.out.new A0.out) HG.out HX.out HY.out HU.out HV.out _ fun gp w1 h1 h2 => ?_
    have HDS : Hid ((playS (newS x y u v) (al.take 40)).deeds ≤ 40) := by
      show _ ≤ _
      have h1 := playS_deeds (al.take 40) (newS x y u v)
      have h2 : (newS x y u v).deeds = 0 := rfl
      have h3 : (al.take 40).length ≤ 40 := List.length_take_le _ _
      omega
    generalize playS (newS x y u v) (al.take 40) = s at *
    obtain ⟨Qc, Qr, g, gr, hP⟩ := h1
    have P1 := Lib.hid hP
    have N1 : Hid (New w w1) := A0.out.new h2
    have G1 : Hid (New wg w1) := h2
    have HM1 : Hid (Bts w1 AA na ml) := HZ.out.bts.new N1.out
    clear h2 hP HL
    go_wp2_with fail
    refine (wide_any AA na cc ml _ HM1.out (by omega)).mono ?_
    rintro e w2 ⟨gv, rfl, h1, h2, h3⟩
    have hlm : ml.length = na := HM1.out.1
    rw [hlm]
    have V2 := Lib.hid h1
    have LV := Lib.hid h2
    have N2 := Lib.hid h3
    have P2 := Lib.hid (P1.out.new h3)
    have HMLN := Lib.hid hlm
    have HBV : Hid (Bts w2 (some ⟨gv, 0, none⟩) na ml) := by
      have h4 : Blk w2 gv 5 (ml.map byt ++ ([7, 7, 7] : List Nat).map byt) := by rw [← List.map_append]; exact h1
      simpa [Hid] using Bts.of_blkN (off := 0) h4 HM1.out.2.1 hlm
    have HC := Lib.hid (hit_cells w2 w2.heap.size false (some ⟨gv, 0, none⟩) na (na + 3) ml 1 HBV.out (by intro h; cases h) (by omega) (by unfold maxLen; omega) (by omega) (by omega) rfl)
    have K2 : Hid (New w2 (w2.alloc (.cells #[.int .i64 1, .bool false, .slice (some ⟨gv, 0, none⟩) na (na + 3)] 52))) := (Kept.refl _ _).alloc _
    have HT : Hid (HitsA (w2.alloc (.cells #[.int .i64 1, .bool false, .slice (some ⟨gv, 0, none⟩) na (na + 3)] 52)) (some ⟨w2.heap.size, 0, none⟩) 1 [⟨1, false, ml⟩]) := ⟨rfl, HC.out.1, _, HC.out.2.1, HC.out.2.2.1, HC.out.2.2.2⟩
    have HNC : Hid (∀ b, Qc b → w.heap.size ≤ b ∧ b < w1.heap.size) := fun b hb => ⟨Nat.le_trans A0.out.size (P1.out.newc b hb), P1.out.lowc b hb⟩
    have HNR : Hid (∀ b, Qr b → w.heap.size ≤ b ∧ b < w1.heap.size) := fun b hb => ⟨Nat.le_trans A0.out.size (P1.out.newr b hb), P1.out.lowr b hb⟩
    have HGP : Hid (gp < w1.heap.size) := P1.out.pair.lt
    have p0 : w2.cell? ⟨gp, 0, none⟩ = some (.pointer (some ⟨g, 0, none⟩)) := P2.out.pair.cell 0
    have hlp := P2.out.pair.lt
    have NN2 : Hid (New w w2) := N1.out.new N2.out
    clear h1 h2 h3 hlm HC HM1
    go_wp2_with fail
    generalize hw3 : w2.alloc (.cells #[.int .i64 1, .bool false, .slice (some ⟨gv, 0, none⟩) na (na + 3)] 52) = w3 at *
    have P3 : Hid (Pair wg w3 gp Qc Qr g gr s) := P2.out.new K2.out
    have N3 : Hid (New w w3) := NN2.out.new K2.out
    have G3 : Hid (New wg w3) := (G1.out.new N2.out).new K2.out
    have V3 : Hid (Blk w3 gv 5 ((ml ++ [7, 7, 7]).map byt)) := V2.out.new K2.out
    have LZ3 : Hid (w1.heap.size ≤ gv ∧ gv < w3.heap.size) := ⟨LV.out, V3.out.lt⟩
    clear hw3
    refine (nHits_any Qc g s _ 1 1 [⟨1, false, ml⟩] _ P3.out.chip HT.out (by intro h; cases h) (by omega)).mono ?_
    rintro e w4 ⟨rfl, h1, h2⟩
    have CA := Lib.hid h1
    have KA := Lib.hid h2
    have p1 : w4.cell? ⟨gp, 1, none⟩ = some (.pointer (some ⟨gr, 0, none⟩)) := (P3.out.pair.kept h2 P3.out.pc).cell 1
    have hlp4 : gp < w4.heap.size := (P3.out.pair.kept h2 P3.out.pc).lt
    have N4 : Hid (New w w4) := new_of_kept N3.out h2 fun b hb => (HNC.out b hb).1
    have HM4 : Hid (Bts w4 AA na ml) := HZ.out.bts.new N4.out
    have K4 : Hid (New w4 (w4.alloc (.cells #[.int .i64 1, .bool false, .slice AA na cc] 52))) := (Kept.refl _ _).alloc _
    have HC := Lib.hid (hit_cells w4 w4.heap.size false AA na cc ml 1 HM4.out HZ.out.nil hna (by unfold maxLen; omega) (by omega) (by omega) rfl)
    clear h1 h2 p0 hlp HT
    go_wp2_with fail
    generalize hw5 : w4.alloc (.cells #[.int .i64 1, .bool false, .slice AA na cc] 52) = w5 at *
    clear hw5
    have RF : Hid (RChip Qr w5 gr s) := (P3.out.ref.kept KA.out fun b h1 h2 => P3.out.apart b h2 h1).new K4.out
    refine (rStrike_any Qr gr s _ 1 1 [⟨1, false, ml⟩] _ _ RF.out rfl HC.out.1 HC.out.2.1 HC.out.2.2.2 (by omega) (fun _ a ha => ?_) (fun i a m c' h0 hv => ?_)).mono ?_
    · obtain ⟨gc, gb, cc', cb, Ah, ch, hr⟩ := RF.out
      injection ha with ha
      subst ha
      have h5 := (HNR.out _ hr.qg).2
      have h6 := hlp4
      have h7 := KA.out.size
      have h8 := G3.out.size
      have h9 := LZ3.out
      show w4.heap.size ≠ gr
      omega
    · obtain ⟨gc, gb, cc', cb, Ah, ch, hr⟩ := RF.out
      have h5 := (HNR.out _ hr.qg).1
      match i, hv with
      | 0, hv =>
        simp at hv
        obtain ⟨rfl, rfl, rfl⟩ := hv
        have h6 := HZ.out.bts.old h0 a rfl
        omega
      | i + 1, hv =>
        rw [List.getElem?_eq_none (by simp; omega)] at hv
        cases hv
    rintro e w6 ⟨rfl, h1, h2⟩
    have KB := Lib.hid h2
    have P6 := Lib.hid (Pair.hits P3.out G3.out KA.out CA.out K4.out KB.out h1)
    have N6 : Hid (New w w6) := new_of_kept (N4.out.new K4.out) h2 fun b hb => (HNR.out b hb).1
    have V6 : Hid (Blk w6 gv 5 ((ml ++ [7, 7, 7]).map byt)) := ((V3.out.kept KA.out fun q => by have := (HNC.out _ q).2; have := LZ3.out; omega).new K4.out).kept KB.out fun q => by have := (HNR.out _ q).2; have := LZ3.out; omega
    have HM6 : Hid (Bts w6 AA na ml) := HZ.out.bts.new N6.out
    have hgz : Hid (∀ b, b = gv → ¬ (fun b => Qc b ∨ (w3.heap.size ≤ b ∧ b < w4.heap.size)) b ∧ ¬ (fun b => Qr b ∨ (w5.heap.size ≤ b ∧ b < w6.heap.size)) b ∧ b ≠ gp) := fun b hb => by
      subst hb
      have h5 := LZ3.out
      have h6 := KA.out.size
      have h7 := K4.out.size
      have h8 := HGP.out
      refine ⟨fun q => ?_, fun q => ?_, by omega⟩
      · have q : Qc b ∨ (w3.heap.size ≤ b ∧ b < w4.heap.size) := q
        rcases q with q | q
        · have := (HNC.out _ q).2; omega
        · omega
      · have q : Qr b ∨ (w5.heap.size ≤ b ∧ b < w6.heap.size) := q
        rcases q with q | q
        · have := (HNR.out _ q).2; omega
        · omega
    clear h1 h2 p1 hlp4 RF HC CA K4 HM4 N4 N3 G3 V3 P3 V2 N2 P2 HBV K2 NN2 KA KB
    generalize (fun b => Qc b ∨ (w3.heap.size ≤ b ∧ b < w4.heap.size)) = Sc at P6 hgz
    generalize (fun b => Qr b ∨ (w5.heap.size ≤ b ∧ b < w6.heap.size)) = Sr at P6 hgz
    have HS4 : Hid ((hitsS s [⟨1, false, ml⟩]).deeds ≤ 40 ∧ (hitsS s [⟨1, false, ml⟩]).nz = s.nz) := by
      rw [hitsS_deeds]
      exact ⟨HDS.out, (hitsS_geo _ _).2.2.1⟩
    generalize hitsS s [⟨1, false, ml⟩] = s4 at *
    have HB7 : Hid (∀ x ∈ ml ++ [7, 7, 7], x < 256) := fun x hx => by
      rcases List.mem_append.1 hx with h | h
      · exact HZ.out.bts.2.1 x h
      · simp at h; omega
    go_wp2_with fail
    refine (left_q gv na cc AA ml _ V6.out HM6.out (by omega)).mono ?_
    rintro e w7 ⟨rfl, h1⟩
    have P7 := Lib.hid (P6.out.new h1)
    have V7 := Lib.hid (V6.out.new h1)
    have N7 : Hid (New w w7) := N6.out.new h1
    clear h1 P6 V6 HM6 N6
    go_wp2_with fail
    refine (spoil_n _ _ gv na 1 ml _ (OwnB.of_blk (sp := [7, 7, 7]) V7.out (Nat.le_refl _) HB7.out (by rw [HMLN.out]; rfl) (by unfold maxLen; omega)) HMLN.out).mono ?_
    rintro e w8 ⟨rfl, h1⟩
    have hb8 : ∀ b, blkIs (some ⟨gv, 0, none⟩) b → b = gv := fun b hb => by
      obtain ⟨a, ha, rfl⟩ := hb
      injection ha with ha
      subst ha
      rfl
    have P8 := Lib.hid (Pair.other P7.out h1 fun b hb => hgz.out b (hb8 b hb))
    have N8 : Hid (New w w8) := new_of_kept N7.out h1 fun b hb => by
      have h2 := LZ3.out.1
      have h3 := N1.out.size
      rw [hb8 b hb]
      omega
    have p0 : w8.cell? ⟨gp, 0, none⟩ = some (.pointer (some ⟨g, 0, none⟩)) := P8.out.pair.cell 0
    have hlp := P8.out.pair.lt
    clear h1 hb8 P7 V7 N7
    go_wp2_with fail
    refine (nRead_any _ _ _ 0 0 _ P8.out.chip).mono ?_
    rintro e w9 ⟨A9, c9, rfl, h1, h2⟩
    have O9 := Lib.hid h1
    have P9 := Lib.hid (P8.out.new h2)
    have N9 : Hid (New w w9) := N8.out.new h2
    generalize readL s4 0 0 = L9 at *
    generalize readE s4 0 0 = E9 at *
    clear h1 h2 p0 hlp
    go_wp2_with fail
    refine (spoil_n A9 c9 w8.heap.size L9.length 1 L9 _ O9.out rfl).mono ?_
    rintro e w10 ⟨rfl, h1⟩
    have hb10 : ∀ b, blkIs A9 b → w8.heap.size ≤ b := fun b hb => by
      obtain ⟨a, ha, rfl⟩ := hb
      exact (O9.out.at_ a ha).2
    have P10 := Lib.hid (Pair.young P8.out P9.out h1 hb10)
    have N10 : Hid (New w w10) := new_of_kept N9.out h1 fun b hb => Nat.le_trans N8.out.size (hb10 b hb)
    have p0 : w10.cell? ⟨gp, 0, none⟩ = some (.pointer (some ⟨g, 0, none⟩)) := P10.out.pair.cell 0
    have hlp := P10.out.pair.lt
    clear h1 hb10 O9 P8 P9 N9 N8
    go_wp2_with fail
    refine (nBytes_any _ _ _ _ P10.out.chip).mono ?_
    rintro e w11 ⟨A11, c11, rfl, h1, h2⟩
    have O11 := Lib.hid h1
    have P11 := Lib.hid (P10.out.new h2)
    have N11 : Hid (New w w11) := N10.out.new h2
    clear h1 h2 p0 hlp
    go_wp2_with fail
    refine (spoil_n A11 c11 w10.heap.size s4.by_.length 1 s4.by_ _ O11.out rfl).mono ?_
    rintro e w12 ⟨rfl, h1⟩
    have hb12 : ∀ b, blkIs A11 b → w10.heap.size ≤ b := fun b hb => by
      obtain ⟨a, ha, rfl⟩ := hb
      exact (O11.out.at_ a ha).2
    have P12 := Lib.hid (Pair.young P10.out P11.out h1 hb12)
    have N12 : Hid (New w w12) := new_of_kept N11.out h1 fun b hb => Nat.le_trans N10.out.size (hb12 b hb)
    have p1 : w12.cell? ⟨gp, 1, none⟩ = some (.pointer (some ⟨gr, 0, none⟩)) := P12.out.pair.cell 1
    have q2 : w12.cell? ⟨gr, 2, none⟩ = some (.int .i64 (s4.nz : Nat)) := by
      obtain ⟨gc, gb, cc', cb, Ah, ch, hr⟩ := P12.out.ref
      exact hr.c2
    have hNZ := P12.out.chip.ok.nz2
    obtain ⟨i1, hi1, hz10, hz11, hz12⟩ := info_parts info_u8
    have hmk1 := fun u => run_make_bytes (P := Try.prog) 30 5 i1 Try.underlying30 hi1 hz10 hz11 hz12 .i64 .i64 ((s4.nz : Nat) : Int) ((s4.nz : Nat) : Int) s4.nz s4.nz rfl rfl (Nat.le_refl _) (by omega) u
    clear h1 hb12 O11 P10 P11 N11 N10 hi1 hz10 hz11 hz12
    have P13 : Hid (Pair wg (w12.alloc (.cells (rawB (List.replicate s4.nz 0)) 5)) gp Sc Sr g gr s4) := P12.out.new ((Kept.refl _ _).alloc _)
    have N13 : Hid (New w (w12.alloc (.cells (rawB (List.replicate s4.nz 0)) 5))) := N12.out.alloc _
    have W13 : Hid (Blk (w12.alloc (.cells (rawB (List.replicate s4.nz 0)) 5)) w12.heap.size 5 ((List.replicate s4.nz 0).map byt)) := Blk.madeB w12 5 (List.replicate s4.nz 0)
    have LW : Hid (∀ b, (Sc b ∨ Sr b ∨ b = gp) → b < w12.heap.size) := fun b hb => by
      rcases hb with hb | hb | hb
      · exact P12.out.lowc b hb
      · exact P12.out.lowr b hb
      · subst hb; exact P12.out.pair.lt
    have LWW : Hid (w.heap.size ≤ w12.heap.size) := N12.out.size
    obtain ⟨Zr, hZr⟩ : ∃ Zr, Zr = List.replicate s4.nz 0 := ⟨_, rfl⟩
    have HZl : Hid (Zr.length = s4.nz) := by rw [hZr]; show _ = _; simp
    have HZb : Hid (IsBytes Zr) := by rw [hZr]; exact zeros_lt
    rw [← hZr] at P13 N13 W13 hmk1
    obtain ⟨w13, hw13⟩ : ∃ w13, w13 = w12.alloc (.cells (rawB Zr) 5) := ⟨_, rfl⟩
    have HW13 := Lib.hid hw13
    rw [← hw13] at P13 N13 W13
    have HWs : Hid (w12.heap.size < w13.heap.size) := W13.out.lt
    clear hw13 hZr P12 N12
    go_wp2_with fail
    rw [← HW13.out]
    clear HW13 hmk1 p1 q2
    have HBW : Hid (Bts w13 (some ⟨w12.heap.size, 0, none⟩) s4.nz Zr) := by simpa [Hid] using Bts.of_blkN (off := 0) (junk := []) (by simpa using W13.out) HZb.out HZl.out
    refine (wide_any _ s4.nz _ Zr _ HBW.out (by omega)).mono ?_
    rintro e w14 ⟨gu, rfl, h1, h2, h3⟩
    rw [HZl.out]
    have U14 := Lib.hid h1
    have LU := Lib.hid h2
    have W14 := Lib.hid (W13.out.new h3)
    have P14 := Lib.hid (P13.out.new h3)
    have N14 : Hid (New w w14) := N13.out.new h3
    have U0 : Hid (∀ wx, Blk wx gu 5 ((Zr ++ [7, 7, 7]).map byt) → Bts wx (some ⟨gu, 0, none⟩) s4.nz Zr) := fun wx hx => by
      have h4 : Blk wx gu 5 (Zr.map byt ++ ([7, 7, 7] : List Nat).map byt) := by rw [← List.map_append]; exact hx
      simpa [Hid] using Bts.of_blkN (off := 0) h4 HZb.out HZl.out
    have W0 : Hid (∀ wx, Blk wx w12.heap.size 5 (Zr.map byt) → Bts wx (some ⟨w12.heap.size, 0, none⟩) s4.nz Zr) := fun wx hx => by
      simpa [Hid] using Bts.of_blkN (off := 0) (junk := []) (by simpa using hx) HZb.out HZl.out
    have DU : Hid (¬ Sc gu ∧ ¬ Sr gu ∧ ¬ Sc w12.heap.size ∧ ¬ Sr w12.heap.size) := by
      have h5 := LU.out
      have h6 := HWs.out
      refine ⟨fun q => ?_, fun q => ?_, fun q => ?_, fun q => ?_⟩
      · have := LW.out _ (.inl q); omega
      · have := LW.out _ (.inr (.inl q)); omega
      · have := LW.out _ (.inl q); omega
      · have := LW.out _ (.inr (.inl q)); omega
    have LG : Hid (∀ b, (Sc b ∨ Sr b) → w.heap.size ≤ b) := fun b hb => by
      have h5 := A0.out.size
      rcases hb with hb | hb
      · have := P14.out.newc b hb; omega
      · have := P14.out.newr b hb; omega
    clear h1 h2 h3 HBW P13 N13 W13
    go_wp2_with fail
    go_loopw [15] (fun i wr => ∃ (k : Nat) (s' : CSt), k ≤ 3 ∧ i = .int .i64 k ∧ Hid (Pair wg wr gp Sc Sr g gr s') ∧ Hid (s'.deeds ≤ 40 + k) ∧ Hid (Blk wr gu 5 ((Zr ++ [7, 7, 7]).map byt)) ∧ Hid (Blk wr w12.heap.size 5 (Zr.map byt)) ∧ Hid (New w wr)) (fun i _ => 3 - (intOf i).toNat)
    case atStart => exact ⟨0, s4, by omega, rfl, P14, HS4.out.1, U14, W14, N14⟩
    case round =>
      obtain ⟨k, s', hk, rfl, VP, VD, VU, VW, VN⟩ := hrel
      clear P14 U14 W14 N14
      by_cases hlt : k < 3
      · have SB : Hid (∀ wx wy, Kept Sc wr wx → Kept Sr wx wy → wy.cell? ⟨gp, 0, none⟩ = some (.pointer (some ⟨g, 0, none⟩)) ∧ wy.cell? ⟨gp, 1, none⟩ = some (.pointer (some ⟨gr, 0, none⟩))) := fun wx wy h1 h2 =>
          have q1 := (VP.out.pair.kept h1 VP.out.pc).kept h2 VP.out.pr
          ⟨q1.cell 0, q1.cell 1⟩
        have D1 : Hid (Kept Sc wr wr.drew) := (Kept.refl _ _).drew
        have NC : Hid (NChip Sc wr.drew g s') := VP.out.chip.new ((Kept.refl _ _).drew)
        have RC : Hid (∀ wx, Kept Sc wr.drew wx → RChip Sr wx gr s') := fun wx h1 => (VP.out.ref.new ((Kept.refl _ _).drew)).kept h1 fun x h2 h3 => VP.out.apart x h3 h2
        have BU : Hid (Bts wr.drew (some ⟨gu, 0, none⟩) s4.nz Zr) := U0.out _ VU.out
        have BWX : Hid (∀ wx, Kept Sc wr.drew wx → Bts wx (some ⟨w12.heap.size, 0, none⟩) s4.nz Zr) := fun wx h1 => W0.out _ (VW.out.drew.kept h1 DU.out.2.2.1)
        have UX : Hid (∀ wx wy, Kept Sc wr wx → Kept Sr wx wy → Blk wy gu 5 ((Zr ++ [7, 7, 7]).map byt) ∧ Blk wy w12.heap.size 5 (Zr.map byt)) := fun wx wy h1 h2 =>
          ⟨(VU.out.kept h1 DU.out.1).kept h2 DU.out.2.1, (VW.out.kept h1 DU.out.2.2.1).kept h2 DU.out.2.2.2⟩
        have HD : Hid (s'.deeds < 4611686018427387904) := by have := VD.out; show _ < _; omega
        have G1u : Hid (∀ a, (some ⟨gu, 0, none⟩ : Option Addr) = some a → ¬ Sc a.block) := fun a ha => by injection ha with ha; subst ha; exact DU.out.1
        have G1w : Hid (∀ a, (some ⟨w12.heap.size, 0, none⟩ : Option Addr) = some a → ¬ Sr a.block) := fun a ha => by injection ha with ha; subst ha; exact DU.out.2.2.2
        obtain ⟨s1, s2⟩ := SB.out wr wr (Kept.refl _ _) (Kept.refl _ _)
        go_wp2_with fail
        go_region_held3 (fun wx => wx.cell? ⟨gp, 0, none⟩ = some (.pointer (some ⟨g, 0, none⟩)) ∧ wx.cell? ⟨gp, 1, none⟩ = some (.pointer (some ⟨gr, 0, none⟩)))
          (first
            | assumption
            | exact SB.out _ _ (Kept.refl _ _) (Kept.refl _ _)
            | exact SB.out _ _ D1.out (Kept.refl _ _)
            | exact SB.out _ _ (D1.out.trans KA.out fun _ _ x => x) (KB.out.new KL.out)
            | exact SB.out _ _ (D1.out.trans KA.out fun _ _ x => x) KB.out
            | exact SB.out _ _ (D1.out.trans KA.out fun _ _ x => x) (Kept.refl _ _)
            | fail)
          (first
            | (go_at_call 16; refine (nProg_any Sc g s' k 3 s4.nz _ _ Zr _ NC.out HD.out BU.out G1u.out).mono ?_; rintro e wA ⟨rfl, h1, h2⟩; have CA := Lib.hid h1; have KA := Lib.hid h2; clear h1 h2)
            | (go_at_call 28; refine (rProg_any Sr gr s' k 3 s4.nz _ _ Zr _ (RC.out _ KA.out) HD.out (BWX.out _ KA.out) G1w.out).mono ?_; rintro e wB ⟨rfl, h1, h2⟩; have CB := Lib.hid h1; have KB := Lib.hid h2; clear h1 h2)
            | (go_at_call 26; refine (left_q gu s4.nz _ _ Zr _ (UX.out _ _ (D1.out.trans KA.out fun _ _ x => x) KB.out).1 (W0.out _ (UX.out _ _ (D1.out.trans KA.out fun _ _ x => x) KB.out).2) (by omega)).mono ?_; rintro e wL ⟨rfl, h1⟩; have KL := Lib.hid h1; clear h1))
        all_goals
          have KK : Hid (Kept Sc wr wA) := D1.out.trans KA.out fun _ _ x => x
          have PE : Hid (Pair wg wL gp Sc Sr g gr (progS s' k 3 Zr)) := (VP.out.step2 KK.out CA.out KB.out CB.out).new KL.out
          have DE : Hid ((progS s' k 3 Zr).deeds ≤ 40 + (k + 1)) := by have h1 := progS_deeds s' k 3 Zr; have h2 := VD.out; show _ ≤ _; omega
          have UE := Lib.hid ((UX.out _ _ KK.out KB.out).1.new KL.out)
          have WE := Lib.hid ((UX.out _ _ KK.out KB.out).2.new KL.out)
          have NE : Hid (New w wL) := (new_of_kept (new_of_kept VN.out KK.out fun b hb => LG.out b (.inl hb)) KB.out fun b hb => LG.out b (.inr hb)).new KL.out
          clear SB D1 NC RC BU BWX UX HD s1 s2
          go_wp2_with fail
          go_roundw
          case rel => exact ⟨k + 1, _, by omega, by go_num, PE, DE, UE, WE, NE⟩
          case measure => simp [intOf]; omega
      · go_wp2_with fail
        refine (pSame_any wg _ _ _ _ _ _ _ VP.out).mono ?_
        rintro e wz ⟨rfl, hz⟩
        have NZ : Hid (New w wz) := VN.out.new hz
        clear hz
        go_wp2_with fail
        refine (worksN_k NZ).mono ?_
        rintro e w9 ⟨rfl, k9⟩
        have K9 := Lib.hid k9
        clear k9
        go_wp2
        go_ret
        exact ⟨rfl, K9.out⟩
  · have HG := Lib.hid hg
    clear hg
    go_enter Try.func6, Try.ntmps6
    go_wp2_with fail
    have A0 : Hid (New w (w.alloc (.cells #[.int .i64 a, .int .i64 b, .int .i64 c, .int .i64 d] 23))) := (Kept.refl _ _).alloc _
    refine played_no a b c d A n ca _ HG.out _ fun w1 h2 => ?_
    have N1 : Hid (New w w1) := A0.out.new h2
    clear h2
    go_wp2_with fail
    refine (worksN_k N1).mono ?_
    rintro e w9 ⟨rfl, k9⟩
    have K9 := Lib.hid k9
    clear k9
    go_wp2
    go_ret
    exact ⟨rfl, K9.out⟩

set_option maxRecDepth 100000 in
theorem lifted (os : Os) (started : os.Started) (H : Type) (enc : TypeId × Value → H) :
    ReturnsInHanded {} Try.checked os 6 .any (Rows.nandFreshSpec.pre6 enc Try.prog Try.f6 Rows.nandFreshRow.domain false) (Rows.nandFreshSpec.post enc Try.prog Try.f6 false true false false) := by
  refine lift_new (C := Try.checked) (s := Rows.nandFreshSpec) (tb := 4) own started (by kernel_rfl) Try.func6
    (ChangeSpec.witness6 (enc := enc) (C := Try.checked) false ⟨#[], #[.agg #[.int .i64 0, .int .i64 0, .int .i64 0, .int .i64 0], .slice none 0 0, .slice none 0 0], []⟩ 8 (by kernel_rfl) (by kernel_rfl) (by kernel_rfl) (by kernel_rfl))
    rfl (by kernel_rfl) Try.underlying4 ?_ laidOut (of_decide_eq_true (by kernel_rfl)) ?_
  · intro ds hd
    match ds, hd with
    | [d0, d1, d2], _ => exact ⟨rfl, rfl, rfl⟩
  · intro W base args ds hA
    have hA : Args enc Try.prog W base Try.f6.params.toList args.toList ds := hA
    rw [Try.params6] at hA
    obtain ⟨v0, vs0, d0, ds0, p0, hargs, rfl, a0, hA⟩ := hA.cons_
    obtain ⟨v1, vs1, d1, ds1, p1, rfl, rfl, a1, hA⟩ := hA.cons_
    obtain ⟨v2, vs2, d2, ds2, p2, rfl, rfl, a2, hA⟩ := hA.cons_
    obtain ⟨rfl, rfl⟩ := hA.nil_
    obtain rfl : args = #[v0, v1, v2] := by cases args; simp_all
    obtain ⟨x0, y0, z0, u0, rfl⟩ := a0.geo_
    obtain ⟨A1, n1, c1, l1, rfl, b1, _, _⟩ := a1.acts_
    obtain ⟨A2, n2, c2, l2, b2⟩ := a2.bytes_ Try.underlying30 Try.underlying5 (by kernel_rfl) (by kernel_rfl)
    obtain rfl := b2.val
    exact walk x0 y0 z0 u0 A1 n1 c1 l1 A2 n2 c2 l2 W b1 b2

theorem over : Rows.nandFreshRow.holds Try.pinned (OpenSpec.ofChange Rows.nandFreshSpec) :=
  OpenClaim.holds_of_wide 6 Try.f6 rfl rfl rfl rfl rfl rfl rfl ⟨rfl, rfl, rfl, rfl, rfl⟩ rfl rfl rfl rfl rfl (by kernel_rfl) Try.func6 (by kernel_rfl)
    (of_decide_eq_true (by kernel_rfl)) (by unfold Func.isWrapper; first | (rw [if_pos (by decide +kernel)]; kernel_rfl) | (rw [if_neg (by decide +kernel)]; exact ⟨rfl, rfl⟩))
    (fun os started H enc _ => lifted os started H enc)

theorem proved : Rows.NandFreshSaid := over
end Go.Proofs.Ytfhngcnphcjmgaa.nandFresh
