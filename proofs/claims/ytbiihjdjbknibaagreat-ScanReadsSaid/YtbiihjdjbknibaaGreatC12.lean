/-
  Layer 7: contracts (Nl Np Nq).
-/
import Derived.Test.YtbiihjdjbknibaaGreatC11
import Derived.Laws.EntriesVeiled
namespace Go.Proofs.YtbiihjdjbknibaaGreat
set_option maxRecDepth 100000
set_option maxHeartbeats 8000000
set_option linter.unusedSimpArgs false
set_option linter.unusedVariables false
section
set_option maxRecDepth 100000
open Go.ChangeShapes Go.WideShapes Go.ChangeAt Go.RowKit
theorem OwnB.blk {w:World} {t:TypeId} {B:Nat} {A:Option Addr} {c:Nat} {l:List Nat} (h:OwnB w t B A c l) (h0:0 < l.length):∃g junk,A=some ⟨g,0,none⟩∧B≤g∧Blk w g t (l.map byt++junk)∧l.length≤c∧c≤maxLen:=by
 have hle:=h.le
 rcases h.2 with ⟨rfl,rfl,rfl⟩|⟨g,sp,rfl,hB,hblk,_⟩
 ·simp at h0
 ·exact⟨g,sp.map byt,rfl,hB,by rw[←List.map_append];exact hblk,hle⟩
theorem OwnV.blk {w:World} {t:TypeId} {sz B:Nat} {A:Option Addr} {n c:Nat} {vs:List Value} (h:OwnV w t sz B A n c vs) (h0:0 < n):∃g junk,A=some ⟨g,0,none⟩∧B≤g∧Blk w g t (vs++junk)∧n≤c∧c≤maxLen:=by
 obtain⟨h1,h2,h3,h⟩:=h
 rcases h with ⟨rfl,rfl⟩|⟨g,sp,rfl,hB,hblk,_⟩
 ·omega
 ·exact⟨g,sp,rfl,hB,hblk,h2,h3⟩
end
section
set_option maxRecDepth 100000
open Go.ChangeShapes Go.WideShapes Go.ChangeAt Go.RowKit
def HitCell (w : World) (vs : List Value) (i : Nat) (h : HitI) : Prop :=
  vs[3 * i]? = some (.int .i64 h.after) ∧ vs[3 * i + 1]? = some (.bool h.fails) ∧ ∃ A c, vs[3 * i + 2]? = some (.slice A h.mask.length c) ∧ Bts w A h.mask.length h.mask ∧ (A = none → c = 0 ∧ h.mask.length = 0) ∧ h.mask.length ≤ c ∧ c ≤ maxLen
def HitsA (w : World) (A : Option Addr) (n : Nat) (hs : List HitI) : Prop :=
  hs.length = n ∧ (∀ h ∈ hs, HitIOk h) ∧ ∃ vs, RowV w A n 3 vs ∧ (∀ u ∈ vs, u.oneCell' = true) ∧ ∀ (i : Nat) (h : HitI), hs[i]? = some h → HitCell w vs i h
def OwnH (w0 w : World) (go n k : Nat) (hs : List HitI) : Prop :=
  w0.heap.size ≤ go ∧ ∃ cs, Blk w go 59 cs ∧ 3 * n ≤ cs.length ∧ ∀ (i : Nat) (h : HitI), hs[i]? = some h → cs[3 * i]? = some (.int .i64 h.after) ∧ cs[3 * i + 1]? = some (.bool h.fails) ∧
    ∃ A c, cs[3 * i + 2]? = some (.slice A h.mask.length c) ∧ (A = none → c = 0 ∧ h.mask.length = 0) ∧ h.mask.length ≤ c ∧ c ≤ maxLen ∧
      (k ≤ i → Bts w0 A h.mask.length h.mask) ∧ (i < k → Bts w A h.mask.length h.mask ∧ ∀ a, A = some a → w0.heap.size ≤ a.block ∧ At w a.block 5)
theorem OwnH.new {w0 w w' : World} {go n k : Nat} {hs : List HitI} (h : OwnH w0 w go n k hs) (hk : New w w') : OwnH w0 w' go n k hs := by
  obtain ⟨h1, cs, h2, h3, h4⟩ := h
  refine ⟨h1, cs, h2.new hk, h3, fun i x hx => ?_⟩
  obtain ⟨c1, c2, A, c, c3, c4, c5, c6, c7, c8⟩ := h4 i x hx
  exact ⟨c1, c2, A, c, c3, c4, c5, c6, c7, fun hi => ⟨(c8 hi).1.new hk, fun a ha => ⟨((c8 hi).2 a ha).1, ((c8 hi).2 a ha).2.kept hk (fun f => f)⟩⟩⟩
theorem OwnH.step {w0 w : World} {go n k : Nat} {hs : List HitI} {x : HitI} {A : Option Addr} {c : Nat} (h : OwnH w0 w go n k hs) (hx : hs[k]? = some x) (hn : hs.length = n) (ho : OwnB w 5 w0.heap.size A c x.mask) :
    OwnH w0 (w.setCell ⟨go, 3 * k + 2, none⟩ (.slice A x.mask.length c)) go n (k + 1) hs := by
  obtain ⟨h1, cs, h2, h3, h4⟩ := h
  have hk : Kept (· = go) w (w.setCell ⟨go, 3 * k + 2, none⟩ (.slice A x.mask.length c)) := Kept.set1 w go _ _
  have hkl : k < hs.length := (List.getElem?_eq_some_iff.1 hx).1
  refine ⟨h1, cs.set (3 * k + 2) (.slice A x.mask.length c), h2.put _ _, by rw [List.length_set]; exact h3, fun i y hy => ?_⟩
  obtain ⟨c1, c2, A2, c2', c3, c4, c5, c6, c7, c8⟩ := h4 i y hy
  have e1 : (cs.set (3 * k + 2) (.slice A x.mask.length c))[3 * i]? = cs[3 * i]? := List.getElem?_set_ne (by omega)
  have e2 : (cs.set (3 * k + 2) (.slice A x.mask.length c))[3 * i + 1]? = cs[3 * i + 1]? := List.getElem?_set_ne (by omega)
  rw [e1, e2]
  by_cases hik : i = k
  · subst hik
    obtain rfl : x = y := by rw [hx] at hy; injection hy
    have e3 : (cs.set (3 * i + 2) (.slice A x.mask.length c))[3 * i + 2]? = some (.slice A x.mask.length c) := by
      rw [List.getElem?_set_self]
      omega
    rw [e3]
    refine ⟨c1, c2, A, c, rfl, fun hA => ?_, ho.le.1, ho.le.2, fun hle => absurd hle (by omega), fun _ => ⟨ho.bts.kept hk fun a ha => ((ho.at_ a ha).1.ne_of h2.at_ (by decide)), fun a ha => ⟨(ho.at_ a ha).2, (ho.at_ a ha).1.kept hk ((ho.at_ a ha).1.ne_of h2.at_ (by decide))⟩⟩⟩
    rcases ho.2 with ⟨_, h5, h6⟩ | ⟨g, sp, h5, _⟩
    · exact ⟨h5, by rw [h6]; rfl⟩
    · rw [hA] at h5; cases h5
  · have e3 : (cs.set (3 * k + 2) (.slice A x.mask.length c))[3 * i + 2]? = cs[3 * i + 2]? := List.getElem?_set_ne (by omega)
    rw [e3]
    refine ⟨c1, c2, A2, c2', c3, c4, c5, c6, fun hle => c7 (by omega), fun hlt => ?_⟩
    obtain ⟨d1, d2⟩ := c8 (by omega)
    exact ⟨d1.kept hk fun a ha => (d2 a ha).2.ne_of h2.at_ (by decide), fun a ha => ⟨(d2 a ha).1, (d2 a ha).2.kept hk ((d2 a ha).2.ne_of h2.at_ (by decide))⟩⟩
theorem OwnH.done {w0 w : World} {go n : Nat} {hs : List HitI} {Q : Nat → Prop} {gc : Nat} (h : OwnH w0 w go n n hs) (hn : hs.length = n) (hq : ∀ b, w0.heap.size ≤ b → b < w.heap.size → Q b) (hgc : gc < w0.heap.size) (h0 : ∀ x ∈ hs, 0 ≤ x.after) :
    HitsT Q w gc (some ⟨go, 0, none⟩) (hs.map HitI.hit) := by
  obtain ⟨h1, cs, h2, h3, h4⟩ := h
  intro _
  refine ⟨go, 0, rfl, hq go h1 h2.lt, h2.at_, fun i y hy => ?_⟩
  rw [List.getElem?_map] at hy
  obtain ⟨x, hx, rfl⟩ := Option.map_eq_some_iff.1 hy
  obtain ⟨c1, c2, A, c, c3, c4, c5, c6, c7, c8⟩ := h4 i x hx
  obtain ⟨d1, d2⟩ := c8 (by rw [← hn]; exact (List.getElem?_eq_some_iff.1 hx).1)
  have hp := h0 x (List.mem_of_getElem? hx)
  rw [Nat.zero_add, h2.cell, h2.cell, h2.cell]
  refine ⟨?_, c2, A, c, c3, d1, c5, c6, fun a ha => ⟨hq _ (d2 a ha).1 (d2 a ha).2.lt, by have := (d2 a ha).1; omega, (d2 a ha).2⟩⟩
  rw [c1]
  show some (Value.int .i64 x.after) = some (.int .i64 ((x.after.toNat : Nat) : Int))
  rw [Int.toNat_of_nonneg hp]
def HitsP (Q : Nat → Prop) (w : World) (g : Nat) (s' : CSt) (er : Int) (e : Ending) (w' : World) : Prop :=
  e = .returned (.int .i64 er) ∧ NChip (fun b => Q b ∨ (w.heap.size ≤ b ∧ b < w'.heap.size)) w' g s' ∧ Kept Q w w'
theorem NRep.rehit {Q Q' : Nat → Prop} {w w1 w' : World} {g gc gb bl bb cc cb bl2 bb2 : Nat} {Ah Ah2 : Option Addr} {ch ch2 : Nat} {s : CSt} {hs : List Hit} (h : NRep Q w g gc gb bl bb cc cb Ah ch s) (hk : New w w1)
    (hl : Blk w1 bl2 60 [.slice Ah2 hs.length ch2]) (hc : Blk w1 bb2 3 [.int .i64 0]) (hh : HitsT Q' w1 gc Ah2 hs) (hcap : hs.length ≤ ch2 ∧ ch2 ≤ maxLen) (hok : ∀ x ∈ hs, HitOk x)
    (hw : w' = w1.setCell ⟨g, 8, none⟩ (.func (.func 77) #[] #[.pointer (some ⟨bl2, 0, none⟩), .pointer (some ⟨bb2, 0, none⟩)])) (hq : ∀ b, Q b → Q' b) (hq1 : Q' bl2) (hq2 : Q' bb2) (hlow : ∀ b, Q' b → b < w'.heap.size) :
    NRep Q' w' g gc gb bl2 bb2 cc cb Ah2 ch2 { s with hits := hs, since := 0 } := by
  subst hw
  have h1 := h.new hk
  obtain ⟨n1, n2, n3, n4, _⟩ := h1.ne
  have hks : Kept (· = g) w1 (w1.setCell ⟨g, 8, none⟩ (.func (.func 77) #[] #[.pointer (some ⟨bl2, 0, none⟩), .pointer (some ⟨bb2, 0, none⟩)])) := Kept.set1 w1 g 8 _
  have hcp := h1.chip.put 8 (.func (.func 77) #[] #[.pointer (some ⟨bl2, 0, none⟩), .pointer (some ⟨bb2, 0, none⟩)])
  exact { low := hlow, ok := { h.ok with hits := hok, since := Nat.zero_le _ }, qg := hq _ h.qg, qc := hq _ h.qc, qb := hq _ h.qb, ql := hq1, qn := hq2, chip := by simpa using hcp,
          cells := by obtain ⟨j, hj⟩ := h1.cells; exact ⟨j, hj.kept hks (Ne.symm n1)⟩, ccap := h.ccap,
          bads := by obtain ⟨j, hj⟩ := h1.bads; exact ⟨j, hj.kept hks (Ne.symm n2)⟩, bcap := h.bcap,
          list := hl.kept hks (hl.ne_of h1.chip (by decide)), hcap := hcap, cnt := hc.kept hks (hc.ne_of h1.chip (by decide)),
          hits := hh.kept hks (fun b _ hb => hb.ne_of h1.chip.at_ (by decide)) (fun b _ _ hb => hb.ne_of h1.chip.at_ (by decide)) (fun _ hb _ => hb) }
theorem OwnH.start {w0 w : World} {n c : Nat} {A : Option Addr} {hs : List HitI} {vs : List Value} (hn : hs.length = n) (h0 : 0 < n) (ho : OwnV w 59 3 w0.heap.size A n c vs) (hv : ∀ (i : Nat) (h : HitI), hs[i]? = some h → HitCell w0 vs i h) :
    ∃ go, A = some ⟨go, 0, none⟩ ∧ OwnH w0 w go n 0 hs := by
  have hl := ho.1
  obtain ⟨go, junk, rfl, h1, h2, _⟩ := ho.blk h0
  refine ⟨go, rfl, h1, vs ++ junk, h2, by simp; omega, fun i x hx => ?_⟩
  have hi : i < n := by rw [← hn]; exact (List.getElem?_eq_some_iff.1 hx).1
  obtain ⟨c1, c2, A, c, c3, c4, c5, c6, c7⟩ := hv i x hx
  rw [List.getElem?_append_left (by omega), List.getElem?_append_left (by omega), List.getElem?_append_left (by omega)]
  exact ⟨c1, c2, A, c, c3, c5, c6, c7, fun _ => c4, fun h => absurd h (by omega)⟩
theorem nHits_pos (Q : Nat → Prop) (g : Nat) (s : CSt) (A : Option Addr) (n c : Nat) (hs : List HitI) (w : World) (h : NChip Q w g s) (ha : HitsA w A n hs) (hA : A = none → c = 0 ∧ n = 0) (hb : n * 40 ≤ 140737488351232) (h0 : 0 < n) (er : Int) (s' : CSt) (he : hitsE hs = er) (hs' : hitsS s hs = s') :
    Calls Tryz.prog 17 #[.pointer (some ⟨g, 0, none⟩), .slice A n c] w (HitsP Q w g s' er) := by
  obtain ⟨gc, gb, bl, bb, cc, cb, Ah, ch, h⟩ := h
  obtain ⟨hn, hok, vs, hr, h1, hv⟩ := ha
  have H := jH h
  have HE := jH he
  have HS := jH hs'
  have HN := jH hn
  have HOK := jH hok
  have HR := jH hr
  have H1 := jH h1
  have HV := jH hv
  have HA := jH hA
  have hlt := h.chip.lt
  clear h hn hok hr h1 hv he hs' hA
  go_enter Tryz.func17, Tryz.ntmps17
  go_wp2_with fail
  refine (cNone_no _ _ _ _ _ _ _ _ _ _ _ _ H.out).mono ?_
  rintro e w' ⟨rfl, rfl⟩
  go_wp2_with fail
  refine (cloneHits_any A n c vs _ HR.out H1.out hb HA.out).mono ?_
  rintro e w1 ⟨A1, c1, rfl, ho, hk⟩
  have hc1 : n ≤ c1 ∧ c1 ≤ maxLen := ⟨ho.2.1, ho.2.2.1⟩
  obtain ⟨go, rfl, hst⟩ := OwnH.start HN.out h0 ho HV.out
  have OH := jH hst
  have K1 := jH hk
  have hcn := hc1.1
  have hcm := hc1.2
  unfold maxLen at hcm
  clear ho hk hst HR H1 HV HA hc1
  go_wp2
  go_loopw [14] (fun i wr => ∃ k : Nat, k ≤ n ∧ i = .int .i64 k ∧ Hid (OwnH w wr go n k hs) ∧ Hid (New w wr) ∧ Hid (∀ j x, j < k → hs[j]? = some x → 0 ≤ x.after)) (fun i _ => n - (intOf i).toNat)
  case atStart => exact ⟨0, Nat.zero_le _, rfl, OH, K1, fun j x hj => absurd hj (by omega)⟩
  case round =>
    obtain ⟨k, hk, rfl, VO, VK, VA⟩ := hrel
    clear OH K1
    by_cases hlt2 : k < n
    · obtain ⟨x, hx⟩ : ∃ x, hs[k]? = some x := ⟨_, List.getElem?_eq_getElem (by rw [HN.out]; exact hlt2)⟩
      have HX := jH hx
      obtain ⟨g1, cs, hB, hcl, hc⟩ := VO.out
      obtain ⟨c1, c2, Am, cm, c3, c4, c5, c6, c7, _⟩ := hc k x hx
      have d1 : wr.cell? ⟨go, k * 3, none⟩ = some (.int .i64 x.after) := by rw [hB.cell, Nat.mul_comm]; exact c1
      have d2 : wr.cell? ⟨go, k * 3 + 1, none⟩ = some (.bool x.fails) := by rw [hB.cell, Nat.mul_comm]; exact c2
      have d3 : wr.cell? ⟨go, k * 3 + 2, none⟩ = some (.slice Am x.mask.length cm) := by rw [hB.cell, Nat.mul_comm]; exact c3
      have fr := hB.free (k * 3 + 2)
      have hgl := hB.lt
      have hmb := HOK.out x (List.mem_of_getElem? hx)
      have ha1 := hmb.after
      have ha2 := hmb.low
      have ha3 := hmb.len
      have C4 := jH c4
      have C7 := jH (c7 (Nat.le_refl _))
      clear hB hcl hc c1 c2 c3 c4 c6 c7 hx hmb g1
      by_cases hneg : x.after < 0
      · have hno : ¬ ∀ y ∈ hs, 0 ≤ y.after := fun hall => by have := hall x (List.mem_of_getElem? HX.out); omega
        have e1 := HE.out
        have e2 := HS.out
        unfold hitsE at e1
        unfold hitsS at e2
        rw [if_neg hno] at e1 e2
        subst e1 e2
        clear hno
        go_wp2
        go_ret
        have hN : New w (wr.alloc (.cells #[.int .i64 x.after, .bool x.fails, .slice Am x.mask.length cm] 59)) := VK.out.alloc _
        exact ⟨rfl, ⟨_, _, _, _, _, _, _, _, (H.out.new hN).mono (fun b hb => .inl hb) (fun b hb => by rcases hb with hb | hb; exact Nat.lt_of_lt_of_le (H.out.low b hb) hN.size; exact hb.2)⟩, hN.mono fun _ _ f => f.elim⟩
      · have hT : Hid (Bts (wr.alloc (.cells #[.int .i64 x.after, .bool x.fails, .slice Am x.mask.length cm] 59)) Am x.mask.length x.mask) := C7.out.new (VK.out.alloc _)
        have HA3 := jH ha3
        clear ha3 c5
        go_wp2_with fail
        refine (clone_any Am x.mask.length cm x.mask _ hT.out HA3.out C4.out).mono ?_
        rintro e w3 ⟨A3, c3, rfl, ho3, hk3⟩
        have V3 := jH ((VO.out.new (kR.alloc _)).new hk3)
        have K3 := jH ((VK.out.alloc (.cells #[.int .i64 x.after, .bool x.fails, .slice Am x.mask.length cm] 59)).new hk3)
        have O3 := jH (ho3.mono (B' := w.heap.size) (VK.out.alloc (.cells #[.int .i64 x.after, .bool x.fails, .slice Am x.mask.length cm] 59)).size)
        have dd3 := hk3.cell (show (wr.alloc (.cells #[.int .i64 x.after, .bool x.fails, .slice Am x.mask.length cm] 59)).cell? ⟨go, k * 3 + 2, none⟩ = some (.slice Am x.mask.length cm) from by rw [World.cell?_alloc_past (hn := hgl)]; exact d3) (fun f => f)
        obtain ⟨gge, cs3, hB3, _⟩ := V3.out
        have fr3 := hB3.free (k * 3 + 2)
        have hg3 := hB3.lt
        have GGE := jH gge
        clear ho3 hk3 hB3 d1 d2 d3 fr VO VK gge
        go_wp2
        go_roundw
        case rel =>
          refine ⟨k + 1, by omega, by go_num, ?_, K3.out.setCell (p := ⟨go, k * 3 + 2, none⟩) (fun hh => by have := GGE.out; simp at hh; omega) _, fun j y hj hy => ?_⟩
          · have := V3.out.step HX.out HN.out O3.out
            rw [Nat.mul_comm] at this
            exact this
          · rcases Nat.lt_or_ge j k with hj2 | hj2
            · exact VA.out j y hj2 hy
            · obtain rfl : j = k := by omega
              have : x = y := by have := HX.out; rw [hy] at this; injection this with this; exact this.symm
              subst this
              omega
        case measure => simp [intOf]; omega
    · obtain rfl : k = n := by omega
      have hall : ∀ y ∈ hs, 0 ≤ y.after := fun y hy => by
        obtain ⟨j, hj⟩ := List.getElem?_of_mem hy
        exact VA.out j y (by rw [← HN.out]; exact (List.getElem?_eq_some_iff.1 hj).1) hj
      have e1 := HE.out
      have e2 := HS.out
      unfold hitsE at e1
      unfold hitsS at e2
      rw [if_pos hall] at e1 e2
      subst e1 e2
      have HALL := jH hall
      have r0 := H.out.new VK.out
      have fr8 := r0.chip.free 8
      have cc8 := r0.c8
      clear hall r0
      go_wp2_with fail
      refine (striking_any _ _ _ _).mono ?_
      rintro e w5 ⟨bl2, bb2, rfl, h1, h2, h3, h4, h5⟩
      have r0 := (H.out.new VK.out).new h5
      have fr9 := r0.chip.free 8
      have cc9 := r0.c8
      have K5 := jH (VK.out.new h5)
      have V5 := jH (VO.out.new h5)
      have B1 := jH h1
      have B2 := jH h2
      have G1 := jH h3
      have G2 := jH h4
      clear h1 h2 h3 h4 h5 r0 fr8 cc8
      go_wp2
      go_ret
      have hlen : (hs.map HitI.hit).length = k := by rw [List.length_map, HN.out]
      have hsz : (w5.setCell ⟨g, 8, none⟩ (.func (.func 77) #[] #[.pointer (some ⟨bl2, 0, none⟩), .pointer (some ⟨bb2, 0, none⟩)])).heap.size = w5.heap.size := by simp [World.setCell]
      have hss := K5.out.size
      have hwr := VK.out.size
      refine ⟨rfl, ⟨gc, gb, bl2, bb2, cc, cb, some ⟨go, 0, none⟩, c1, ?_⟩, (K5.out.mono (S' := Q) fun _ _ f => f.elim).setCell (p := ⟨g, 8, none⟩) (fun _ => H.out.qg) _⟩
      refine NRep.rehit H.out K5.out ?_ B2.out (V5.out.done HN.out (fun b h1 h2 => .inr ⟨h1, ?_⟩) (H.out.low gc H.out.qc) HALL.out) ?_ ?_ rfl (fun b hb => .inl hb) (.inr ⟨?_, ?_⟩) (.inr ⟨?_, ?_⟩) ?_
      · rw [hlen]; exact B1.out
      · rw [hsz]; exact h2
      · rw [hlen]; unfold maxLen; omega
      · intro x hx
        obtain ⟨y, hy, rfl⟩ := List.mem_map.1 hx
        have := HOK.out y hy
        exact ⟨by have := this.after; show y.after.toNat ≤ _; omega, this.bytes, this.len⟩
      · have := G1.out; omega
      · rw [hsz]; exact B1.out.lt
      · have := G2.out; omega
      · rw [hsz]; exact B2.out.lt
      · intro b hb
        rw [hsz]
        rcases hb with hb | hb
        · exact Nat.lt_of_lt_of_le (H.out.low b hb) hss
        · rw [hsz] at hb; exact hb.2
theorem nHits_zero (Q : Nat → Prop) (g : Nat) (s : CSt) (A : Option Addr) (c : Nat) (w : World) (h : NChip Q w g s) (hA : A = none → c = 0) :
    Calls Tryz.prog 17 #[.pointer (some ⟨g, 0, none⟩), .slice A 0 c] w (HitsP Q w g { s with hits := [], since := 0 } 0) := by
  obtain ⟨gc, gb, bl, bb, cc, cb, Ah, ch, h⟩ := h
  have H := jH h
  have HA := jH hA
  have hlt := h.chip.lt
  clear h hA
  go_enter Tryz.func17, Tryz.ntmps17
  go_wp2_with fail
  refine (cNone_no _ _ _ _ _ _ _ _ _ _ _ _ H.out).mono ?_
  rintro e w' ⟨rfl, rfl⟩
  go_wp2_with fail
  refine (cloneHits_any A 0 c [] _ (RowV.nil _ _ _) (by simp) (by omega) (fun h => ⟨HA.out h, rfl⟩)).mono ?_
  rintro e w1 ⟨A1, c1, rfl, ho, hk⟩
  have K1 := jH hk
  have hcm := ho.2.2.1
  have HC := jH hcm
  clear ho hk hcm
  go_wp2
  refine wp_loop_rounds 1 ?_
  rw [rounds_succ]
  have r0 := H.out.new K1.out
  have fr8 := r0.chip.free 8
  have cc8 := r0.c8
  clear r0
  go_wp2_with fail
  refine (striking_any _ _ _ _).mono ?_
  rintro e w5 ⟨bl2, bb2, rfl, h1, h2, h3, h4, h5⟩
  have r0 := (H.out.new K1.out).new h5
  have fr9 := r0.chip.free 8
  have cc9 := r0.c8
  have K5 := jH (K1.out.new h5)
  have B1 := jH h1
  have B2 := jH h2
  have hs1 := K1.out.size
  have G1 : Hid (w.heap.size ≤ bl2) := by show _ ≤ _; omega
  have G2 : Hid (w.heap.size ≤ bb2) := by show _ ≤ _; omega
  clear h1 h2 h3 h4 h5 r0 fr8 cc8
  go_wp2
  go_ret
  have hsz : (w5.setCell ⟨g, 8, none⟩ (.func (.func 77) #[] #[.pointer (some ⟨bl2, 0, none⟩), .pointer (some ⟨bb2, 0, none⟩)])).heap.size = w5.heap.size := by simp [World.setCell]
  have hss := K5.out.size
  refine ⟨rfl, ⟨gc, gb, bl2, bb2, cc, cb, A1, c1, ?_⟩, (K5.out.mono (S' := Q) fun _ _ f => f.elim).setCell (p := ⟨g, 8, none⟩) (fun _ => H.out.qg) _⟩
  refine NRep.rehit H.out K5.out B1.out B2.out (HitsT.nil _ _ _ _) ?_ (by simp) rfl (fun b hb => .inl hb) (.inr ⟨G1.out, ?_⟩) (.inr ⟨G2.out, ?_⟩) ?_
  · exact ⟨Nat.zero_le _, HC.out⟩
  · rw [hsz]; exact B1.out.lt
  · rw [hsz]; exact B2.out.lt
  · intro b hb
    rw [hsz]
    rcases hb with hb | hb
    · exact Nat.lt_of_lt_of_le (H.out.low b hb) hss
    · rw [hsz] at hb; exact hb.2
theorem nHits_any (Q : Nat → Prop) (g : Nat) (s : CSt) (A : Option Addr) (n c : Nat) (hs : List HitI) (w : World) (h : NChip Q w g s) (ha : HitsA w A n hs) (hA : A = none → c = 0 ∧ n = 0) (hb : n * 40 ≤ 140737488351232) :
    Calls Tryz.prog 17 #[.pointer (some ⟨g, 0, none⟩), .slice A n c] w (HitsP Q w g (hitsS s hs) (hitsE hs)) := by
  rcases Nat.eq_zero_or_pos n with h0 | h0
  · subst h0
    obtain rfl : hs = [] := List.eq_nil_of_length_eq_zero ha.1
    exact nHits_zero Q g s A c w h (fun hh => (hA hh).1)
  · exact nHits_pos Q g s A n c hs w h ha hA hb h0 _ _ rfl rfl
end
section
set_option maxRecDepth 100000
open Go.ChangeShapes Go.WideShapes Go.ChangeAt Go.RowKit
theorem Kept.newQ {Q:Nat→Prop} {w0 w w':World} (k:New w0 w) (hk:Kept Q w w') (hq:∀b,Q b→w0.heap.size≤b):New w0 w':=
 k.trans hk fun i hi h=>by have:=hq i h;omega
theorem Bts.of_blkN {w:World} {g n off:Nat} {l:List Nat} {junk:List Value} (h:Blk w g 5 (l.map byt++junk)) (hb:IsBytes l) (hn:l.length=n):Bts w (some ⟨g,off,none⟩) (n - off) (l.drop off):=by
 refine⟨by simp[hn],fun x hx=>hb x (List.mem_of_mem_drop hx),fun _=>⟨g,off,rfl,fun j x hx=>?_⟩⟩;rw[List.getElem?_drop] at hx;have hj:off+j < l.length:=(List.getElem?_eq_some_iff.1 hx).1;rw[h.cell,List.getElem?_append_left (by simpa using hj),List.getElem?_map,hx]
 rfl
theorem nProg_k {w0 wc:World} {Q:Nat→Prop} {g:Nat} {s:CSt} {b p:Int} {n:Nat} {G:Option Addr} {c2:Nat} (gl:List Nat) (K:Hid (New w0 wc)) (C:Hid (NChip Q wc g s)) (HQ:Hid (∀b,Q b→w0.heap.size≤b))
  (hg:Hid (Bts wc G n gl)) (hg1:Hid (∀a,G=some a→¬Q a.block)) (hd:s.deeds < 4611686018427387904) (er:Int) (s':CSt) (he:progE s b p gl=er) (hs:progS s b p gl=s'):
  Calls Tryz.prog 27 #[.pointer (some ⟨g,0,none⟩),.int .i64 b,.int .i64 p,.slice G n c2] wc fun e w'=>e=.returned (.int .i64 er)∧Hid (NChip Q w' g s')∧Hid (Kept Q wc w')∧Hid (New w0 w'):=by
 subst he hs;refine (nProg_any Q g s b p n G c2 gl wc C.out hd hg.out hg1.out).mono ?_;rintro e w' ⟨rfl,h1,h2⟩;exact⟨rfl,h1,h2,K.out.newQ h2 HQ.out⟩
theorem nErase_k {w0 wc:World} {Q:Nat→Prop} {g:Nat} {s:CSt} {b:Int} (K:Hid (New w0 wc)) (C:Hid (NChip Q wc g s)) (HQ:Hid (∀b,Q b→w0.heap.size≤b))
  (hd:s.deeds < 4611686018427387904) (er:Int) (s':CSt) (he:erasE s b=er) (hs:erasS s b=s'):
  Calls Tryz.prog 18 #[.pointer (some ⟨g,0,none⟩),.int .i64 b] wc fun e w'=>e=.returned (.int .i64 er)∧Hid (NChip Q w' g s')∧Hid (Kept Q wc w')∧Hid (New w0 w'):=by
 subst he hs;refine (nErase_any Q g s b wc C.out hd).mono ?_;rintro e w' ⟨rfl,h1,h2⟩;exact⟨rfl,h1,h2,K.out.newQ h2 HQ.out⟩
theorem nHits_k {w0 wc:World} {Q:Nat→Prop} {g:Nat} {s:CSt} {A:Option Addr} {n c:Nat} (hs:List HitI) (K:Hid (New w0 wc)) (C:Hid (NChip Q wc g s)) (HQ:Hid (∀b,Q b→w0.heap.size≤b))
  (ha:Hid (HitsA wc A n hs)) (hA:A=none→c=0∧n=0) (hb:n*40≤140737488351232) (er:Int) (s':CSt) (he:hitsE hs=er) (hs':hitsS s hs=s'):
  Calls Tryz.prog 17 #[.pointer (some ⟨g,0,none⟩),.slice A n c] wc fun e w'=>e=.returned (.int .i64 er)∧(∃Q',Hid (NChip Q' w' g s')∧Hid (∀b,Q' b→Q b∨wc.heap.size≤b)∧Hid (∀b,Q' b→w0.heap.size≤b))∧Hid (Kept Q wc w')∧Hid (New w0 w'):=by
 subst he hs';refine (nHits_any Q g s A n c hs wc C.out ha.out hA hb).mono ?_;rintro e w' ⟨rfl,h1,h2⟩;exact⟨rfl,⟨_,h1,fun b hb=>by rcases hb with hb|hb;exact .inl hb;exact .inr hb.1,fun b hb=>by rcases hb with hb|hb;exact HQ.out b hb;exact Nat.le_trans K.out.size hb.1⟩,h2,K.out.newQ h2 HQ.out⟩
theorem hits_one (w:World) (gm:Nat) (fails:Bool) (Am:Option Addr) (m cm:Nat) (ml:List Nat) (a:Int) (hb:Bts w Am m ml) (hA:Am=none→cm=0∧m=0) (hm:m≤cm) (hc:cm≤140737488351232) (ha:-9223372036854775808≤a∧a≤9223372036854775807) (hg:gm=w.heap.size):
  HitsA (w.alloc (.cells #[.int .i64 a,.bool fails,.slice Am m cm] 59)) (some ⟨gm,0,none⟩) 1 [⟨a,fails,ml⟩]:=by
 subst hg;have hl:=hb.1;refine⟨rfl,?_,[.int .i64 a,.bool fails,.slice Am m cm],⟨rfl,fun _=>⟨w.heap.size,0,rfl,fun j v hv=>?_⟩⟩,?_,?_⟩
 ·intro h hh;simp only[List.mem_singleton] at hh;subst hh;exact⟨ha.2,ha.1,hb.2.1,by show ml.length≤_;omega⟩
 ·rw[(Blk.made w 59 #[.int .i64 a,.bool fails,.slice Am m cm]).cell,Nat.zero_add];exact hv
 ·intro u hu;simp only[List.mem_cons,List.not_mem_nil,or_false] at hu
  rcases hu with rfl|rfl|rfl<;>rfl
 ·intro i h hh
  match i,hh with
  | 0,hh=>
   simp only[List.getElem?_cons_zero,Option.some.injEq] at hh;subst hh;refine⟨rfl,rfl,Am,cm,by rw[hl];rfl,?_,?_,?_,?_⟩
   ·rw[hl];exact hb.new (kR.alloc _)
   ·rw[hl];exact hA
   ·show ml.length≤cm;omega
   ·unfold maxLen;omega
end
end Go.Proofs.YtbiihjdjbknibaaGreat
