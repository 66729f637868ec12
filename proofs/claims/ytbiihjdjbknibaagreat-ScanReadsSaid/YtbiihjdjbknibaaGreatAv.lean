/-
  Contracts of the reference: the blocks of an era, what drops name, Blocks, Facts.
  Contracts of the reference: Blocks, Facts.
  Contracts of the reference: Facts.
  Both sorts of taken blocks are one and the same, whatever Seqs there are (no program).
-/
import Derived.Test.YtbiihjdjbknibaaGreatGx
import Derived.Test.YtbiihjdjbknibaaGreatAp
import Derived.Test.YtbiihjdjbknibaaGreatGw
namespace Go.Proofs.YtbiihjdjbknibaaGreat

section

set_option maxRecDepth 100000
set_option linter.unusedVariables false
open Go.ChangeShapes Go.WideShapes Go.ChangeAt Go.RowKit

def inEra (era : Nat) (t : TK) : Bool := decide (t.k = 1) && decide (t.e = era)
def ofL (era : Nat) (l : List TK) : List TK := l.filter (inEra era)
def bvO (s : CSt) (t : TK) : BV := ⟨t.b, t.s, pgsB s t.b⟩
theorem eraV_of (s : CSt) (era : Nat) : ∀ l : List TK, eraV s era l = (ofL era l).map (bvO s)
  | [] => rfl
  | t :: l => by
    unfold eraV ofL
    rw [List.filter_cons]
    by_cases h : t.k = 1 ∧ t.e = era
    · rw [if_pos h, if_pos (by unfold inEra; rw [decide_eq_true h.1, decide_eq_true h.2]; rfl), List.map_cons, eraV_of s era l]
      rfl
    · rw [if_neg h, if_neg (by unfold inEra; intro h2; rw [Bool.and_eq_true] at h2; exact h ⟨of_decide_eq_true h2.1, of_decide_eq_true h2.2⟩), eraV_of s era l]
      rfl

/-- What stands at a place of a row of taken blocks. -/
theorem tk_get {w : World} {B c n : Nat} {A : Option Addr} {l : List TK} (h : OwnV w 90 5 B A n c (tRow l [])) (hl : l.length = n) {i : Nat} (hi : i < n) : ∃ (g : Nat) (t : TK), A = some ⟨g, 0, none⟩ ∧ l[i]? = some t ∧
    (∀ u, New w u → u.cell? ⟨g, i * 5, none⟩ = some (.int .i64 (t.b : Nat)) ∧ u.cell? ⟨g, i * 5 + 1, none⟩ = some (.int .u8 (t.k : Nat)) ∧ u.cell? ⟨g, i * 5 + 2, none⟩ = some (.int .u32 (t.e : Nat)) ∧ u.cell? ⟨g, i * 5 + 3, none⟩ = some (.int .u64 (t.s : Nat)) ∧ u.cell? ⟨g, i * 5 + 4, none⟩ = some (.bool t.bad)) := by
  have he : l[i]? = some l[i] := List.getElem?_eq_getElem (by omega)
  obtain ⟨_, hc, _, ho⟩ := h
  rcases ho with ⟨_, rfl⟩ | ⟨g, sp, rfl, _, hb, _⟩
  · omega
  · refine ⟨g, l[i], rfl, he, fun u hu => ?_⟩
    have hb2 := hb.kept hu id
    have key : ∀ j v, j < 5 → l[i].cells[j]? = some v → u.cell? ⟨g, i * 5 + j, none⟩ = some v := fun j v hj hv => by
      have h1 := tRow_get [] l j v i l[i] he hj hv
      rw [hb2.cell, List.getElem?_append_left (List.getElem?_eq_some_iff.1 h1).1]
      exact h1
    exact ⟨key 0 _ (by omega) rfl, key 1 _ (by omega) rfl, key 2 _ (by omega) rfl, key 3 _ (by omega) rfl, key 4 _ (by omega) rfl⟩

theorem ofL_next {era : Nat} {l : List TK} {k : Nat} {t : TK} (h : l[k]? = some t) : (inEra era t = true → ofL era (l.take (k + 1)) = ofL era (l.take k) ++ [t]) ∧ (inEra era t = false → ofL era (l.take (k + 1)) = ofL era (l.take k)) := by
  unfold ofL
  rw [List.take_add_one, h, List.filter_append]
  refine ⟨fun hh => ?_, fun hh => ?_⟩
  · show _ ++ List.filter (inEra era) [t] = _
    rw [List.filter_cons, if_pos hh]; rfl
  · show _ ++ List.filter (inEra era) [t] = _
    rw [List.filter_cons, if_neg (by rw [hh]; decide)]; simp

theorem kept_ownV {w w1 w2 : World} {t : TypeId} {sz B : Nat} {A : Option Addr} {n c : Nat} {vs : List Value} (k : New w w1) (h : OwnV w1 t sz B A n c vs) (hB : w.heap.size ≤ B) (hg : w1.grownBy w2 (A.map (·.block))) : New w w2 :=
  k.grown hg fun q hq hA => by
    obtain ⟨a, rfl, rfl⟩ := Option.map_eq_some_iff.1 hA
    have := (h.at_ a rfl).2
    omega

theorem ofL_le (era : Nat) (l : List TK) : (ofL era l).length ≤ l.length := List.length_filter_le _ _

set_option maxHeartbeats 3200000 in
theorem rOf_any (Q : Nat → Prop) (g : Nat) (s : CSt) (era : Nat) (w : World) (h : NChip Q w g s) (h19 : s.nb ≤ 19) (hL : (refL s s.nb).length ≤ 19) :
    Calls Tryz.prog 29 #[.pointer (some ⟨g, 0, none⟩), .int .u8 1, .int .u32 (era : Nat)] w (TknP w (ofL era (refL s s.nb))) := by
  have CT := Lib.hid (rTaken_any Q g s w h h19)
  clear h h19
  generalize refL s s.nb = L at *
  go_enter Tryz.func29, Tryz.ntmps29
  go_wp2_with fail
  refine CT.out.mono ?_
  rintro e w1 ⟨A1, c1, rfl, o1, k1⟩
  have O1 := Lib.hid o1
  have K1 := Lib.hid k1
  clear o1 k1 CT
  generalize hn : L.length = n at *
  have HLN := Lib.hid hn
  clear hn
  go_wp2_with fail
  go_loopw [7, 9] (fun o i wr => ∃ (k m : Nat) (A' : Option Addr) (c' : Nat), k ≤ n ∧ m ≤ k ∧ i = .int .i64 k ∧ o = .slice A' m c' ∧ Hid ((ofL era (L.take k)).length = m) ∧ Hid (OwnV wr 90 5 w1.heap.size A' m c' (tRow (ofL era (L.take k)) [])) ∧ Hid (New w1 wr)) (fun _ i _ => n - (intOf i).toNat)
  case atStart => exact ⟨0, 0, none, 0, Nat.zero_le _, Nat.le_refl _, rfl, rfl, rfl, OwnV.nil _ _ _ _, Kept.refl _ _⟩
  case round =>
    obtain ⟨k, m, A', c', hk, hmk, rfl, rfl, HM, VO, VN⟩ := hrel
    by_cases hlt : k < n
    · obtain ⟨ga, t, eA, ht, hcells⟩ := tk_get O1.out HLN.out hlt
      subst eA
      have HN1 := Lib.hid (ofL_next (era := era) ht).1
      have HN2 := Lib.hid (ofL_next (era := era) ht).2
      obtain ⟨x0, x1, x2, x3, x4⟩ := hcells wr VN.out
      clear ht hcells
      obtain ⟨tb, tk, te, ts, tbad⟩ := t
      dsimp only at *
      have s1 : (0 : Int) ≤ (k : Int) := by omega
      have s3 : (k : Int) < (n : Int) := by omega
      by_cases h1 : tk = 1
      · have d1 : ((tk : Int) == 1) = true := beq_iff_eq.2 (by omega)
        by_cases h2 : te = era
        · have d2 : (te == era) = true := beq_iff_eq.2 h2
          have d3 : ((te : Int) == (era : Int)) = true := beq_iff_eq.2 (by omega)
          have HE := Lib.hid (HN1.out (by unfold inEra; rw [decide_eq_true h1, decide_eq_true h2]; rfl))
          clear HN1 HN2 h1 h2
          obtain ⟨w2, hw2⟩ : ∃ w2, w2 = wr.alloc (.cells #[.int .i64 (tb : Nat), .int .u8 (tk : Nat), .int .u32 (te : Nat), .int .u64 (ts : Nat), .bool tbad] 90) := ⟨_, rfl⟩
          have m2 : New wr w2 := by rw [hw2]; exact (Kept.refl _ _).alloc _
          have B2 : Blk w2 wr.heap.size 90 [.int .i64 (tb : Nat), .int .u8 (tk : Nat), .int .u32 (te : Nat), .int .u64 (ts : Nat), .bool tbad] := by rw [hw2]; exact Blk.made wr _ _
          have R2 : Hid (RowV w2 (some ⟨wr.heap.size, 0, none⟩) 1 5 (tRow [⟨tb, tk, te, ts, tbad⟩] [])) := ⟨rfl, fun _ => ⟨_, 0, rfl, fun j v hj => by rw [Nat.zero_add, B2.cell]; exact hj⟩⟩
          have N2 := Lib.hid (VN.out.new m2)
          have V2 := Lib.hid (VO.out.new m2)
          have HW2 := Lib.hid hw2
          clear m2 hw2 B2 VO VN
          go_wp2_with (at_builtin; rw [← HW2.out]; refine wpList_append_tk w2 rfl _ _ rfl w1.heap.size A' m c' (ofL era (L.take k)) rfl V2.out (some ⟨wr.heap.size, 0, none⟩) 1 1 [⟨tb, tk, te, ts, tbad⟩] rfl R2.out (by omega) N2.out.size ?_)
          intro A5 c5 w5 O5 G5
          have V5 : Hid (OwnV w5 90 5 w1.heap.size A5 (m + 1) c5 (tRow (ofL era (L.take (k + 1))) [])) := by rw [Hid, HE.out]; exact O5.out
          have N5 : Hid (New w1 w5) := kept_ownV N2.out V2.out (Nat.le_refl _) G5.out
          have HM5 : Hid ((ofL era (L.take (k + 1))).length = m + 1) := by rw [Hid, HE.out, List.length_append, HM.out]; rfl
          clear O5 G5 V2 N2 R2 HW2 HE HM x0 x1 x2 x3 x4
          go_wp2
          go_roundw
          case rel => exact ⟨k + 1, m + 1, A5, c5, by omega, by omega, by go_num, rfl, HM5, V5, N5⟩
          case measure => simp [intOf]; omega
        · have d2 : (te == era) = false := beq_eq_false_iff_ne.2 h2
          have d3 : ((te : Int) == (era : Int)) = false := beq_eq_false_iff_ne.2 (by omega)
          have HE := Lib.hid (HN2.out (by unfold inEra; rw [decide_eq_false h2, Bool.and_false]))
          have V5 : Hid (OwnV wr 90 5 w1.heap.size A' m c' (tRow (ofL era (L.take (k + 1))) [])) := by rw [Hid, HE.out]; exact VO.out
          have HM5 : Hid ((ofL era (L.take (k + 1))).length = m) := by rw [Hid, HE.out]; exact HM.out
          clear HN1 HN2 h1 h2 HE HM VO
          go_wp2
          go_roundw
          case rel => exact ⟨k + 1, m, A', c', by omega, by omega, by go_num, rfl, HM5, V5, VN⟩
          case measure => simp [intOf]; omega
      · have d1 : ((tk : Int) == 1) = false := beq_eq_false_iff_ne.2 (by omega)
        have HE := Lib.hid (HN2.out (by unfold inEra; rw [decide_eq_false h1]; rfl))
        have V5 : Hid (OwnV wr 90 5 w1.heap.size A' m c' (tRow (ofL era (L.take (k + 1))) [])) := by rw [Hid, HE.out]; exact VO.out
        have HM5 : Hid ((ofL era (L.take (k + 1))).length = m) := by rw [Hid, HE.out]; exact HM.out
        clear HN1 HN2 h1 HE HM VO
        go_wp2
        go_roundw
        case rel => exact ⟨k + 1, m, A', c', by omega, by omega, by go_num, rfl, HM5, V5, VN⟩
        case measure => simp [intOf]; omega
    · obtain rfl : k = n := by omega
      have E9 : Hid (TknP w (ofL era L) (.returned (.slice A' m c')) wr) := by
        have h1 := VO.out
        have h2 := HM.out
        rw [List.take_of_length_le (by rw [HLN.out]; exact Nat.le_refl _)] at h1 h2
        exact ⟨A', c', by rw [h2], by rw [h2]; exact h1.mono K1.out.size, K1.out.new VN.out⟩
      clear VO VN HM
      go_wp2
      go_ret
      exact E9.out

/-- Pages that are read, one by one. -/
theorem po_row {w : World} {B c : Nat} {A : Option Addr} {pl : List PE} (h : POwn w B A c pl) {i : Nat} {x : PV} (hx : (pvs pl)[i]? = some x) : ∃ (g : Nat) (e : PE), A = some ⟨g, 0, none⟩ ∧ e.v = x ∧ e.es.length ≤ maxLen ∧
    (∀ u, New w u → u.cell? ⟨g, i * 3, none⟩ = some (.int .i64 (e.p : Nat)) ∧ u.cell? ⟨g, i * 3 + 1, none⟩ = some (.slice e.A e.es.length e.c) ∧ u.cell? ⟨g, i * 3 + 2, none⟩ = some (.int .u64 (e.d : Nat)) ∧ CIn u e.A e.es.length e.es) := by
  have hi : i < pl.length := by have := (List.getElem?_eq_some_iff.1 hx).1; unfold pvs at this; rwa [List.length_map] at this
  have he : pl[i]? = some pl[i] := List.getElem?_eq_getElem hi
  have hv : x = pl[i].v := by unfold pvs at hx; rw [List.getElem?_map, he] at hx; injection hx with hx; exact hx.symm
  subst hv
  obtain ⟨_, hc, _, ho⟩ := h.1
  rcases ho with ⟨_, rfl⟩ | ⟨g, sp, rfl, _, hb, _⟩
  · omega
  · refine ⟨g, pl[i], rfl, rfl, Nat.le_trans (h.2 _ (List.getElem_mem hi)).1.2.1 (h.2 _ (List.getElem_mem hi)).1.2.2.1, fun u hu => ?_⟩
    have hb2 := hb.kept hu id
    have key : ∀ j v, j < 3 → pl[i].cells[j]? = some v → u.cell? ⟨g, i * 3 + j, none⟩ = some v := fun j v hj hv => by
      have h1 := pes_at pl i j pl[i] v he hj hv
      rw [hb2.cell, List.getElem?_append_left (List.getElem?_eq_some_iff.1 h1).1]
      exact h1
    exact ⟨key 0 _ (by omega) rfl, key 1 _ (by omega) rfl, key 2 _ (by omega) rfl, ((h.2 _ (List.getElem_mem hi)).new hu).in_⟩

def NumU (w : World) (n : Nat) (e : Ending) (w' : World) : Prop := e = .returned (.int .u64 (n : Nat)) ∧ New w w'

set_option maxHeartbeats 3200000 in
theorem rDrop_any (Q : Nat → Prop) (g : Nat) (s : CSt) (era : Nat) (w : World) (h : NChip Q w g s) (h19 : s.nb ≤ 19) (hL : (refL s s.nb).length ≤ 19) :
    Calls Tryz.prog 28 #[.pointer (some ⟨g, 0, none⟩), .int .u32 (era : Nat)] w (NumU w (lsB 0 (eraV s era (refL s s.nb)))) := by
  have CT := Lib.hid (rOf_any Q g s era w h h19 hL)
  have CP := Lib.hid (fun (b : Nat) u hu => rPages_any Q g s (b : Nat) u (h.new hu))
  have hfl : (ofL era (refL s s.nb)).length ≤ 19 := Nat.le_trans (ofL_le _ _) hL
  have HPL : Hid (∀ b : Nat, (pgsB s b).length ≤ 31) := fun b => pgsB_len (by obtain ⟨_, _, _, _, _, _, _, _, h⟩ := h; exact h.ok)
  have EV : Hid (eraV s era (refL s s.nb) = (ofL era (refL s s.nb)).map (bvO s)) := eraV_of _ _ _
  rw [EV.out]
  clear h h19 hL EV
  generalize ofL era (refL s s.nb) = L at *
  go_enter Tryz.func28, Tryz.ntmps28
  go_wp2_with fail
  refine CT.out.mono ?_
  rintro e w1 ⟨A1, c1, rfl, o1, k1⟩
  have O1 := Lib.hid o1
  have K1 := Lib.hid k1
  clear o1 k1 CT
  generalize hn : L.length = n at *
  have HLN := Lib.hid hn
  clear hn
  go_wp2_with fail
  go_loopw [5, 7] (fun o i wr => ∃ k : Nat, k ≤ n ∧ i = .int .i64 k ∧ o = .int .u64 (lsB 0 ((L.map (bvO s)).take k) : Nat) ∧ Hid (New w1 wr)) (fun _ i _ => n - (intOf i).toNat)
  case atStart => exact ⟨0, Nat.zero_le _, rfl, rfl, Kept.refl _ _⟩
  case round =>
    obtain ⟨k, hk, rfl, rfl, VN⟩ := hrel
    by_cases hlt : k < n
    · obtain ⟨ga, t, eA, ht, hcells⟩ := tk_get O1.out HLN.out hlt
      subst eA
      have HX : Hid ((L.map (bvO s))[k]? = some (bvO s t)) := by rw [Hid, List.getElem?_map, ht]; rfl
      obtain ⟨x0, x1, x2, x3, x4⟩ := hcells wr VN.out
      have CPG := Lib.hid (CP.out t.b wr (K1.out.new VN.out))
      have hpl := HPL.out t.b
      clear ht hcells
      obtain ⟨tb, tk, te, ts, tbad⟩ := t
      dsimp only at *
      have s1 : (0 : Int) ≤ (k : Int) := by omega
      have s3 : (k : Int) < (n : Int) := by omega
      go_wp2_with fail
      refine CPG.out.mono ?_
      rintro e w2 ⟨A2, c2, pl, rfl, e2, o2, k2⟩
      have hl2 : pl.length = (pgsB s tb).length := by rw [show pgsB s tb = pvs pl from e2.symm]; unfold pvs; rw [List.length_map]
      have P2 := Lib.hid o2
      have E2 : Hid (pvs pl = pgsB s tb) := e2
      have N2 := Lib.hid (VN.out.new k2)
      rw [hl2]
      clear o2 e2 k2 hl2 CPG VN x0 x1 x2 x3 x4
      generalize hpn : (pgsB s tb).length = pn at *
      have HPN := Lib.hid hpn
      clear hpn
      generalize hm0 : lsB 0 ((L.map (bvO s)).take k) = m0 at *
      have HM0 := Lib.hid hm0
      clear hm0
      go_wp2_with fail
      generalize hwr : wr = wq at *
      clear hwr
      go_loopw [5, 9] (fun o i wr => ∃ j : Nat, j ≤ pn ∧ i = .int .i64 j ∧ o = .int .u64 (lsP m0 ((pgsB s tb).take j) : Nat) ∧ Hid (New w2 wr)) (fun _ i _ => pn - (intOf i).toNat)
      case atStart => exact ⟨0, Nat.zero_le _, rfl, rfl, Kept.refl _ _⟩
      case round =>
        obtain ⟨j, hj, rfl, rfl, VM⟩ := hrel
        by_cases hlj : j < pn
        · obtain ⟨y, hy⟩ : ∃ y, (pgsB s tb)[j]? = some y := ⟨_, List.getElem?_eq_getElem (by rw [HPN.out]; exact hlj)⟩
          obtain ⟨gb, ye, eB, hye, _, hyc⟩ := po_row P2.out (i := j) (x := y) (by rw [E2.out]; exact hy)
          obtain ⟨y0, y1, y2, _⟩ := hyc wr VM.out
          have HYE : Hid (lsP m0 ((pgsB s tb).take (j + 1)) = max (lsP m0 ((pgsB s tb).take j)) ye.d) := by rw [Hid, lsP_next hy m0, ← hye]; rfl
          subst eB
          clear hy hye hyc
          obtain ⟨yp, yes, yA, yc, yd⟩ := ye
          dsimp only at *
          generalize yes.length = yn at *
          generalize lsP m0 ((pgsB s tb).take j) = m1 at *
          have hmx : max (m1 : Int) (yd : Int) = ((max m1 yd : Nat) : Int) := by omega
          have s4 : (0 : Int) ≤ (j : Int) := by omega
          have s5 : (j : Int) < (pn : Int) := by omega
          go_wp2
          go_roundw
          case rel => exact ⟨j + 1, by omega, by go_num, by rw [HYE.out], VM⟩
          case measure => simp [intOf]; omega
        · have hjn : j = pn := by omega
          have HE : Hid (lsP m0 ((pgsB s tb).take j) = lsB 0 ((L.map (bvO s)).take (k + 1))) := by
            rw [Hid, lsB_next HX.out, HM0.out, hjn, List.take_of_length_le (by rw [HPN.out]; exact Nat.le_refl _)]
            rfl
          have N4 := Lib.hid (N2.out.new VM.out)
          clear VM HX
          go_wp2
          go_roundw
          case rel => exact ⟨k + 1, by omega, by go_num, by rw [HE.out], N4⟩
          case measure => simp [intOf]; omega
    · obtain rfl : k = n := by omega
      have E : Hid (NumU w (lsB 0 (L.map (bvO s))) (.returned (.int .u64 (lsB 0 ((L.map (bvO s)).take k) : Nat))) wr) := ⟨by rw [List.take_of_length_le (by rw [List.length_map, HLN.out]; exact Nat.le_refl _)], K1.out.new VN.out⟩
      clear VN
      go_wp2
      go_ret
      exact E.out

end

section

set_option maxRecDepth 100000
set_option linter.unusedVariables false
open Go.ChangeShapes Go.WideShapes Go.ChangeAt Go.RowKit

/-- One integer more, and where the row lies then. -/
theorem wpList_append_intD {w : World} {ops : Array Oper} {rest : List Oper} {o : Oper} {a : Act} {Q : Exit → Act → World → Prop} (hgd : o.guard = none) (s x : Operand)
    (ho : o.op = .call { callee := .builtin .append, args := #[s, x], argTypes := #[23, 23] })
    (B : Nat) (A : Option Addr) (k ch : Nat) (vs : List Value) (hsv : a.eval s = .slice A k ch) (hown : OwnV w 3 1 B A k ch vs)
    (g c' : Nat) (z : Int) (hx : a.eval x = .slice (some ⟨g, 0, none⟩) 1 c') (hb : Blk w g 3 [.int .i64 z]) (hn : (k + 1) * 8 ≤ 140737488355328) (hbase : B ≤ w.heap.size)
    (h : ∀ A2 c2 w', Hid (OwnV w' 3 1 B A2 (k + 1) c2 (vs ++ [.int .i64 z])) → Hid (Kept (InRow A) w w') → Hid (A2 = A ∨ A2 = some ⟨w.heap.size, 0, none⟩) → wpList Tryz.prog ops Q rest (a.put o.dst (.slice A2 (k + 1) c2)) w') :
    wpList Tryz.prog ops Q (o :: rest) a w := by
  obtain ⟨i0, hi, hz0, hz1, hz2⟩ := info_parts info_int
  have hr : RowV w (some ⟨g, 0, none⟩) 1 i0.size [.int .i64 z] := by
    rw [hz1]
    exact ⟨rfl, fun _ => ⟨g, 0, rfl, fun j v hj => by rw [Nat.zero_add, hb.cell]; exact hj⟩⟩
  have ho' : OwnV w 3 i0.size B A k ch vs := by rw [hz1]; exact hown
  refine wpList_append_rowV w hgd s x 23 ho 3 i0 (.int .i64 0) Tryz.underlying23 hi hz0 (by rw [hz1]; rfl) (by rw [hz1]; omega) B A k ch vs hsv ho' (some ⟨g, 0, none⟩) 1 c' [.int .i64 z] hx hr (by simp; rfl) (by rw [hz2]; omega) (by omega) hbase ?_
  intro A2 c2 w' h3 h4 h5
  refine h A2 c2 w' (by have := h3.out; rw [hz1] at this; exact this) ?_ h5
  refine (Kept.refl (InRow A) w).grown h4.out fun q _ hA => ?_
  obtain ⟨a, ha, e⟩ := Option.map_eq_some_iff.1 hA
  exact ⟨a, ha, e⟩

/-- Two rows of integers that lie apart. -/
def Two (w : World) (B : Nat) (A1 : Option Addr) (c1 : Nat) (l1 : List Nat) (A2 : Option Addr) (c2 : Nat) (l2 : List Nat) : Prop :=
  IOwn w B A1 c1 l1 ∧ IOwn w B A2 c2 l2 ∧ ∀ a b, A1 = some a → A2 = some b → a.block ≠ b.block
theorem Two.new {w w' : World} {B c1 c2 : Nat} {A1 A2 : Option Addr} {l1 l2 : List Nat} (h : Two w B A1 c1 l1 A2 c2 l2) (hk : New w w') : Two w' B A1 c1 l1 A2 c2 l2 := ⟨h.1.new hk, h.2.1.new hk, h.2.2⟩
theorem Two.swap {w : World} {B c1 c2 : Nat} {A1 A2 : Option Addr} {l1 l2 : List Nat} (h : Two w B A1 c1 l1 A2 c2 l2) : Two w B A2 c2 l2 A1 c1 l1 := ⟨h.2.1, h.1, fun a b ha hb e => h.2.2 b a hb ha e.symm⟩
theorem Two.more {w w' : World} {B c1 c2 c3 m x : Nat} {A1 A2 A3 : Option Addr} {l1 l2 : List Nat} (h : Two w B A1 c1 l1 A2 c2 l2) (hm : l1.length = m) (k7 : Kept (InRow A1) w w') (d7 : A3 = A1 ∨ A3 = some ⟨w.heap.size, 0, none⟩)
    (o7 : OwnV w' 3 1 B A3 (m + 1) c3 ((l1.map fun (b : Nat) => Value.int .i64 (b : Nat)) ++ [.int .i64 (x : Nat)])) : Two w' B A3 c3 (l1 ++ [x]) A2 c2 l2 := by
  refine ⟨?_, ?_, fun a b ha hb => ?_⟩
  · unfold IOwn
    rw [List.length_append, hm, List.map_append]
    exact o7
  · exact OwnV.kept h.2.1 k7 fun a ha ⟨b, hb, e⟩ => h.2.2 b a hb ha e
  · rcases d7 with rfl | rfl
    · exact h.2.2 a b ha hb
    · injection ha with ha
      subst ha
      have := (OwnV.at_ h.2.1 b hb).1.lt
      show w.heap.size ≠ b.block
      omega

def BlsR (w : World) (l d : List Nat) (e : Ending) (w' : World) : Prop :=
  ∃ A1 c1 A2 c2, e = .returned (.tuple #[.slice A1 l.length c1, .slice A2 d.length c2]) ∧ IOwn w' w.heap.size A1 c1 l ∧ IOwn w' w.heap.size A2 c2 d ∧ New w w'
def geS (m : Nat) (l : List TK) : List Nat := (l.filter fun t => decide (m ≤ t.s)).map (·.b)
def ltS (m : Nat) (l : List TK) : List Nat := (l.filter fun t => decide (t.s < m)).map (·.b)
theorem ge_next {m k : Nat} {l : List TK} {t : TK} (h : l[k]? = some t) : (m ≤ t.s → geS m (l.take (k + 1)) = geS m (l.take k) ++ [t.b] ∧ ltS m (l.take (k + 1)) = ltS m (l.take k)) ∧ (t.s < m → geS m (l.take (k + 1)) = geS m (l.take k) ∧ ltS m (l.take (k + 1)) = ltS m (l.take k) ++ [t.b]) := by
  unfold geS ltS
  rw [List.take_add_one, h, Option.toList_some, List.filter_append, List.filter_append, List.map_append, List.map_append]
  refine ⟨fun hh => ?_, fun hh => ?_⟩
  · rw [List.filter_cons, if_pos (decide_eq_true hh), List.filter_cons, if_neg (by rw [decide_eq_false (by omega)]; decide)]
    simp
  · rw [List.filter_cons, if_neg (by rw [decide_eq_false (by omega)]; decide), List.filter_cons, if_pos (decide_eq_true hh)]
    simp
theorem geS_le (m : Nat) (l : List TK) : (geS m l).length ≤ l.length := by unfold geS; rw [List.length_map]; exact List.length_filter_le _ _
theorem ltS_le (m : Nat) (l : List TK) : (ltS m l).length ≤ l.length := by unfold ltS; rw [List.length_map]; exact List.length_filter_le _ _

set_option maxHeartbeats 3200000 in
theorem rBlocks_any (Q : Nat → Prop) (g : Nat) (s : CSt) (era : Nat) (w : World) (h : NChip Q w g s) (h19 : s.nb ≤ 19) (hL : (refL s s.nb).length ≤ 19) :
    Calls Tryz.prog 10 #[.pointer (some ⟨g, 0, none⟩), .int .u32 (era : Nat)] w (BlsR w (geS (lsB 0 (eraV s era (refL s s.nb))) (ofL era (refL s s.nb))) (ltS (lsB 0 (eraV s era (refL s s.nb))) (ofL era (refL s s.nb)))) := by
  have CD := Lib.hid (rDrop_any Q g s era w h h19 hL)
  have CT := fun u hu => Lib.hid (rOf_any Q g s era u (h.new hu) h19 hL)
  have hfl : (ofL era (refL s s.nb)).length ≤ 19 := Nat.le_trans (ofL_le _ _) hL
  clear h h19 hL
  generalize lsB 0 (eraV s era (refL s s.nb)) = lo at *
  generalize ofL era (refL s s.nb) = L at *
  go_enter Tryz.func10, Tryz.ntmps10
  go_wp2_with fail
  refine CD.out.mono ?_
  rintro e w0 ⟨rfl, k0⟩
  have K0 := Lib.hid k0
  have CT2 := Lib.hid (CT w0 k0).out
  clear k0 CD CT
  go_wp2_with fail
  refine CT2.out.mono ?_
  rintro e w1 ⟨A1, c1, rfl, o1, k1⟩
  have O1 := Lib.hid o1
  have K1 := Lib.hid (K0.out.new k1)
  clear o1 k1 CT2 K0
  generalize hn : L.length = n at *
  have HLN := Lib.hid hn
  clear hn
  go_wp2_with fail
  go_loopw [6, 7, 10] (fun o p i wr => ∃ (k m1 m2 : Nat) (X1 X2 : Option Addr) (d1 d2 : Nat), k ≤ n ∧ m1 ≤ k ∧ m2 ≤ k ∧ i = .int .i64 k ∧ o = .slice X1 m1 d1 ∧ p = .slice X2 m2 d2 ∧ Hid ((geS lo (L.take k)).length = m1) ∧ Hid ((ltS lo (L.take k)).length = m2) ∧ Hid (Two wr w1.heap.size X1 d1 (geS lo (L.take k)) X2 d2 (ltS lo (L.take k))) ∧ Hid (New w1 wr)) (fun _ _ i _ => n - (intOf i).toNat)
  case atStart => exact ⟨0, 0, 0, none, none, 0, 0, Nat.zero_le _, Nat.le_refl _, Nat.le_refl _, rfl, rfl, rfl, rfl, rfl, ⟨OwnV.nil _ _ _ _, OwnV.nil _ _ _ _, fun a b h => by cases h⟩, Kept.refl _ _⟩
  case round =>
    obtain ⟨k, m1, m2, X1, X2, d1, d2, hk, hm1, hm2, rfl, rfl, rfl, HM1, HM2, VO, VN⟩ := hrel
    by_cases hlt : k < n
    · obtain ⟨ga, t, eA, ht, hcells⟩ := tk_get O1.out HLN.out hlt
      subst eA
      have HN := Lib.hid (ge_next (m := lo) ht)
      obtain ⟨x0, x1, x2, x3, x4⟩ := hcells wr VN.out
      clear ht hcells
      obtain ⟨tb, tk, te, ts, tbad⟩ := t
      dsimp only at *
      have s1 : (0 : Int) ≤ (k : Int) := by omega
      have s3 : (k : Int) < (n : Int) := by omega
      obtain ⟨w2, hw2⟩ : ∃ w2, w2 = wr.alloc (.cells #[.int .i64 (tb : Nat)] 3) := ⟨_, rfl⟩
      have m2' : New wr w2 := by rw [hw2]; exact (Kept.refl _ _).alloc _
      have B2 : Hid (Blk w2 wr.heap.size 3 [.int .i64 (tb : Nat)]) := by rw [hw2]; exact Blk.made wr _ _
      have N2 := Lib.hid (VN.out.new m2')
      have V2 := Lib.hid (VO.out.new m2')
      have HW2 := Lib.hid hw2
      clear m2' hw2 VO
      by_cases hge : lo ≤ ts
      · have dg : decide (lo ≤ ts) = true := decide_eq_true hge
        obtain ⟨e1, e2⟩ := HN.out.1 hge
        have E1 := Lib.hid e1
        have E2 := Lib.hid e2
        have W2 : Hid (OwnV w2 3 1 w1.heap.size X1 m1 d1 ((geS lo (L.take k)).map fun (b : Nat) => .int .i64 (b : Nat))) := by have := V2.out.1; unfold IOwn at this; rwa [HM1.out] at this
        clear HN e1 e2 hge VN
        go_wp2_with (at_builtin; rw [← HW2.out]; refine wpList_append_intD rfl _ _ rfl w1.heap.size X1 m1 d1 _ rfl W2.out wr.heap.size 1 (tb : Nat) rfl B2.out (by omega) N2.out.size ?_)
        intro A5 c5 w5 O5 K5 D5
        have V5 : Hid (Two w5 w1.heap.size A5 c5 (geS lo (L.take (k + 1))) X2 d2 (ltS lo (L.take (k + 1)))) := by rw [Hid, E1.out, E2.out]; exact V2.out.more HM1.out K5.out D5.out O5.out
        have N5 : Hid (New w1 w5) := new_row N2.out W2.out K5.out
        have HM5 : Hid ((geS lo (L.take (k + 1))).length = m1 + 1) := by rw [Hid, E1.out, List.length_append, HM1.out]; rfl
        have HM6 : Hid ((ltS lo (L.take (k + 1))).length = m2) := by rw [Hid, E2.out]; exact HM2.out
        clear O5 K5 D5 V2 N2 W2 B2 HW2 E1 E2 HM1 HM2 x0 x1 x2 x3 x4
        go_wp2
        go_roundw
        case rel => exact ⟨k + 1, m1 + 1, m2, A5, X2, c5, d2, by omega, by omega, by omega, by go_num, rfl, rfl, HM5, HM6, V5, N5⟩
        case measure => simp [intOf]; omega
      · have dg : decide (lo ≤ ts) = false := decide_eq_false hge
        obtain ⟨e1, e2⟩ := HN.out.2 (by omega)
        have E1 := Lib.hid e1
        have E2 := Lib.hid e2
        have W2 : Hid (OwnV w2 3 1 w1.heap.size X2 m2 d2 ((ltS lo (L.take k)).map fun (b : Nat) => .int .i64 (b : Nat))) := by have := V2.out.2.1; unfold IOwn at this; rwa [HM2.out] at this
        clear HN e1 e2 hge VN
        go_wp2_with (at_builtin; rw [← HW2.out]; refine wpList_append_intD rfl _ _ rfl w1.heap.size X2 m2 d2 _ rfl W2.out wr.heap.size 1 (tb : Nat) rfl B2.out (by omega) N2.out.size ?_)
        intro A5 c5 w5 O5 K5 D5
        have V5 : Hid (Two w5 w1.heap.size X1 d1 (geS lo (L.take (k + 1))) A5 c5 (ltS lo (L.take (k + 1)))) := by rw [Hid, E1.out, E2.out]; exact (V2.out.swap.more HM2.out K5.out D5.out O5.out).swap
        have N5 : Hid (New w1 w5) := new_row N2.out W2.out K5.out
        have HM5 : Hid ((geS lo (L.take (k + 1))).length = m1) := by rw [Hid, E1.out]; exact HM1.out
        have HM6 : Hid ((ltS lo (L.take (k + 1))).length = m2 + 1) := by rw [Hid, E2.out, List.length_append, HM2.out]; rfl
        clear O5 K5 D5 V2 N2 W2 B2 HW2 E1 E2 HM1 HM2 x0 x1 x2 x3 x4
        go_wp2
        go_roundw
        case rel => exact ⟨k + 1, m1, m2 + 1, X1, A5, d1, c5, by omega, by omega, by omega, by go_num, rfl, rfl, HM5, HM6, V5, N5⟩
        case measure => simp [intOf]; omega
    · obtain rfl : k = n := by omega
      have E9 : Hid (BlsR w (geS lo L) (ltS lo L) (.returned (.tuple #[.slice X1 m1 d1, .slice X2 m2 d2])) wr) := by
        have h1 := VO.out
        have h2 := HM1.out
        have h3 := HM2.out
        rw [List.take_of_length_le (by rw [HLN.out]; exact Nat.le_refl _)] at h1 h2 h3
        exact ⟨X1, d1, X2, d2, by rw [h2, h3], OwnV.mono h1.1 K1.out.size, OwnV.mono h1.2.1 K1.out.size, K1.out.new VN.out⟩
      clear VO VN HM1 HM2
      go_wp2
      go_ret2
      exact E9.out

end

section

set_option maxRecDepth 100000
set_option linter.unusedVariables false
open Go.ChangeShapes Go.WideShapes Go.ChangeAt Go.RowKit

/-- The changes of blocks, one behind the other. -/
def numCh (s : CSt) (l : List Nat) : List CT := l.flatMap fun b => pgCh (pgsB s b)
theorem numCh_next {s : CSt} {l : List Nat} {k b : Nat} (h : l[k]? = some b) : numCh s (l.take (k + 1)) = numCh s (l.take k) ++ pgCh (pgsB s b) := by
  unfold numCh
  rw [List.take_add_one, h, List.flatMap_append]
  simp
theorem int_get {w : World} {B c i v : Nat} {A : Option Addr} {l : List Nat} (h : IOwn w B A c l) (hv : l[i]? = some v) : ∃ g, A = some ⟨g, 0, none⟩ ∧ w.cell? ⟨g, i, none⟩ = some (.int .i64 (v : Nat)) := by
  have hi : i < l.length := (List.getElem?_eq_some_iff.1 hv).1
  obtain ⟨_, hc, _, ho⟩ := h
  rcases ho with ⟨_, rfl⟩ | ⟨g, sp, rfl, _, hb, _⟩
  · omega
  · refine ⟨g, rfl, ?_⟩
    rw [hb.cell, List.getElem?_append_left (by rw [List.length_map]; exact hi), List.getElem?_map, hv]
    rfl
theorem apF_more (l : List FT) (a b : List CT) : apF l (a ++ b) = apF (apF l a) b := by unfold apF; rw [List.foldl_append]

def RFac (w : World) (l : List FT) (e : Ending) (w' : World) : Prop := ∃ A c es, e = .returned (.slice A es.length c) ∧ FIn w' A es.length es ∧ fts es = l ∧ es.length ≤ 200000 ∧ New w w'

set_option maxHeartbeats 6400000 in
theorem rFacts_any (Q : Nat → Prop) (g : Nat) (s : CSt) (era : Nat) (w : World) (h : NChip Q w g s) (h19 : s.nb ≤ 19) (hL : (refL s s.nb).length ≤ 19) (cnt : List Nat) (hc : cnt = geS (lsB 0 (eraV s era (refL s s.nb))) (ofL era (refL s s.nb))) :
    Calls Tryz.prog 13 #[.pointer (some ⟨g, 0, none⟩), .int .u32 (era : Nat)] w (RFac w (apF [] (numCh s cnt))) := by
  have CB := Lib.hid (rBlocks_any Q g s era w h h19 hL)
  have ok : s.Ok := by obtain ⟨_, _, _, _, _, _, _, _, h⟩ := h; exact h.ok
  have CP := Lib.hid (fun (b : Nat) u hu => rPages_any Q g s (b : Nat) u (h.new hu))
  have HPL : Hid (∀ b : Nat, (pgsB s b).length ≤ 31) := fun b => pgsB_len ok
  have HCL : Hid (∀ b : Nat, ∀ p ∈ pgsB s b, p.cs.length ≤ 255) := fun b => pg_cs_len ok
  have hcl : cnt.length ≤ 19 := by rw [hc]; exact Nat.le_trans (geS_le _ _) (Nat.le_trans (ofL_le _ _) hL)
  rw [← hc] at CB
  generalize ltS (lsB 0 (eraV s era (refL s s.nb))) (ofL era (refL s s.nb)) = ltl at *
  have RA := fun (A' : Option Addr) (n' c' : Nat) (al : List FE) (B' : Option Addr) (m' d' : Nat) (cs : List CE) (u : World) (h : FIn u A' n' al) (hn : n' ≤ maxLen) (hc : CIn u B' m' cs) (hb : (n' + m') * 64 ≤ 140737488355328) => Lib.hid (rapply_any A' n' c' al B' m' d' cs u h hn hc hb)
  have HORD : Hid (∀ l : List CT, ordF (apF [] l) = true) := fun l => ord_ap l rfl
  clear h h19 hL ok hc
  go_enter Tryz.func13, Tryz.ntmps13
  go_wp2_with fail
  refine CB.out.mono ?_
  rintro e w1 ⟨A1, c1, A2, c2, rfl, i1, _, k1⟩
  have I1 := Lib.hid i1
  have K1 := Lib.hid k1
  clear i1 k1 CB
  generalize hn : cnt.length = n at *
  have HLN := Lib.hid hn
  clear hn
  generalize ltl.length = nl at *
  go_wp2_with fail
  go_loopw [5, 8] (fun o i wr => ∃ (k : Nat) (aA : Option Addr) (am ac : Nat) (ae : List FE), k ≤ n ∧ i = .int .i64 k ∧ o = .slice aA am ac ∧ am ≤ 7905 * k ∧ Hid (ae.length = am) ∧ Hid (fts ae = apF [] (numCh s (cnt.take k))) ∧ Hid (FIn wr aA am ae) ∧ Hid (New w1 wr)) (fun _ i _ => n - (intOf i).toNat)
  case atStart => exact ⟨0, none, 0, 0, [], Nat.zero_le _, rfl, rfl, by omega, rfl, rfl, FIn.nil _ _, Kept.refl _ _⟩
  case round =>
    obtain ⟨k, aA, am, ac, ae, hk, rfl, rfl, ham, HAM, HAF, HAI, VN⟩ := hrel
    by_cases hlt : k < n
    · obtain ⟨tb, htb⟩ : ∃ tb, cnt[k]? = some tb := ⟨_, List.getElem?_eq_getElem (by rw [HLN.out]; exact hlt)⟩
      obtain ⟨ga, eA, x0⟩ := int_get (I1.out.new VN.out) htb
      subst eA
      have HX := Lib.hid (numCh_next (s := s) htb)
      have CPG := Lib.hid (CP.out tb wr (K1.out.new VN.out))
      have hpl := HPL.out tb
      have HCB := Lib.hid (HCL.out tb)
      clear htb
      have s1 : (0 : Int) ≤ (k : Int) := by omega
      have s3 : (k : Int) < (n : Int) := by omega
      go_wp2_with fail
      refine CPG.out.mono ?_
      rintro e w2 ⟨A3, c3, pl, rfl, e2, o2, k2⟩
      have hl2 : pl.length = (pgsB s tb).length := by rw [show pgsB s tb = pvs pl from e2.symm]; unfold pvs; rw [List.length_map]
      have P2 := Lib.hid o2
      have E2 : Hid (pvs pl = pgsB s tb) := e2
      have N2 := Lib.hid (VN.out.new k2)
      have HAI2 := Lib.hid (HAI.out.new k2)
      rw [hl2]
      clear o2 e2 k2 hl2 CPG VN HAI x0
      generalize hpn : (pgsB s tb).length = pn at *
      have HPN := Lib.hid hpn
      clear hpn
      go_wp2_with fail
      generalize hwr : wr = wq at *
      clear hwr
      go_loopw [5, 10] (fun o i wr => ∃ (j : Nat) (aA : Option Addr) (am ac : Nat) (ae : List FE), j ≤ pn ∧ i = .int .i64 j ∧ o = .slice aA am ac ∧ am ≤ 7905 * k + 255 * j ∧ Hid (ae.length = am) ∧ Hid (fts ae = apF [] (numCh s (cnt.take k) ++ pgCh ((pgsB s tb).take j))) ∧ Hid (FIn wr aA am ae) ∧ Hid (New w2 wr)) (fun _ i _ => pn - (intOf i).toNat)
      case atStart => exact ⟨0, aA, am, ac, ae, Nat.zero_le _, rfl, rfl, by omega, HAM, by rw [Hid, HAF.out]; simp [pgCh], HAI2, Kept.refl _ _⟩
      case round =>
        obtain ⟨j, aA, am, ac, ae, hj, rfl, rfl, ham2, HAM, HAF, HAI, VM⟩ := hrel
        by_cases hlj : j < pn
        · obtain ⟨y, hy⟩ : ∃ y, (pgsB s tb)[j]? = some y := ⟨_, List.getElem?_eq_getElem (by rw [HPN.out]; exact hlj)⟩
          obtain ⟨gb, ye, eB, hye, _, hyc⟩ := po_row P2.out (i := j) (x := y) (by rw [E2.out]; exact hy)
          obtain ⟨y0, y1, y2, ic⟩ := hyc wr VM.out
          have h255 := HCB.out y (List.mem_of_getElem? hy)
          have HYE : Hid (pgCh ((pgsB s tb).take (j + 1)) = pgCh ((pgsB s tb).take j) ++ cts ye.es) := by rw [Hid, pgCh_next hy, ← hye]; rfl
          have hcl2 : ye.es.length ≤ 255 := by rw [← hye] at h255; have h3 : (cts ye.es).length ≤ 255 := h255; rwa [cts_lenE] at h3
          subst eB
          clear hy hye hyc h255
          obtain ⟨yp, yes, yA, yc, yd⟩ := ye
          dsimp only at *
          have RC := RA aA am ac ae yA yes.length yc yes wr HAI.out (by unfold maxLen; omega) ic (by omega)
          rw [HAF.out, if_pos (HORD.out _), ← apF_more, List.append_assoc, ← HYE.out] at RC
          have hlen := apF_len (apF [] (numCh s (cnt.take k) ++ pgCh ((pgsB s tb).take j))) (cts yes)
          rw [← apF_more, List.append_assoc, ← HYE.out, ← HAF.out, fts_lenE, HAM.out, cts_lenE] at hlen
          have HLE := Lib.hid hlen
          clear hlen ic HAF HAI HYE
          generalize yes.length = yn at *
          have s4 : (0 : Int) ≤ (j : Int) := by omega
          have s5 : (j : Int) < (pn : Int) := by omega
          go_wp2_with fail
          refine RC.out.mono ?_
          rintro e w5 ⟨A5, c5, es5, rfl, i5, e5, k5, _, _⟩
          have N5 := Lib.hid (VM.out.new k5)
          have AI5 := Lib.hid i5
          have AF5 := Lib.hid e5
          have hes5 : es5.length ≤ am + yn := by have h1 := HLE.out; rw [← e5, fts_lenE] at h1; exact h1
          clear k5 i5 e5 VM RC y0 y1 y2 HLE
          go_wp2
          go_roundw
          case rel => exact ⟨j + 1, A5, es5.length, c5, es5, by omega, by go_num, rfl, by omega, rfl, AF5, AI5, N5⟩
          case measure => simp [intOf]; omega
        · have hjn : j = pn := by omega
          have HE : Hid (fts ae = apF [] (numCh s (cnt.take (k + 1)))) := by
            have ht : (pgsB s tb).take pn = pgsB s tb := List.take_of_length_le (by rw [HPN.out]; exact Nat.le_refl _)
            rw [Hid, HAF.out, HX.out, hjn, ht]
          have N4 := Lib.hid (N2.out.new VM.out)
          clear VM HX HAF
          go_wp2
          go_roundw
          case rel => exact ⟨k + 1, aA, am, ac, ae, by omega, by go_num, rfl, by omega, HAM, HE, HAI, N4⟩
          case measure => simp [intOf]; omega
    · obtain rfl : k = n := by omega
      have E : Hid (RFac w (apF [] (numCh s cnt)) (.returned (.slice aA am ac)) wr) := by
        have h1 := HAF.out
        rw [List.take_of_length_le (by rw [HLN.out]; exact Nat.le_refl _)] at h1
        exact ⟨aA, ac, ae, by rw [HAM.out], by rw [HAM.out]; exact HAI.out, h1, by rw [HAM.out]; omega, K1.out.new VN.out⟩
      clear VN HAF HAI HAM
      go_wp2
      go_ret
      exact E.out

end

section

set_option maxRecDepth 100000
set_option linter.unusedVariables false

/-- Seq and block in one number. -/
def kap (t : TK) : Nat := t.s * 64 + t.b
def kf (t : TK) : TK := { t with s := kap t }
theorem kf_s (t : TK) : (kf t).s = kap t := rfl

theorem swp_map (l : List TK) (j : Nat) : (swp l j).map kf = swp (l.map kf) j := by
  unfold swp
  rw [List.getElem?_map, List.getElem?_map]
  cases h1 : l[j]? with
  | none => rfl
  | some x =>
    cases h2 : l[j + 1]? with
    | none => rfl
    | some y => simp [List.map_set]
theorem seq_map {l : List TK} {i : Nat} {x : TK} (h : l[i]? = some x) : seqAt (l.map kf) i = kap x ∧ seqAt l i = x.s := by
  unfold seqAt
  rw [List.getElem?_map, h]
  exact ⟨rfl, rfl⟩
theorem swp_at {l : List TK} {j : Nat} {x y : TK} (hx : l[j]? = some x) (hy : l[j + 1]? = some y) (i : Nat) : (swp l j)[i]? = if i = j then some y else if i = j + 1 then some x else l[i]? := by
  have h1 := (List.getElem?_eq_some_iff.1 hx).1
  have h2 := (List.getElem?_eq_some_iff.1 hy).1
  unfold swp
  rw [hx, hy]
  show ((l.set (j + 1) x).set j y)[i]? = _
  rw [List.getElem?_set, List.length_set]
  by_cases e1 : i = j
  · subst e1; simp [h1]
  · rw [if_neg (by omega), if_neg e1, List.getElem?_set]
    by_cases e2 : i = j + 1
    · subst e2; simp [h2]
    · rw [if_neg (by omega), if_neg e2]

theorem bub_tail : ∀ (m : Nat) (l : List TK) (i : Nat), m < i → (bub m l)[i]? = l[i]?
  | 0, l, i, _ => rfl
  | m + 1, l, i, hi => by
    simp only [bub]
    split
    · rw [bub_tail m _ i (by omega)]
      cases hx : l[m]? with
      | none => unfold swp; rw [hx]
      | some x =>
        cases hy : l[m + 1]? with
        | none => unfold swp; rw [hx, hy]
        | some y => rw [swp_at hx hy, if_neg (by omega), if_neg (by omega)]
    · rfl
theorem bub_in : ∀ (m : Nat) (l : List TK) (i : Nat) (y : TK), i ≤ m → (bub m l)[i]? = some y → ∃ j, j ≤ m ∧ l[j]? = some y
  | 0, l, i, y, hi, h => ⟨i, hi, h⟩
  | m + 1, l, i, y, hi, h => by
    simp only [bub] at h
    split at h
    · cases hx : l[m]? with
      | none =>
        have e : swp l m = l := by unfold swp; rw [hx]
        rw [e] at h
        by_cases hi2 : i ≤ m
        · obtain ⟨j, hj, e2⟩ := bub_in m l i y hi2 h
          exact ⟨j, by omega, e2⟩
        · rw [bub_tail m l i (by omega)] at h
          exact ⟨i, hi, h⟩
      | some x =>
        cases hy : l[m + 1]? with
        | none =>
          have e : swp l m = l := by unfold swp; rw [hx, hy]
          rw [e] at h
          by_cases hi2 : i ≤ m
          · obtain ⟨j, hj, e2⟩ := bub_in m l i y hi2 h
            exact ⟨j, by omega, e2⟩
          · rw [bub_tail m l i (by omega)] at h
            exact ⟨i, hi, h⟩
        | some z =>
          have key : ∃ j, j ≤ m + 1 ∧ (swp l m)[j]? = some y := by
            by_cases hi2 : i ≤ m
            · obtain ⟨j, hj, e2⟩ := bub_in m (swp l m) i y hi2 h
              exact ⟨j, by omega, e2⟩
            · rw [bub_tail m _ i (by omega)] at h
              exact ⟨i, hi, h⟩
          obtain ⟨j, hj, e2⟩ := key
          rw [swp_at hx hy] at e2
          by_cases e3 : j = m
          · rw [if_pos e3] at e2; exact ⟨m + 1, by omega, by rw [hy]; exact e2⟩
          · rw [if_neg e3] at e2
            by_cases e4 : j = m + 1
            · rw [if_pos e4] at e2; exact ⟨m, by omega, by rw [hx]; exact e2⟩
            · rw [if_neg e4] at e2; exact ⟨j, hj, e2⟩
    · exact ⟨i, hi, h⟩

theorem bub_map : ∀ (m : Nat) (l : List TK), m < l.length → (∀ (x : TK) (i : Nat) (y : TK), l[m]? = some x → i < m → l[i]? = some y → y.b < x.b) → (∀ t ∈ l, t.b < 64) → (bub m l).map kf = bub m (l.map kf)
  | 0, l, _, _, _ => rfl
  | m + 1, l, hm, hb, h64 => by
    have hx : l[m]? = some l[m] := List.getElem?_eq_getElem (by omega)
    have hy : l[m + 1]? = some l[m + 1] := List.getElem?_eq_getElem hm
    have hlt := hb _ m _ hy (by omega) hx
    have b1 := h64 _ (List.mem_of_getElem? hx)
    have b2 := h64 _ (List.mem_of_getElem? hy)
    have e1 := seq_map hx
    have e2 := seq_map hy
    simp only [bub]
    rw [e1.1, e1.2, e2.1, e2.2]
    by_cases h : l[m + 1].s < l[m].s
    · rw [if_pos h, if_pos (by unfold kap; omega), bub_map m (swp l m) (by rw [swp_len]; omega) ?_ ?_, swp_map]
      · intro x i y hx' hi hy'
        rw [swp_at hx hy, if_pos rfl] at hx'
        rw [swp_at hx hy, if_neg (by omega), if_neg (by omega)] at hy'
        injection hx' with hx'
        subst hx'
        exact hb _ i y hy (by omega) hy'
      · intro t ht
        exact h64 t ((swp_perm l m).mem_iff.1 ht)
    · rw [if_neg h, if_neg (by unfold kap; omega)]

theorem insG_tail (l : List TK) : ∀ (k i : Nat), k < i → (insG l k)[i]? = l[i]?
  | 0, i, _ => rfl
  | k + 1, i, h => by
    simp only [insG]
    rw [bub_tail _ _ _ h, insG_tail l k i (by omega)]
theorem insG_in (l : List TK) : ∀ (k i : Nat) (y : TK), i ≤ k → (insG l k)[i]? = some y → ∃ j, j ≤ k ∧ l[j]? = some y
  | 0, i, y, hi, h => ⟨i, hi, h⟩
  | k + 1, i, y, hi, h => by
    simp only [insG] at h
    obtain ⟨j, hj, e⟩ := bub_in _ _ i y hi h
    by_cases hk : j = k + 1
    · rw [insG_tail l k j (by omega)] at e
      exact ⟨j, hj, e⟩
    · obtain ⟨j2, h2, e2⟩ := insG_in l k j y (by omega) e
      exact ⟨j2, by omega, e2⟩
theorem insG_map {l : List TK} (hr : ∀ (i j : Nat) (x y : TK), l[i]? = some x → l[j]? = some y → i < j → x.b < y.b) (h64 : ∀ t ∈ l, t.b < 64) : ∀ k, k < l.length → (insG l k).map kf = insG (l.map kf) k
  | 0, _ => rfl
  | k + 1, hk => by
    simp only [insG]
    rw [bub_map (k + 1) (insG l k) (by rw [insG_len]; exact hk) ?_ ?_, insG_map hr h64 k (by omega)]
    · intro x i y hx hi hy
      rw [insG_tail l k (k + 1) (by omega)] at hx
      obtain ⟨j, hj, e⟩ := insG_in l k i y (by omega) hy
      exact hr j (k + 1) y x e hx (by omega)
    · intro t ht
      exact h64 t ((insG_perm l k).mem_iff.1 ht)

theorem tkC_b (s : CSt) : ∀ (k : Nat) (t : TK), t ∈ tkC s k → t.b < k ∧ t = tkOf s t.b
  | 0, t, h => by simp [tkC] at h
  | k + 1, t, h => by
    simp only [tkC] at h
    rcases List.mem_append.1 h with h | h
    · have := tkC_b s k t h
      exact ⟨by omega, this.2⟩
    · split at h
      · rw [List.mem_singleton.1 h]; exact ⟨Nat.lt_succ_self k, rfl⟩
      · simp at h
theorem tkC_rise (s : CSt) : ∀ k, (tkC s k).Pairwise (fun a b => a.b < b.b)
  | 0 => List.Pairwise.nil
  | k + 1 => by
    simp only [tkC]
    refine List.pairwise_append.2 ⟨tkC_rise s k, ?_, fun a ha b hb => ?_⟩
    · split
      · exact List.pairwise_singleton _ _
      · exact List.Pairwise.nil
    · have h1 := (tkC_b s k a ha).1
      split at hb
      · rw [List.mem_singleton.1 hb]; exact h1
      · simp at hb

theorem insR_map {l : List TK} {t : TK} (hb : ∀ x ∈ l, x.b < t.b) (h64 : t.b < 64) : (insR l t).map kf = insR (l.map kf) (kf t) := by
  unfold insR
  have key : ∀ m : List TK, (∀ x ∈ m, x.b < t.b) → (m.takeWhile (fun x => decide (x.s ≤ t.s))).map kf = (m.map kf).takeWhile (fun x => decide (x.s ≤ (kf t).s)) ∧ (m.dropWhile (fun x => decide (x.s ≤ t.s))).map kf = (m.map kf).dropWhile (fun x => decide (x.s ≤ (kf t).s)) := by
    intro m
    induction m with
    | nil => intro _; exact ⟨rfl, rfl⟩
    | cons x r ih =>
      intro hm
      have h1 := hm x List.mem_cons_self
      have ih2 := ih fun y hy => hm y (List.mem_cons_of_mem _ hy)
      rw [List.map_cons, List.takeWhile_cons, List.takeWhile_cons, List.dropWhile_cons, List.dropWhile_cons]
      have e : decide ((kf x).s ≤ (kf t).s) = decide (x.s ≤ t.s) := by
        rw [kf_s, kf_s]
        by_cases h : x.s ≤ t.s
        · rw [decide_eq_true h, decide_eq_true (by unfold kap; omega)]
        · rw [decide_eq_false h, decide_eq_false (by unfold kap; omega)]
      rw [e]
      cases decide (x.s ≤ t.s) with
      | true => simp only [if_true]; exact ⟨by rw [List.map_cons, ih2.1], ih2.2⟩
      | false => simp
  rw [List.map_append, List.map_cons, (key l hb).1, (key l hb).2]

theorem refL_map (s : CSt) : ∀ k, k ≤ 64 → ((refL s k).map kf).Pairwise SeqLe
  | 0, _ => List.Pairwise.nil
  | k + 1, hk => by
    have ih := refL_map s k (by omega)
    simp only [refL]
    split
    · rw [insR_map (fun x hx => (tkC_b s k x ((refL_perm s k).mem_iff.1 hx)).1) (show k < 64 by omega)]
      exact insR_pw ih _
    · exact ih

/-- What the program lists is what the reference lists. -/
theorem tkn_any {s : CSt} (h19 : s.nb ≤ 19) : tknL s (scanS s) = refL s s.nb := by
  have ha : Agree s (scanS s) := by
    unfold scanS
    split
    · exact scan_agree s _ rfl _ _
    · exact scan_agree s _ rfl _ _
  have e : tkUpto s (scanS s) s.nb = tkC s s.nb := tkUpto_eq ha _ (Nat.le_refl _)
  unfold tknL
  rw [e]
  have hC := tkC_rise s s.nb
  have hr : ∀ (i j : Nat) (x y : TK), (tkC s s.nb)[i]? = some x → (tkC s s.nb)[j]? = some y → i < j → x.b < y.b := fun i j x y hx hy hij => by
    obtain ⟨h1, e1⟩ := List.getElem?_eq_some_iff.1 hx
    obtain ⟨h2, e2⟩ := List.getElem?_eq_some_iff.1 hy
    have := List.pairwise_iff_getElem.1 hC i j h1 h2 hij
    rw [e1, e2] at this
    exact this
  have h64 : ∀ t ∈ tkC s s.nb, t.b < 64 := fun t ht => by have := (tkC_b s s.nb t ht).1; omega
  have p1 : (insG (tkC s s.nb) ((tkC s s.nb).length - 1)).Perm (tkC s s.nb) := insG_perm _ _
  have w1 : ((insG (tkC s s.nb) ((tkC s s.nb).length - 1)).map kf).Pairwise SeqLe := by
    by_cases h0 : (tkC s s.nb).length = 0
    · have : tkC s s.nb = [] := List.eq_nil_of_length_eq_zero h0
      rw [this]; exact List.Pairwise.nil
    · rw [insG_map hr h64 _ (by omega)]
      have := insG_pw ((tkC s s.nb).map kf)
      rwa [List.length_map] at this
  have w2 := refL_map s s.nb (by omega)
  have p2 := refL_perm s s.nb
  refine List.Perm.eq_of_pairwise (le := fun a b => kap a ≤ kap b) (fun a b ha hb hab hba => ?_) ?_ ?_ (p1.trans p2.symm)
  · have h1 := tkC_b s s.nb a (p1.mem_iff.1 ha)
    have h2 := tkC_b s s.nb b (p2.mem_iff.1 hb)
    have h3 : a.b = b.b := by unfold kap at hab hba; omega
    rw [h1.2, h2.2, h3]
  · exact (List.pairwise_map.1 w1).imp fun h => h
  · exact (List.pairwise_map.1 w2).imp fun h => h
theorem refL_cnt {s : CSt} (h19 : s.nb ≤ 19) : (refL s s.nb).length ≤ 19 := by
  have h : ∀ k, (refL s k).length ≤ k := by
    intro k
    induction k with
    | zero => exact Nat.le_refl _
    | succ k ih =>
      simp only [refL]
      split
      · have := (insR_perm (refL s k) (tkOf s k)).length_eq
        rw [List.length_append, List.length_singleton] at this
        omega
      · omega
  exact Nat.le_trans (h _) h19

end

end Go.Proofs.YtbiihjdjbknibaaGreat
