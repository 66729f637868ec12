/-
  Contracts: facts as changes; rows of pages; Pages and Many of the program.
-/
import Derived.Test.YtbiihjdjbknibaaBc
namespace Go.Proofs.Ytbiihjdjbknibaa
set_option maxRecDepth 100000
open Go.RowKit

/-- Facts that lie as changes: the values are their own still. -/
def fcs (es : List FE) : List CE := es.map fun e => ⟨toC e.f, e.A, e.c⟩
theorem fcs_len (es : List FE) : (fcs es).length = es.length := by unfold fcs; rw [List.length_map]
theorem fcs_cts (es : List FE) : cts (fcs es) = (fts es).map toC := by unfold fcs cts fts; rw [List.map_map, List.map_map]; rfl
theorem fcs_next {es : List FE} {k : Nat} {x : FE} (h : es[k]? = some x) : ces (fcs (es.take (k + 1))) = ces (fcs (es.take k)) ++ chc x.f.k x.A x.f.v.length x.c false := by
  rw [List.take_add_one, h]
  unfold fcs
  rw [List.map_append, ces_append]
  simp [ces, CE.cells, kcells, chc, toC]
/-- Changes come back. -/
def ChgP (w : World) (es : List FE) (e : Ending) (w' : World) : Prop := ∃ A c, e = .returned (.slice A es.length c) ∧ RowV w' A es.length 6 (ces (fcs es)) ∧ New w w'
theorem chg_in {w w' : World} {A0 A : Option Addr} {n : Nat} {es : List FE} (h : FIn w A0 n es) (k : New w w') (r : RowV w' A es.length 6 (ces (fcs es))) : CIn w' A es.length (fcs es) :=
  ⟨r, fun e he => by
    obtain ⟨x, hx, rfl⟩ := List.mem_map.1 he
    exact (h.new k).2 x hx⟩

set_option maxHeartbeats 3200000 in
theorem pchanges_any (A : Option Addr) (n c : Nat) (es : List FE) (w : World) (h : FIn w A n es) (hn : n * 72 ≤ 140737488355328) :
    Calls Try.prog 24 #[.slice A n c] w (ChgP w es) := by
  have HL : Hid (es.length = n) := h.len
  have H := Lib.hid h
  have hnm : n ≤ 1954687338268 := by omega
  clear h hn
  go_enter Try.func24, Try.ntmps24
  go_wp2_with fail
  go_loopw [3, 8] (fun o i wr => ∃ (k : Nat) (A' : Option Addr) (c' : Nat), k ≤ n ∧ i = .int .i64 k ∧ o = .slice A' k c' ∧ Hid (OwnV wr 78 6 w.heap.size A' k c' (ces (fcs (es.take k)))) ∧ Hid (New w wr)) (fun _ i _ => n - (intOf i).toNat)
  case atStart => exact ⟨0, none, 0, Nat.zero_le _, rfl, rfl, OwnV.nil _ _ _ _, Kept.refl _ _⟩
  case round =>
    obtain ⟨k, A', c', hk, rfl, rfl, VO, VN⟩ := hrel
    by_cases hlt : k < n
    · obtain ⟨g, o, x, eA, hx, okx, x0, x1, x2, x3, x4⟩ := (H.out.new VN.out).at_ (i := k) hlt
      subst eA
      have HX := Lib.hid (fcs_next hx)
      clear hx okx
      obtain ⟨fx, Ax, cx⟩ := x
      obtain ⟨kx, vx⟩ := fx
      dsimp only at *
      generalize vx.length = vn at *
      obtain ⟨w3, hw3⟩ : ∃ w3, w3 = wr.alloc (.cells #[.int .i64 kx.i, .int .u8 (kx.t : Nat), .string kx.n, .int .i64 kx.c, .slice Ax vn cx] 27) := ⟨_, rfl⟩
      have m3 : New wr w3 := by rw [hw3]; exact (Kept.refl _ _).alloc _
      have B3 : Blk w3 wr.heap.size 27 [.int .i64 kx.i, .int .u8 (kx.t : Nat), .string kx.n, .int .i64 kx.c, .slice Ax vn cx] := by rw [hw3]; exact Blk.made wr _ _
      have y0 : w3.cell? ⟨wr.heap.size, 0, none⟩ = some (.int .i64 kx.i) := B3.cell 0
      have y1 : w3.cell? ⟨wr.heap.size, 1, none⟩ = some (.int .u8 (kx.t : Nat)) := B3.cell 1
      have y2 : w3.cell? ⟨wr.heap.size, 2, none⟩ = some (.string kx.n) := B3.cell 2
      have y3 : w3.cell? ⟨wr.heap.size, 3, none⟩ = some (.int .i64 kx.c) := B3.cell 3
      have y4 : w3.cell? ⟨wr.heap.size, 4, none⟩ = some (.slice Ax vn cx) := B3.cell 4
      obtain ⟨w4, hw4⟩ : ∃ w4, w4 = w3.alloc (.cells #[.int .i64 kx.i, .int .u8 (kx.t : Nat), .string kx.n, .int .i64 kx.c, .slice Ax vn cx, .bool false] 78) := ⟨_, rfl⟩
      have m4 : New w3 w4 := by rw [hw4]; exact (Kept.refl _ _).alloc _
      have B4 : Hid (Blk w4 w3.heap.size 78 (chc kx Ax vn cx false)) := by rw [hw4]; exact Blk.made w3 _ _
      have N4 : Hid (New w w4) := (VN.out.new m3).new m4
      have V4 : Hid (OwnV w4 78 6 w.heap.size A' k c' (ces (fcs (es.take k)))) := (VO.out.new m3).new m4
      have HW3 := Lib.hid hw3
      have HW4 := Lib.hid hw4
      clear m3 m4 hw3 hw4 VO VN B3
      go_upto_region 5 with fail
      rw [← HW3.out]
      clear HW3 x0 x1 x2 x3 x4
      go_wp2_with (at_builtin; rw [← HW4.out]; refine wpList_append_change rfl _ _ rfl w.heap.size A' k c' _ rfl V4.out w3.heap.size 1 (chc kx Ax vn cx false) rfl B4.out rfl (chc_one _ _ _ _ _) (by omega) N4.out.size ?_)
      intro A5 c5 w5 O5 K5
      have V5 : Hid (OwnV w5 78 6 w.heap.size A5 (k + 1) c5 (ces (fcs (es.take (k + 1))))) := by rw [Hid, HX.out]; exact O5.out
      have N5 : Hid (New w w5) := new_row N4.out V4.out K5.out
      clear O5 K5 V4 N4 B4 HW4 HX y0 y1 y2 y3 y4
      go_wp2
      go_roundw
      case rel => exact ⟨k + 1, A5, c5, by omega, by go_num, rfl, V5, N5⟩
      case measure => simp [intOf]; omega
    · obtain rfl : k = n := by omega
      have E9 : Hid (ChgP w es (.returned (.slice A' k c')) wr) := by
        have ho := VO.out
        rw [List.take_of_length_le (by rw [HL.out]; omega)] at ho
        exact ⟨A', c', by rw [HL.out], by rw [HL.out]; exact ho.row, VN.out⟩
      clear VO VN
      go_wp2
      go_ret
      exact E9.out

/-- A page as it lies. -/
structure GE where
  l : List Nat
  A : Option Addr
  c : Nat

def ges (es : List GE) : List Value := es.map fun e => .slice e.A e.l.length e.c
def gls (es : List GE) : List (List Nat) := es.map (·.l)
/-- Pages of the call's own, each so that R holds of it. -/
def GOwn (R : World → Nat → Option Addr → Nat → List Nat → Prop) (w : World) (B : Nat) (A : Option Addr) (c : Nat) (es : List GE) : Prop := OwnV w 25 1 B A es.length c (ges es) ∧ ∀ e ∈ es, R w B e.A e.c e.l
structure PR (R : World → Nat → Option Addr → Nat → List Nat → Prop) : Prop where
  kept : ∀ {S : Nat → Prop} {w w' : World} {B : Nat} {A : Option Addr} {c : Nat} {l : List Nat}, R w B A c l → Kept S w w' → (∀ a, A = some a → ¬ S a.block) → R w' B A c l
  at_ : ∀ {w : World} {B : Nat} {A : Option Addr} {c : Nat} {l : List Nat}, R w B A c l → ∀ a, A = some a → At w a.block 5 ∧ B ≤ a.block
  bts : ∀ {w : World} {B : Nat} {A : Option Addr} {c : Nat} {l : List Nat}, R w B A c l → Bts w A l.length l
  mono : ∀ {w : World} {B B' : Nat} {A : Option Addr} {c : Nat} {l : List Nat}, R w B A c l → B' ≤ B → R w B' A c l
  cap : ∀ {w : World} {B : Nat} {A : Option Addr} {c : Nat} {l : List Nat}, R w B A c l → l.length ≤ c ∧ (c = l.length ∨ c ≤ maxLen)

def ROwn (w : World) (B : Nat) (A : Option Addr) (c : Nat) (l : List Nat) : Prop := OwnB w 5 B A c l

theorem pr_page : PR PgB where
  kept h hk hn := h.kept hk hn
  at_ h a ha := by
    obtain ⟨hb, ⟨rfl, _⟩ | ⟨g, junk, rfl, hB, hblk, _⟩⟩ := h
    · cases ha
    · injection ha with ha; subst ha; exact ⟨hblk.at_, hB⟩
  bts h := h.bts
  mono h hB := ⟨h.1, by
    obtain ⟨hb, h | ⟨g, junk, h1, h2, h3⟩⟩ := h
    · exact .inl h
    · exact .inr ⟨g, junk, h1, Nat.le_trans hB h2, h3⟩⟩
  cap h := ⟨Nat.le_of_eq h.cap.symm, .inl h.cap⟩
theorem pr_own : PR ROwn where
  kept h hk hn := OwnB.kept h hk hn
  at_ h := OwnB.at_ h
  bts h := OwnB.bts h
  mono h hB := OwnB.mono h hB
  cap h := ⟨(OwnB.le h).1, .inr (OwnB.le h).2⟩

section
variable {R : World → Nat → Option Addr → Nat → List Nat → Prop} {w w' : World} {B c c2 k : Nat} {A A2 : Option Addr} {es : List GE} {x : GE}
theorem GOwn.nil (R : World → Nat → Option Addr → Nat → List Nat → Prop) (w : World) (B : Nat) : GOwn R w B none 0 [] := ⟨OwnV.nil _ _ _ _, by simp⟩
theorem GOwn.new (P : PR R) (h : GOwn R w B A c es) (hk : New w w') : GOwn R w' B A c es := ⟨h.1.new hk, fun e he => P.kept (h.2 e he) hk fun _ _ f => f⟩
theorem GOwn.more (P : PR R) (h : GOwn R w B A c es) (hx : R w B x.A x.c x.l) (hk : es.length = k) (k7 : Kept (InRow A) w w')
    (o7 : OwnV w' 25 1 B A2 (k + 1) c2 (ges es ++ [.slice x.A x.l.length x.c])) : GOwn R w' B A2 c2 (es ++ [x]) := by
  have hK : ∀ (e : GE), R w B e.A e.c e.l → R w' B e.A e.c e.l := fun e he => P.kept he k7
    (fun a ha ⟨b, hb, e2⟩ => (P.at_ he a ha).1.ne_of (e2 ▸ (h.1.at_ b hb).1) (by decide) rfl)
  refine ⟨?_, fun e he => ?_⟩
  · have : ges (es ++ [x]) = ges es ++ [.slice x.A x.l.length x.c] := by unfold ges; rw [List.map_append]; rfl
    rw [List.length_append, this, hk]
    exact o7
  · rcases List.mem_append.1 he with he | he
    · exact hK e (h.2 e he)
    · rw [List.mem_singleton.1 he]; exact hK x hx
/-- What stands at a place. -/
theorem GOwn.get {i : Nat} (h : GOwn R w B A c es) (hi : i < es.length) : ∃ g x, A = some ⟨g, 0, none⟩ ∧ es[i]? = some x ∧ R w B x.A x.c x.l ∧ w.cell? ⟨g, i, none⟩ = some (.slice x.A x.l.length x.c) := by
  obtain ⟨_, _, _, ho⟩ := h.1
  rcases ho with ⟨_, rfl⟩ | ⟨g, sp, rfl, _, hb, _⟩
  · have := h.1.2.1; omega
  · refine ⟨g, es[i], rfl, List.getElem?_eq_getElem hi, h.2 _ (List.getElem_mem hi), ?_⟩
    rw [hb.cell, List.getElem?_append_left (by unfold ges; rw [List.length_map]; exact hi)]
    unfold ges
    rw [List.getElem?_map, List.getElem?_eq_getElem hi]
    rfl
end

/-- Two pages lie in two blocks. -/
def Dif (e f : GE) : Prop := ∀ a b, e.A = some a → f.A = some b → a.block ≠ b.block
theorem dif_more {R : World → Nat → Option Addr → Nat → List Nat → Prop} {w w' : World} {B c : Nat} {A : Option Addr} {es : List GE} {l : List Nat} {X : Option Addr} {d : Nat} (P : PR R) (h : es.Pairwise Dif) (hg : GOwn R w B A c es) (hx : R w' w.heap.size X d l) : (es ++ [(⟨l, X, d⟩ : GE)]).Pairwise Dif := by
  refine List.pairwise_append.2 ⟨h, List.pairwise_singleton _ _, fun e he f hf a b ha hb => ?_⟩
  rw [List.mem_singleton.1 hf] at hb
  have h1 := (P.at_ (hg.2 e he) a ha).1.lt
  have h2 := (P.at_ hx b hb).2
  omega
/-- Pages and an error come back. -/
def PgsP (R : World → Nat → Option Addr → Nat → List Nat → Prop) (w : World) (z : Int) (l : List FT) (e : Ending) (w' : World) : Prop :=
  ∃ A c es, e = .returned (.tuple #[.slice A es.length c, .int .i64 (paE z l)]) ∧ gls es = pgL z l ∧ GOwn R w' w.heap.size A c es ∧ es.Pairwise Dif ∧ New w w'
theorem pgs_no {R : World → Nat → Option Addr → Nat → List Nat → Prop} {w u : World} {z E : Int} {l : List FT} (he : paE z l = E) (h0 : E ≠ 0) (k : New w u) : PgsP R w z l (.returned (.tuple #[.slice none 0 0, .int .i64 E])) u :=
  ⟨none, 0, [], by rw [he]; rfl, by unfold pgL; rw [paP_none (by rw [he]; exact h0)]; rfl, GOwn.nil _ _ _, List.Pairwise.nil, k⟩

/-- A row of integers: what stands at a place. -/
theorem IOwn.get {w : World} {B c i v : Nat} {A : Option Addr} {l : List Nat} (h : IOwn w B A c l) (hv : l[i]? = some v) : ∃ g, A = some ⟨g, 0, none⟩ ∧ w.cell? ⟨g, i, none⟩ = some (.int .i64 (v : Nat)) := by
  have hi : i < l.length := (List.getElem?_eq_some_iff.1 hv).1
  obtain ⟨_, hc, _, ho⟩ := h
  rcases ho with ⟨_, rfl⟩ | ⟨g, sp, rfl, _, hb, _⟩
  · omega
  · refine ⟨g, rfl, ?_⟩
    rw [hb.cell, List.getElem?_append_left (by rw [List.length_map]; exact hi), List.getElem?_map, hv]
    rfl

/-- Facts between two places. -/
theorem FIn.mid {w : World} {A : Option Addr} {n f m : Nat} {es : List FE} (h : FIn w A n es) (hm : 0 < m) (hf : f + m ≤ n) : FIn w (A.map (·.add (f * 5))) m ((es.drop f).take m) := by
  have h1 := h.cut (k := f) (c := n) (by omega) (Nat.le_refl _)
  rw [if_neg (by omega)] at h1
  exact h1.take (by omega)
theorem fts_mid (es : List FE) (f m : Nat) : fts ((es.drop f).take m) = ((fts es).drop f).take m := by unfold fts; rw [List.map_take, List.map_drop]

set_option maxHeartbeats 6400000 in
theorem pPages_any (z : Int) (A : Option Addr) (n c : Nat) (es : List FE) (w : World) (h : FIn w A n es) (hn : n * 64 ≤ 140737488355328) (hc : n ≤ c) :
    Calls Try.prog 8 #[.int .i64 z, .slice A n c] w (PgsP PgB w z (fts es)) := by
  have HL : Hid ((fts es).length = n) := by show _ = _; unfold fts; rw [List.length_map, h.len]
  have H := Lib.hid h
  have hnm : n ≤ 2199023255552 := by omega
  have CP := Lib.hid (pplaces_any z A n c es w h hn)
  have HPL : Hid ((paP z (fts es)).length ≤ n) := by have := paP_len (z := z) (l := fts es); rwa [HL.out] at this
  clear h hn
  go_enter Try.func8, Try.ntmps8
  go_wp2_with fail
  refine CP.out.mono ?_
  rintro e w1 ⟨A1, c1, rfl, i1, k1⟩
  have I1 := Lib.hid i1
  have K1 := Lib.hid k1
  clear i1 k1 CP
  have HM : Hid ((eds 0 (paP z (fts es))).length = (paP z (fts es)).length) := eds_len _ _
  rw [HM.out]
  by_cases he : paE z (fts es) = 0
  · have HE := Lib.hid he
    have hm2 := HPL.out
    rw [he]
    clear he
    generalize hm : (paP z (fts es)).length = m at *
    have HMM := Lib.hid hm
    clear hm
    go_wp2_with fail
    go_loopw [8, 9, 25] (fun o f i wr => ∃ (j : Nat) (A' : Option Addr) (c' : Nat) (gs : List GE), j ≤ m ∧ i = .int .i64 j ∧ o = .slice A' j c' ∧ f = .int .i64 (((paP z (fts es)).take j).flatten.length : Nat) ∧ Hid (gs.length = j) ∧ Hid (gls gs = (pgL z (fts es)).take j) ∧ Hid (GOwn PgB wr w1.heap.size A' c' gs) ∧ Hid (gs.Pairwise Dif) ∧ Hid (New w1 wr)) (fun _ _ i _ => m - (intOf i).toNat)
    case atStart => exact ⟨0, none, 0, [], Nat.zero_le _, rfl, rfl, rfl, rfl, rfl, GOwn.nil _ _ _, List.Pairwise.nil, Kept.refl _ _⟩
    case round =>
      obtain ⟨j, A', c', gs, hj, rfl, rfl, rfl, HGL, HGS, VO, HD, VN⟩ := hrel
      by_cases hlt : j < m
      · obtain ⟨p, hp⟩ : ∃ p, (paP z (fts es))[j]? = some p := ⟨_, List.getElem?_eq_getElem (by rw [HMM.out]; exact hlt)⟩
        obtain ⟨p0, pm, ps⟩ := paP_part HE.out (List.mem_of_getElem? hp)
        obtain ⟨N, hz, hN1, hN2, ht, hpl, _, hpu, hpe, _⟩ := part_page (paE_ok HE.out).1 p0 pm ps
        obtain ⟨f1, f2, f3⟩ := flat_at hp
        rw [paP_flat HE.out, HL.out] at f3
        rw [paP_flat HE.out] at f1
        have hed := eds_at 0 _ _ _ hp
        rw [Nat.zero_add] at hed
        obtain ⟨g1, rfl, x0⟩ := (I1.out.new VN.out).get hed
        have hp1 : 0 < p.length := by cases p with | nil => exact absurd rfl p0 | cons a b => simp
        have HF := Lib.hid (((H.out.new K1.out).new VN.out).mid hp1 f3)
        have HFT : Hid (fts ((es.drop ((paP z (fts es)).take j).flatten.length).take p.length) = p) := by rw [Hid, fts_mid]; exact f1
        have HPG := Lib.hid (pgL_at hp)
        have HF2 : Hid (((paP z (fts es)).take (j + 1)).flatten.length = ((paP z (fts es)).take j).flatten.length + p.length) := by rw [Hid, f2, List.length_append]
        have HLN := Lib.hid HF.out.len
        clear p0 pm ps hz ht hp f1 f2 hed hN1 hN2 hpu
        generalize hfr : ((paP z (fts es)).take j).flatten.length = fr at *
        generalize hfr2 : ((paP z (fts es)).take (j + 1)).flatten.length = fr2 at *
        clear hfr
        have HFR2 := Lib.hid hfr2
        clear hfr2
        generalize hsub : (es.drop fr).take p.length = sub at *
        clear hsub
        generalize hpn : p.length = pn at *
        clear hpn
        have s1 : (0 : Int) ≤ (j : Int) := by omega
        have s3 : (j : Int) < (m : Int) := by omega
        have s4 : (0 : Int) ≤ (fr : Int) := by omega
        have s5 : (fr : Int) ≤ (fr : Int) + (pn : Int) := by omega
        have s6 : (fr : Int) + (pn : Int) ≤ (c : Int) := by omega
        have CC := Lib.hid (fun (cc : Nat) => pchanges_any (A.map (·.add (fr * 5))) pn cc sub wr HF.out (by omega))
        go_wp2_with fail
        refine (CC.out _).mono ?_
        rintro e w2 ⟨A2, c2, rfl, r2, k2⟩
        rw [HLN.out] at r2 ⊢
        have N2 := Lib.hid (VN.out.new k2)
        have V2 := Lib.hid (VO.out.new pr_page k2)
        have CI : Hid (CIn w2 A2 pn (fcs sub)) := by have := chg_in HF.out k2 (by rw [HLN.out]; exact r2); rwa [HLN.out] at this
        have CPU := Lib.hid (recPut_any z A2 pn c2 (fcs sub) w2 CI.out (by unfold maxLen; omega))
        have HCT : Hid (cts (fcs sub) = p.map toC) := by rw [Hid, fcs_cts, HFT.out]
        rw [HCT.out, hpe] at CPU
        clear r2 k2 CC VN VO CI HCT HF HFT hpe x0
        go_wp2_with fail
        refine CPU.out.mono ?_
        rintro e w3 ⟨A3, c3, rfl, p3, k3⟩
        have P3 : Hid (PgB w3 w1.heap.size A3 c3 (puL z (p.map toC))) := pr_page.mono p3 N2.out.size
        have N3 := Lib.hid (N2.out.new k3)
        have V3 := Lib.hid (V2.out.new pr_page k3)
        have D5 := Lib.hid (dif_more pr_page HD.out V2.out p3)
        clear p3 k3 CPU N2 V2 HD
        generalize puL z (p.map toC) = pg at *
        obtain ⟨w4, hw4⟩ : ∃ w4, w4 = w3.alloc (.cells #[.slice A3 pg.length c3] 25) := ⟨_, rfl⟩
        have m4 : New w3 w4 := by rw [hw4]; exact (Kept.refl _ _).alloc _
        have B4 : Hid (Blk w4 w3.heap.size 25 [.slice A3 pg.length c3]) := by rw [hw4]; exact Blk.made w3 _ _
        have P4 : Hid (PgB w4 w1.heap.size A3 c3 pg) := P3.out.new m4
        have N4 := Lib.hid (N3.out.new m4)
        have V4 := Lib.hid (V3.out.new pr_page m4)
        have W4 : Hid (OwnV w4 25 1 w1.heap.size A' j c' (ges gs)) := by have := V4.out.1; rwa [HGL.out] at this
        have HW4 := Lib.hid hw4
        clear m4 hw4 N3 V3 P3
        go_wp2_with (at_builtin; rw [← HW4.out]; refine wpList_append_bytes2 rfl _ _ rfl w1.heap.size A' j c' _ rfl W4.out w3.heap.size 1 (.slice A3 pg.length c3) rfl rfl B4.out (by omega) N4.out.size ?_)
        intro A5 c5 w5 O5 K5
        have V5 : Hid (GOwn PgB w5 w1.heap.size A5 c5 (gs ++ [⟨pg, A3, c3⟩])) := GOwn.more pr_page V4.out P4.out HGL.out K5.out O5.out
        have N5 : Hid (New w1 w5) := new_row N4.out W4.out K5.out
        have HGL5 : Hid ((gs ++ [(⟨pg, A3, c3⟩ : GE)]).length = j + 1) := by rw [Hid, List.length_append, HGL.out]; rfl
        have HGS5 : Hid (gls (gs ++ [(⟨pg, A3, c3⟩ : GE)]) = (pgL z (fts es)).take (j + 1)) := by
          rw [Hid, List.take_add_one, HPG.out, ← HGS.out]
          unfold gls
          rw [List.map_append]
          rfl
        clear O5 K5 V4 P4 W4 B4 HW4 N4 HGL HGS HPG
        go_wp2
        go_roundw
        case rel => exact ⟨j + 1, A5, c5, _, by omega, by go_num, rfl, by rw [HFR2.out, HF2.out]; go_num, HGL5, HGS5, V5, D5, N5⟩
        case measure => simp [intOf]; omega
      · obtain rfl : j = m := by omega
        have E9 : Hid (PgsP PgB w z (fts es) (.returned (.tuple #[.slice A' j c', .int .i64 0])) wr) := by
          have hg := HGS.out
          rw [List.take_of_length_le (by rw [pgL_len, HMM.out]; exact Nat.le_refl _)] at hg
          exact ⟨A', c', gs, by rw [HE.out, HGL.out], hg, ⟨VO.out.1.mono K1.out.size, fun e he => pr_page.mono (VO.out.2 e he) K1.out.size⟩, HD.out, K1.out.new VN.out⟩
        clear VO VN HGL HGS HD
        go_wp2
        go_ret2
        exact E9.out
  · have E := Lib.hid (pgs_no (R := PgB) (w := w) (u := w1) rfl he K1.out)
    have d0 : (paE z (fts es) == 0) = false := beq_eq_false_iff_ne.2 he
    clear he
    generalize paE z (fts es) = pe at *
    generalize (paP z (fts es)).length = m at *
    clear I1 K1 HM
    go_wp2
    go_ret2
    exact E.out

/-- How many, and an error, come back. -/
def ManyP (w : World) (z : Int) (l : List FT) (e : Ending) (w' : World) : Prop := e = .returned (.tuple #[.int .i64 ((paP z l).length : Nat), .int .i64 (paE z l)]) ∧ New w w'

theorem pMany_any (z : Int) (A : Option Addr) (n c : Nat) (es : List FE) (w : World) (h : FIn w A n es) (hn : n * 64 ≤ 140737488355328) :
    Calls Try.prog 10 #[.int .i64 z, .slice A n c] w (ManyP w z (fts es)) := by
  have CP := Lib.hid (pplaces_any z A n c es w h hn)
  clear h hn
  go_enter Try.func10, Try.ntmps10
  go_wp2_with fail
  refine CP.out.mono ?_
  rintro e w1 ⟨A1, c1, rfl, _, k1⟩
  have E : Hid (ManyP w z (fts es) (.returned (.tuple #[.int .i64 ((paP z (fts es)).length : Nat), .int .i64 (paE z (fts es))])) w1) := ⟨rfl, k1⟩
  clear k1 CP
  rw [eds_len]
  generalize paE z (fts es) = pe at *
  generalize (paP z (fts es)).length = m at *
  go_wp2
  go_ret2
  exact E.out
end Go.Proofs.Ytbiihjdjbknibaa
