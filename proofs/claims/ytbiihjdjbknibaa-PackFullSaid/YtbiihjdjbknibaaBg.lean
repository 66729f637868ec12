/-
  The law's example; pages that are read.
-/
import Derived.Test.YtbiihjdjbknibaaBf
import Derived.Test.YtbiihjdjbknibaaJn
import Derived.Handy
namespace Go.Proofs.Ytbiihjdjbknibaa
set_option maxRecDepth 100000
open Go.ChangeShapes Go.WideShapes Go.ChangeAt Go.RowKit

/-- The example's fact. -/
def wkF : FT := ⟨⟨1, 1, ⟨#[]⟩, 0⟩, [2, 1, 0, 0]⟩
theorem wk_pack : paE 128 [wkF] = 0 ∧ (paP 128 [wkF]).length = 1 ∧ costF wkF = 9 := by decide +kernel
theorem wk_none : paE 128 [] = 0 ∧ pgL 128 [] = [] := by decide +kernel

def OneF (w : World) (e : Ending) (w' : World) : Prop := ∃ g, e = .returned (.agg #[.int .i64 1, .int .u8 1, .string ⟨#[]⟩, .int .i64 0, .slice (some ⟨g, 0, none⟩) 4 4]) ∧ Bts w' (some ⟨g, 0, none⟩) 4 [2, 1, 0, 0] ∧ New w w'

theorem oneF_any (w : World) : Calls Try.prog 30 #[.int .i64 1] w (OneF w) := by
  go_enter Try.func30, Try.ntmps30
  go_wp2_with fail
  go_returns
  refine ⟨w.heap.size + 1, rfl, ?_, ((Kept.refl _ _).alloc _).alloc _⟩
  have h := Bts.lit (w.alloc (.cells #[.int .i64 1, .int .u8 1, .string ⟨#[]⟩, .int .i64 0, .slice (some ⟨w.heap.size + 1, 0, none⟩) 4 4] 27)) 5 (0, 0) [2, 1, 0, 0] (by decide) 4 rfl
  rw [show ∀ o : Obj, (w.alloc o).heap.size = w.heap.size + 1 from fun o => by simp] at h
  exact h

set_option maxHeartbeats 1600000 in
theorem works13_any (w : World) : Calls Try.prog 15 #[] w (True1 w) := by
  have HP := Lib.hid wk_pack
  have HQ := Lib.hid wk_none
  have hv : wkF.k.n.size ≤ maxLen := by simp [wkF, ByteArray.size, maxLen]
  have CC : Hid (∀ (u : World) (g : Nat), Calls Try.prog 12 #[.agg #[.int .i64 1, .int .u8 1, .string ⟨#[]⟩, .int .i64 0, .slice (some ⟨g, 0, none⟩) 4 4]] u (NewNum u 9)) := fun u g => by
    have := pcost_any wkF (some ⟨g, 0, none⟩) 4 u hv (by simp [wkF])
    rw [wk_pack.2.2] at this
    exact this
  have CM : Hid (∀ (u : World) (g g' : Nat), Blk u g' 27 [.int .i64 1, .int .u8 1, .string ⟨#[]⟩, .int .i64 0, .slice (some ⟨g, 0, none⟩) 4 4] → Bts u (some ⟨g, 0, none⟩) 4 [2, 1, 0, 0] → Calls Try.prog 10 #[.int .i64 128, .slice (some ⟨g', 0, none⟩) 1 1] u (fun e w' => e = .returned (.tuple #[.int .i64 1, .int .i64 0]) ∧ New u w')) := fun u g g' hb ht => by
    have h := pMany_any 128 (some ⟨g', 0, none⟩) 1 1 [⟨wkF, some ⟨g, 0, none⟩, 4⟩] u ⟨⟨rfl, fun _ => ⟨g', 0, rfl, fun j v hj => by rw [Nat.zero_add, hb.cell]; exact hj⟩⟩, fun e he => by
      rw [List.mem_singleton.1 he]
      exact ⟨ht, (fun h => by cases h), by simp [wkF], hv⟩⟩ (by omega)
    refine h.mono ?_
    rintro e w' ⟨rfl, hk⟩
    refine ⟨?_, hk⟩
    show Ending.returned (.tuple #[.int .i64 ((paP 128 [wkF]).length : Nat), .int .i64 (paE 128 [wkF])]) = _
    rw [wk_pack.1, wk_pack.2.1]
    rfl
  have CP : Hid (∀ u : World, Calls Try.prog 8 #[.int .i64 128, .slice none 0 0] u (fun e w' => (∃ A c, e = .returned (.tuple #[.slice A 0 c, .int .i64 0])) ∧ New u w')) := fun u => by
    refine (pPages_any 128 none 0 0 [] u (FIn.nil _ _) (by omega) (Nat.le_refl _)).mono ?_
    rintro e w' ⟨A, c, gs, rfl, h1, _, _, hk⟩
    have h2 : gs = [] := by
      have h3 : gls gs = [] := h1.trans wk_none.2
      unfold gls at h3
      exact List.map_eq_nil_iff.1 h3
    refine ⟨⟨A, c, ?_⟩, hk⟩
    rw [h2]
    show Ending.returned (.tuple #[.slice A 0 c, .int .i64 (paE 128 [])]) = _
    rw [wk_none.1]
  clear HP HQ hv
  go_enter Try.func15, Try.ntmps15
  go_wp2_with fail
  refine (oneF_any _).mono ?_
  rintro e w1 ⟨g1, rfl, b1, k1⟩
  obtain ⟨w2, hw2⟩ : ∃ w2, w2 = w1.alloc (.cells #[.int .i64 1, .int .u8 1, .string ⟨#[]⟩, .int .i64 0, .slice (some ⟨g1, 0, none⟩) 4 4] 27) := ⟨_, rfl⟩
  have m2 : New w1 w2 := by rw [hw2]; exact (Kept.refl _ _).alloc _
  have B2 : Blk w2 w1.heap.size 27 [.int .i64 1, .int .u8 1, .string ⟨#[]⟩, .int .i64 0, .slice (some ⟨g1, 0, none⟩) 4 4] := by rw [hw2]; exact Blk.made w1 _ _
  have C2 := Lib.hid (CM.out w2 g1 w1.heap.size B2 (b1.new m2))
  have K2 := Lib.hid (k1.new m2)
  have HW2 := Lib.hid hw2
  clear b1 k1 m2 B2 hw2 CM
  go_wp2_with fail
  rw [← HW2.out]
  refine C2.out.mono ?_
  rintro e w3 ⟨rfl, k3⟩
  have K3 := Lib.hid (K2.out.new k3)
  clear k3 C2 K2 HW2
  go_wp2_with fail
  refine (CP.out _).mono ?_
  rintro e w4 ⟨⟨A4, c4, rfl⟩, k4⟩
  have K4 := Lib.hid (K3.out.new k4)
  clear k4 CP K3
  go_wp2_with fail
  refine (oneF_any _).mono ?_
  rintro e w5 ⟨g5, rfl, _, k5⟩
  have K5 := Lib.hid (K4.out.new k5)
  clear k5 K4
  go_wp2_with fail
  refine (CC.out _ _).mono ?_
  rintro e w6 ⟨rfl, k6⟩
  have K6 := Lib.hid (K5.out.new k6)
  clear k6 K5 CC
  go_wp2
  go_ret
  exact ⟨rfl, K6.out⟩

theorem works13_k {w0 wc : World} (K : Hid (New w0 wc)) : Calls Try.prog 15 #[] wc fun e w' => e = .returned (.bool true) ∧ New w0 w' := by
  refine (works13_any wc).mono ?_
  rintro e w' ⟨rfl, hk⟩
  exact ⟨rfl, K.out.new hk⟩

/-- Pages that are read. -/
def PgIn (w : World) (A : Option Addr) (ls : List (List Nat)) : Prop := ∀ u, New w u → ∀ i l, ls[i]? = some l → ∃ g X c, A = some ⟨g, 0, none⟩ ∧ u.cell? ⟨g, i, none⟩ = some (.slice X l.length c) ∧ Bts u X l.length l ∧ l.length ≤ c ∧ (c = l.length ∨ c ≤ maxLen)
theorem PgIn.new {w w' : World} {A : Option Addr} {ls : List (List Nat)} (h : PgIn w A ls) (hk : New w w') : PgIn w' A ls := fun u hu => h u (hk.new hu)
theorem GOwn.in_ {R : World → Nat → Option Addr → Nat → List Nat → Prop} (P : PR R) {w : World} {B c : Nat} {A : Option Addr} {es : List GE} {ls : List (List Nat)} (h : GOwn R w B A c es) (hl : gls es = ls) : PgIn w A ls := by
  intro u hu i l hi
  subst hl
  have hlt : i < es.length := by have := (List.getElem?_eq_some_iff.1 hi).1; unfold gls at this; rwa [List.length_map] at this
  obtain ⟨g, x, rfl, hx, hr, hc⟩ := (h.new P hu).get hlt
  have : l = x.l := by
    unfold gls at hi
    rw [List.getElem?_map, hx] at hi
    injection hi with hi
    exact hi.symm
  subst this
  exact ⟨g, x.A, x.c, rfl, hc, P.bts hr, P.cap hr⟩

theorem puL_le (n : Int) (l : List CT) : (puL n l).length ≤ 256 := by
  unfold puL sPutL
  split
  · split
    · rename_i h
      have h1 := h.1
      unfold isPg at h1
      rw [page_length _ _ _ (by omega)]
      omega
    · simp
  · simp
theorem pgL_le {z : Int} {l : List FT} {p : List Nat} (h : p ∈ pgL z l) : p.length ≤ 256 := by
  obtain ⟨q, _, rfl⟩ := List.mem_map.1 h
  exact puL_le _ _

/-- Cost in a region that draws. -/
theorem pcost_new (f : FT) (A : Option Addr) (c r : Nat) (h : costF f = r) (hn : f.k.n.size ≤ maxLen) (hv : f.v.length ≤ 140737488351232) (u : World) :
    Calls Try.prog 12 #[.agg #[.int .i64 f.k.i, .int .u8 (f.k.t : Nat), .string f.k.n, .int .i64 f.k.c, .slice A f.v.length c]] u fun e w' => e = .returned (.int .i64 (r : Nat)) ∧ Below u.heap.size u w' :=
  (pcost_any f A c u hn hv).mono fun e w' hh => ⟨by rw [hh.1, h], hh.2.below⟩

theorem rcost_new (f : FT) (A : Option Addr) (c r : Nat) (h : costF f = r) (hn : f.k.n.size ≤ maxLen) (hv : f.v.length ≤ 140737488351232) (u : World) :
    Calls Try.prog 13 #[.agg #[.int .i64 f.k.i, .int .u8 (f.k.t : Nat), .string f.k.n, .int .i64 f.k.c, .slice A f.v.length c]] u fun e w' => e = .returned (.int .i64 (r : Nat)) ∧ Below u.heap.size u w' :=
  (rcost_any f A c u hn hv).mono fun e w' hh => ⟨by rw [hh.1, h], hh.2.below⟩

section
variable {H : Type} {enc : TypeId × Value → H} {W : World}
theorem Arg.fact_ {base : Nat} {v : Value} {d : DataW H} {p : List MemPlace} (h : Arg enc Try.prog W base 27 v d p) : ∃ e : FE, v = .agg #[.int .i64 e.f.k.i, .int .u8 (e.f.k.t : Nat), .string e.f.k.n, .int .i64 e.f.k.c, .slice e.A e.f.v.length e.c] ∧ EOk W e ∧ KyIn e.f.k := by
  obtain ⟨cs, rfl, hr⟩ := h.rds Try.underlying27
  obtain ⟨e, he, ho, hk⟩ := hr.fact_
  exact ⟨e, congrArg Value.agg (Array.toList_inj.1 he), ho, hk⟩
end
end Go.Proofs.Ytbiihjdjbknibaa
