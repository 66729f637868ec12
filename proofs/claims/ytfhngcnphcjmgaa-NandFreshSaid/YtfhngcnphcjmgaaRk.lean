/-
  The contract of the reference's Strike.
-/
import Derived.Test.YtfhngcnphcjmgaaRj
import Derived.Test.YtfhngcnphcjmgaaNp
namespace Go.Proofs.Ytfhngcnphcjmgaa
open Go.ChangeShapes Go.WideShapes Go.ChangeAt Go.RowKit

/-- The first k hits in the cells of a row, their masks in blocks from lo on. -/
def RHits (lo : Nat) (w : World) (hs : List HitI) (k : Nat) (vs : List Value) : Prop := ∀ (i : Nat) (x : HitI), i < k → hs[i]? = some x →
  vs[3 * i]? = some (.int .i64 x.after) ∧ vs[3 * i + 1]? = some (.bool x.fails) ∧ ∃ A c, vs[3 * i + 2]? = some (.slice A x.mask.length c) ∧ (A = none → c = 0 ∧ x.mask.length = 0) ∧ x.mask.length ≤ c ∧ c ≤ maxLen ∧
    Bts w A x.mask.length x.mask ∧ ∀ a, A = some a → lo ≤ a.block ∧ At w a.block 5

theorem RHits.kept {S : Nat → Prop} {lo : Nat} {w w' : World} {hs : List HitI} {k : Nat} {vs : List Value} (h : RHits lo w hs k vs) (hk : Kept S w w') (hn : ∀ b, lo ≤ b → At w b 5 → ¬ S b) : RHits lo w' hs k vs := by
  intro i x hi hx
  obtain ⟨c1, c2, A, c, c3, c4, c5, c6, c7, c8⟩ := h i x hi hx
  exact ⟨c1, c2, A, c, c3, c4, c5, c6, c7.kept hk fun a ha => hn _ (c8 a ha).1 (c8 a ha).2, fun a ha => ⟨(c8 a ha).1, (c8 a ha).2.kept hk (hn _ (c8 a ha).1 (c8 a ha).2)⟩⟩
theorem RHits.new {lo : Nat} {w w' : World} {hs : List HitI} {k : Nat} {vs : List Value} (h : RHits lo w hs k vs) (hk : New w w') : RHits lo w' hs k vs := h.kept hk fun _ _ _ f => f

/-- One hit more. -/
theorem RHits.step {lo : Nat} {w : World} {hs : List HitI} {k : Nat} {vs : List Value} {x : HitI} {A : Option Addr} {c : Nat} (h : RHits lo w hs k vs) (hl : vs.length = k * 3) (hx : hs[k]? = some x) (ho : OwnB w 5 lo A c x.mask) :
    RHits lo w hs (k + 1) (vs ++ [.int .i64 x.after, .bool x.fails, .slice A x.mask.length c]) := by
  intro i y hi hy
  rcases Nat.lt_or_ge i k with hlt | hge
  · obtain ⟨c1, c2, A', c', c3, c4⟩ := h i y hlt hy
    refine ⟨?_, ?_, A', c', ?_, c4⟩
    · rw [List.getElem?_append_left (by omega)]; exact c1
    · rw [List.getElem?_append_left (by omega)]; exact c2
    · rw [List.getElem?_append_left (by omega)]; exact c3
  · obtain rfl : i = k := by omega
    obtain rfl : x = y := by rw [hx] at hy; injection hy
    refine ⟨?_, ?_, A, c, ?_, fun hA => ?_, ho.le.1, ho.le.2, ho.bts, fun a ha => ⟨(ho.at_ a ha).2, (ho.at_ a ha).1⟩⟩
    · rw [List.getElem?_append_right (by omega), show 3 * i - vs.length = 0 by omega]; rfl
    · rw [List.getElem?_append_right (by omega), show 3 * i + 1 - vs.length = 1 by omega]; rfl
    · rw [List.getElem?_append_right (by omega), show 3 * i + 2 - vs.length = 2 by omega]; rfl
    · rcases ho.2 with ⟨_, h5, h6⟩ | ⟨g, sp, h5, _⟩
      · exact ⟨h5, by rw [h6]; rfl⟩
      · rw [hA] at h5; cases h5

/-- Behind the last one it is a list of hits that a chip may have. -/
theorem RHits.done {lo n c : Nat} {w : World} {hs : List HitI} {vs : List Value} {A : Option Addr} {Q : Nat → Prop} {gc : Nat} (h : RHits lo w hs n vs) (hn : hs.length = n) (ho : OwnV w 52 3 lo A n c vs) (hq : ∀ b, lo ≤ b → b < w.heap.size → Q b) (hgc : gc < lo) (h0 : ∀ x ∈ hs, 0 ≤ x.after) :
    HitsT Q w gc A (hs.map HitI.hit) := by
  intro hp
  rw [List.length_map, hn] at hp
  have hl := ho.1
  obtain ⟨go, junk, rfl, h1, h2, _⟩ := ho.blk hp
  refine ⟨go, 0, rfl, hq go h1 h2.lt, h2.at_, fun i y hy => ?_⟩
  rw [List.getElem?_map] at hy
  obtain ⟨x, hx, rfl⟩ := Option.map_eq_some_iff.1 hy
  have hi : i < n := by rw [← hn]; exact (List.getElem?_eq_some_iff.1 hx).1
  obtain ⟨c1, c2, Am, cm, c3, c4, c5, c6, c7, c8⟩ := h i x hi hx
  have hp := h0 x (List.mem_of_getElem? hx)
  rw [Nat.zero_add, h2.cell, h2.cell, h2.cell, List.getElem?_append_left (by omega), List.getElem?_append_left (by omega), List.getElem?_append_left (by omega)]
  refine ⟨?_, c2, Am, cm, c3, c7, c5, c6, fun a ha => ⟨hq _ (c8 a ha).1 (c8 a ha).2.lt, by have := (c8 a ha).1; omega, (c8 a ha).2⟩⟩
  rw [c1]
  show some (Value.int .i64 x.after) = some (.int .i64 ((x.after.toNat : Nat) : Int))
  rw [Int.toNat_of_nonneg hp]

set_option maxRecDepth 100000 in
set_option maxHeartbeats 1600000 in
theorem rStrike_no (Q : Nat → Prop) (g : Nat) (s : CSt) (A : Option Addr) (n c : Nat) (hs : List HitI) (vs : List Value) (w : World) (h : RChip Q w g s) (hn : hs.length = n) (hr : RowV w A n 3 vs) (hv : ∀ (i : Nat) (x : HitI), hs[i]? = some x → HitCell w vs i x) (hnn : n ≤ 140737488351232) (hneg : ¬ ∀ x ∈ hs, 0 ≤ x.after) :
    Calls Try.prog 25 #[.pointer (some ⟨g, 0, none⟩), .slice A n c] w (RDeedP Q w g s 2) := by
  have h0 : 0 < n := by
    rcases Nat.eq_zero_or_pos n with e | e
    · subst e; exfalso; obtain rfl := List.eq_nil_of_length_eq_zero hn; exact hneg (by simp)
    · exact e
  obtain ⟨go, oo, rfl, hcell⟩ := hr.2 h0
  have H := Lib.hid h
  have HN := Lib.hid hn
  have HV := Lib.hid hv
  have HC := Lib.hid hcell
  have HG := Lib.hid hneg
  clear h hn hr hv hcell hneg
  go_enter Try.func25, Try.ntmps25
  go_wp2
  go_loopw [5] (fun i wr => ∃ k : Nat, k ≤ n ∧ i = .int .i64 k ∧ Hid (New w wr) ∧ Hid (∀ j x, j < k → hs[j]? = some x → 0 ≤ x.after)) (fun i _ => n - (intOf i).toNat)
  case atStart => exact ⟨0, Nat.zero_le _, rfl, Kept.refl _ _, fun j x hj => absurd hj (by omega)⟩
  case round =>
    obtain ⟨k, hk, rfl, VK, VA⟩ := hrel
    by_cases hlt2 : k < n
    · obtain ⟨x, hx⟩ : ∃ x, hs[k]? = some x := ⟨_, List.getElem?_eq_getElem (by rw [HN.out]; exact hlt2)⟩
      have HX := Lib.hid hx
      obtain ⟨c1, c2, Am, cm, c3, _⟩ := HV.out k x hx
      have d1 : wr.cell? ⟨go, oo + k * 3, none⟩ = some (.int .i64 x.after) := by rw [Nat.mul_comm]; exact VK.out.cell (HC.out _ _ c1) (fun f => f)
      have d2 : wr.cell? ⟨go, oo + k * 3 + 1, none⟩ = some (.bool x.fails) := by rw [Nat.mul_comm]; exact VK.out.cell (HC.out _ _ c2) (fun f => f)
      have d3 : wr.cell? ⟨go, oo + k * 3 + 2, none⟩ = some (.slice Am x.mask.length cm) := by rw [Nat.mul_comm]; exact VK.out.cell (HC.out _ _ c3) (fun f => f)
      clear c1 c2 c3 hx
      by_cases hneg : x.after < 0
      · go_wp2
        go_ret
        exact RDeedP.stay H.out VK.out 2
      · go_wp2
        go_roundw
        case rel =>
          refine ⟨k + 1, by omega, by go_num, VK, fun j y hj hy => ?_⟩
          rcases Nat.lt_or_ge j k with hj2 | hj2
          · exact VA.out j y hj2 hy
          · obtain rfl : j = k := by omega
            have : x = y := by have := HX.out; rw [hy] at this; injection this with this; exact this.symm
            subst this
            omega
        case measure => simp [intOf]; omega
    · obtain rfl : k = n := by omega
      exfalso
      refine HG.out fun y hy => ?_
      obtain ⟨j, hj⟩ := List.getElem?_of_mem hy
      exact VA.out j y (by rw [← HN.out]; exact (List.getElem?_eq_some_iff.1 hj).1) hj

/-- The reference's answer to a list of hits. -/
def RHitsP (Q : Nat → Prop) (w : World) (g : Nat) (s' : CSt) (er : Int) (e : Ending) (w' : World) : Prop :=
  e = .returned (.int .i64 er) ∧ RChip (fun b => Q b ∨ (w.heap.size ≤ b ∧ b < w'.heap.size)) w' g s' ∧ Kept Q w w'

/-- The chip's cells while k hits are laid. -/
def rkCells (s : CSt) (gc cc gb cb : Nat) (Ah : Option Addr) (k ch : Nat) : List Value :=
  [.int .i64 (s.nb : Nat), .int .i64 (s.np : Nat), .int .i64 (s.nz : Nat), .int .i64 (s.ns : Nat), .slice (some ⟨gc, 0, none⟩) s.by_.length cc, .slice (some ⟨gb, 0, none⟩) s.bad.length cb, .slice Ah k ch, .int .i64 0, .bool s.dead, .int .i64 (s.deeds : Nat)]

/-- The block that a row lies in. -/
def InRow (A : Option Addr) (b : Nat) : Prop := ∃ a, A = some a ∧ a.block = b

/-- One hit more behind a row of the call's own, at a step of a region that draws. -/
theorem step_append_hit {w wb : World} {ops : Array Oper} {o : Oper} {a : Act} {K : Act → World → Prop} {Q : Exit → Act → World → Prop} {E : Prop} (hgd : o.guard = none) (s x : Operand)
    (ho : o.op = .call { callee := .builtin .append, args := #[s, x], argTypes := #[31, 31] })
    (lo : Nat) (Ah : Option Addr) (k ch : Nat) (vs : List Value) (hsv : a.eval s = .slice Ah k ch) (hown : OwnV wb 52 3 lo Ah k ch vs) (hk : New wb w)
    (B c' : Nat) (us : List Value) (hx : a.eval x = .slice (some ⟨B, 0, none⟩) 1 c') (hb : Blk w B 52 us) (hul : us.length = 3) (h1 : ∀ u ∈ us, u.oneCell' = true) (hn : k + 1 ≤ 3518437208780) (hbase : lo ≤ wb.heap.size)
    (h : ∀ A2 c2 w', Hid (OwnV w' 52 3 lo A2 (k + 1) c2 (vs ++ us)) → Hid (Kept (InRow Ah) wb w') → K (a.put o.dst (.slice A2 (k + 1) c2)) w') :
    if Region.wanted o (yielded ops a.tmps) = true then Oper.wp Try.prog o a w K Q else E := by
  obtain ⟨i0, hi, hz0, hz1, hz2⟩ := info_parts info_hit
  have hr : RowV w (some ⟨B, 0, none⟩) 1 i0.size us := by
    rw [hz1]
    exact ⟨by rw [hul], fun _ => ⟨B, 0, rfl, fun j v hj => by rw [Nat.zero_add, hb.cell]; exact hj⟩⟩
  have ho' : OwnV w 52 i0.size lo Ah k ch vs := by rw [hz1]; exact hown.new hk
  refine step_append_rowV w hgd s x 31 ho 52 i0 (.agg #[.int .i64 0, .bool false, .slice none 0 0]) Try.underlying31 hi hz0 (by rw [hz1]; rfl) (by rw [hz1]; omega) lo Ah k ch vs hsv ho' (some ⟨B, 0, none⟩) 1 c' us hx hr h1 (by rw [hz2]; omega) (by omega) (Nat.le_trans hbase hk.size) ?_
  intro A2 c2 w' h3 h4 _
  refine h A2 c2 w' (by have := h3.out; rw [hz1] at this; exact this) ?_
  refine (hk.mono (S' := InRow Ah) fun _ _ f => f.elim).grown h4.out fun q _ hA => ?_
  obtain ⟨a, ha, e⟩ := Option.map_eq_some_iff.1 hA
  exact ⟨a, ha, e⟩

/-- What a round of Strike leaves. -/
theorem rk_next {w w5 w7 : World} {g gc gb cc cb j cj c5 c7 : Nat} {Aj A5 A7 : Option Addr} {s : CSt} {hs : List HitI} {x : HitI} {vs2 : List Value} (B5 : Blk w5 g 41 (rkCells s gc cc gb cb Aj j cj)) (V5 : OwnV w5 52 3 w.heap.size Aj j cj vs2)
    (H5 : RHits w.heap.size w5 hs j vs2) (hx : hs[j]? = some x) (O5 : OwnB w5 5 w.heap.size A5 c5 x.mask) (K5 : Kept (· = g) w w5)
    (O7 : OwnV w7 52 3 w.heap.size A7 (j + 1) c7 (vs2 ++ [.int .i64 x.after, .bool x.fails, .slice A5 x.mask.length c5])) (K7 : Kept (InRow Aj) w5 w7) :
    Blk (w7.setCell ⟨g, 6, none⟩ (.slice A7 (j + 1) c7)) g 41 (rkCells s gc cc gb cb A7 (j + 1) c7) ∧
    OwnV (w7.setCell ⟨g, 6, none⟩ (.slice A7 (j + 1) c7)) 52 3 w.heap.size A7 (j + 1) c7 (vs2 ++ [.int .i64 x.after, .bool x.fails, .slice A5 x.mask.length c5]) ∧
    RHits w.heap.size (w7.setCell ⟨g, 6, none⟩ (.slice A7 (j + 1) c7)) hs (j + 1) (vs2 ++ [.int .i64 x.after, .bool x.fails, .slice A5 x.mask.length c5]) ∧
    Kept (· = g) w (w7.setCell ⟨g, 6, none⟩ (.slice A7 (j + 1) c7)) := by
  have hne : ¬ InRow Aj g := fun ⟨a, ha, e⟩ => (V5.at_ a ha).1.ne_of B5.at_ (by decide) e
  have B7 := B5.kept K7 hne
  have ks := Kept.set1 w7 g 6 (.slice A7 (j + 1) c7)
  refine ⟨?_, O7.kept ks fun a ha e => (O7.at_ a ha).1.ne_of B7.at_ (by decide) e, ?_, ?_⟩
  · have := B7.put 6 (.slice A7 (j + 1) c7)
    simpa [rkCells] using this
  · refine ((H5.step V5.1 hx O5).kept K7 ?_).kept ks ?_
    · rintro b hb hat ⟨a, ha, rfl⟩
      exact hat.ne_of (V5.at_ a ha).1 (by decide) rfl
    · intro b hb hat e
      exact hat.ne_of B7.at_ (by decide) e
  · refine (K5.trans K7 ?_).setCell (p := ⟨g, 6, none⟩) (fun _ => rfl) _
    rintro i hi ⟨a, ha, rfl⟩
    have := (V5.at_ a ha).2
    omega

/-- What Strike leaves in the end. -/
theorem rk_end {Q : Nat → Prop} {w w' : World} {g gc gb cc cb n ch cj : Nat} {Ah Aj : Option Addr} {s : CSt} {hs : List HitI} {vs2 : List Value} (h : RRep Q w g gc gb cc cb Ah ch s) (hn : hs.length = n) (hok : ∀ x ∈ hs, HitIOk x) (hall : ∀ x ∈ hs, 0 ≤ x.after)
    (B : Blk w' g 41 (rkCells s gc cc gb cb Aj n cj)) (V : OwnV w' 52 3 w.heap.size Aj n cj vs2) (H : RHits w.heap.size w' hs n vs2) (K : Kept (· = g) w w') :
    RHitsP Q w g { s with hits := hs.map HitI.hit, since := 0 } 0 (.returned (.int .i64 0)) w' := by
  obtain ⟨n1, n2, n3⟩ := h.ne
  have hl : (hs.map HitI.hit).length = n := by rw [List.length_map, hn]
  have hhok : ∀ x ∈ hs.map HitI.hit, HitOk x := by
    intro x hx
    obtain ⟨y, hy, rfl⟩ := List.mem_map.1 hx
    have := hok y hy
    exact ⟨by have := this.after; show y.after.toNat ≤ _; omega, this.bytes, this.len⟩
  refine ⟨rfl, ⟨gc, gb, cc, cb, Aj, cj, ?_⟩, K.mono fun b _ e => by subst e; exact h.qg⟩
  exact { low := fun b hb => by
            rcases hb with hb | hb
            · exact Nat.lt_of_lt_of_le (h.low b hb) K.size
            · exact hb.2
          ok := { h.ok with hits := hhok, since := Nat.zero_le _ }, qg := .inl h.qg, qc := .inl h.qc, qb := .inl h.qb,
          chip := by unfold rCells; rw [hl]; exact B,
          cells := by obtain ⟨j, hj⟩ := h.cells; exact ⟨j, hj.kept K (Ne.symm n1)⟩, ccap := h.ccap,
          bads := by obtain ⟨j, hj⟩ := h.bads; exact ⟨j, hj.kept K (Ne.symm n2)⟩, bcap := h.bcap,
          hcap := by rw [hl]; exact ⟨V.2.1, V.2.2.1⟩,
          hits := H.done hn V (fun b h1 h2 => .inr ⟨h1, h2⟩) (h.low gc h.qc) hall }

set_option maxRecDepth 100000 in
set_option maxHeartbeats 1600000 in
theorem rStrike_yes (Q : Nat → Prop) (g gc gb cc cb : Nat) (Ah : Option Addr) (ch : Nat) (s : CSt) (A : Option Addr) (n c : Nat) (hs : List HitI) (vs : List Value) (w : World) (h : RRep Q w g gc gb cc cb Ah ch s) (hn : hs.length = n) (hok : ∀ x ∈ hs, HitIOk x) (hr : RowV w A n 3 vs)
    (hv : ∀ (i : Nat) (x : HitI), hs[i]? = some x → HitCell w vs i x) (hnn : n * 40 ≤ 140737488351232) (hAg : 0 < n → ∀ a, A = some a → a.block ≠ g) (hm : ∀ i a m c, 0 < m → vs[3 * i + 2]? = some (.slice (some a) m c) → a.block ≠ g) (hall : ∀ x ∈ hs, 0 ≤ x.after) :
    Calls Try.prog 25 #[.pointer (some ⟨g, 0, none⟩), .slice A n c] w (RHitsP Q w g { s with hits := hs.map HitI.hit, since := 0 } 0) := by
  have H := Lib.hid h
  have HN := Lib.hid hn
  have HV := Lib.hid hv
  have HR := Lib.hid hr
  have HOK := Lib.hid hok
  have HALL := Lib.hid hall
  have HAG := Lib.hid hAg
  have HM := Lib.hid hm
  have hlt := h.chip.lt
  have f6 := h.chip.free 6
  have f7 := h.chip.free 7
  have c6 := h.c6
  have c7 := h.c7
  clear h hn hr hv hok hall hAg hm
  go_enter Try.func25, Try.ntmps25
  go_wp2
  go_loopw [5] (fun i wr => ∃ k : Nat, k ≤ n ∧ i = .int .i64 k ∧ w = wr) (fun i _ => n - (intOf i).toNat)
  case atStart => exact ⟨0, Nat.zero_le _, rfl, rfl⟩
  case round =>
    obtain ⟨k, hk, rfl, rfl⟩ := hrel
    by_cases hlt2 : k < n
    · obtain ⟨go, oo, rfl, hcell⟩ := HR.out.2 (by omega)
      obtain ⟨x, hx⟩ : ∃ x, hs[k]? = some x := ⟨_, List.getElem?_eq_getElem (by rw [HN.out]; exact hlt2)⟩
      obtain ⟨c1, c2, Am, cm, c3, _⟩ := HV.out k x hx
      have d1 : w.cell? ⟨go, oo + k * 3, none⟩ = some (.int .i64 x.after) := by rw [Nat.mul_comm]; exact hcell _ _ c1
      have d2 : w.cell? ⟨go, oo + k * 3 + 1, none⟩ = some (.bool x.fails) := by rw [Nat.mul_comm]; exact hcell _ _ c2
      have d3 : w.cell? ⟨go, oo + k * 3 + 2, none⟩ = some (.slice Am x.mask.length cm) := by rw [Nat.mul_comm]; exact hcell _ _ c3
      have hpos := HALL.out x (List.mem_of_getElem? hx)
      have hneg : ¬ x.after < 0 := by omega
      clear c1 c2 c3 hx hcell
      go_wp2
      go_roundw
      case rel => exact ⟨k + 1, by omega, by go_num, by first | rfl | trivial⟩
      case measure => simp [intOf]; omega
    · have hB0 : Hid (Blk ((w.setCell ⟨g, 6, none⟩ (.slice none 0 0)).setCell ⟨g, 7, none⟩ (.int .i64 0)) g 41 (rkCells s gc cc gb cb none 0 0)) := by
        have := (H.out.chip.put 6 (.slice none 0 0)).put 7 (.int .i64 0)
        simpa [rCells, rkCells, Hid] using this
      have hK0 : Hid (Kept (· = g) w ((w.setCell ⟨g, 6, none⟩ (.slice none 0 0)).setCell ⟨g, 7, none⟩ (.int .i64 0))) := (Kept.set1 w g 6 _).setCell (p := ⟨g, 7, none⟩) (fun _ => rfl) _
      go_wp2
      go_loopw [6] (fun i wx => ∃ (k : Nat) (Ah : Option Addr) (ch : Nat) (vs2 : List Value), k ≤ n ∧ i = .int .i64 k ∧ Hid (Blk wx g 41 (rkCells s gc cc gb cb Ah k ch)) ∧ Hid (OwnV wx 52 3 w.heap.size Ah k ch vs2) ∧ Hid (RHits w.heap.size wx hs k vs2) ∧ Hid (Kept (· = g) w wx)) (fun i _ => n - (intOf i).toNat)
      case atStart => exact ⟨0, none, 0, [], Nat.zero_le _, rfl, hB0, OwnV.nil _ _ _ _, fun i x hi => absurd hi (by omega), hK0⟩
      case round =>
        clear hB0 hK0 f6 f7 c6 c7 hlt2 hk
        obtain ⟨j, Aj, cj, vs2, hj, rfl, VB, VO, VH, VK⟩ := hrel
        by_cases hlt3 : j < n
        · obtain ⟨go, oo, rfl, hcell⟩ := HR.out.2 (by omega)
          obtain ⟨x, hx⟩ : ∃ x, hs[j]? = some x := ⟨_, List.getElem?_eq_getElem (by rw [HN.out]; exact hlt3)⟩
          obtain ⟨c1, c2, Am, cm, c3, c4, c5, c6, c7⟩ := HV.out j x hx
          have hgo : go ≠ g := HAG.out (by omega) _ rfl
          have HX := Lib.hid hx
          have HGO : Hid (go < w.heap.size) := by have := World.block_lt_of_cell? _ _ (hcell _ _ c1); exact this
          have CC : Hid (∀ (wx : World), Kept (· = g) w wx → wx.cell? ⟨go, oo + j * 3, none⟩ = some (.int .i64 x.after) ∧ wx.cell? ⟨go, oo + j * 3 + 1, none⟩ = some (.bool x.fails) ∧ wx.cell? ⟨go, oo + j * 3 + 2, none⟩ = some (.slice Am x.mask.length cm)) := fun wx hx => by
            rw [Nat.mul_comm]
            exact ⟨hx.cell (hcell _ _ c1) hgo, hx.cell (hcell _ _ c2) hgo, hx.cell (hcell _ _ c3) hgo⟩
          have d3 := (CC.out _ VK.out).2.2
          have HMB : Hid (Bts wr Am x.mask.length x.mask) := by
            rcases Nat.eq_zero_or_pos x.mask.length with h0 | h0
            · obtain ⟨q1, q2, _⟩ := c4
              exact ⟨q1, q2, fun h => absurd h (by omega)⟩
            · exact c4.kept VK.out (fun a ha => HM.out _ a _ _ h0 (by rw [← ha]; exact c3))
          have hml := (HOK.out x (List.mem_of_getElem? hx)).len
          have HB1 : Hid (x.mask.length + 0 ≤ 140737488355328) := by show _ ≤ _; omega
          have hc6 := c6
          have hc7 := c7
          unfold maxLen at hc7
          have HLO : Hid (w.heap.size ≤ wr.drew.heap.size) := VK.out.size
          have HBM : Hid (([] : List Nat).length + x.mask.length ≤ 140737488355328) := by show _ ≤ _; simp; omega
          have hgg := hgo
          clear c1 c2 c3 c4 c5 c6 c7 hx hcell hgo
          obtain ⟨i0, hi, hz0, hz1, hz2⟩ := info_parts info_u8
          go_wp2_with (at_builtin; refine wpList_append_bytes _ rfl _ _ _ rfl 5 i0 Try.underlying30 hi hz0 hz1 hz2 w.heap.size none 0 0 [] rfl (OwnB.nil _ _ _) rfl Am x.mask.length cm x.mask rfl HMB.out HBM.out VK.out.size ?_)
          intro A5 c5 w5 hown hg _
          have KN : Hid (New wr w5) := (Kept.refl _ _).grown (by first | exact hg | exact hg.out) (by simp)
          have O5 : Hid (OwnB w5 5 w.heap.size A5 c5 x.mask) := by first | simpa [Hid] using hown | simpa [Hid] using hown.out
          have K5 : Hid (Kept (· = g) w w5) := VK.out.new KN.out
          have B5 := Lib.hid (VB.out.new KN.out)
          have V5 := Lib.hid (VO.out.new KN.out)
          have H5 := Lib.hid (VH.out.new KN.out)
          have hne : ¬ InRow Aj g := fun ⟨a, ha, e⟩ => by have := (V5.out.at_ a ha).1.ne_of B5.out.at_ (by decide); exact this e
          have hgl : go < w.heap.size := HGO.out
          have hne2 : ¬ InRow Aj go := fun ⟨a, ha, e⟩ => by have := (V5.out.at_ a ha).2; omega
          have CC5 := CC.out w5 K5.out
          have S5 : Hid (∀ wx, Kept (InRow Aj) w5 wx → wx.cell? ⟨g, 6, none⟩ = some (.slice Aj j cj) ∧ wx.cell? ⟨go, oo + j * 3, none⟩ = some (.int .i64 x.after) ∧ wx.cell? ⟨go, oo + j * 3 + 1, none⟩ = some (.bool x.fails) ∧ wx.frozen? ⟨g, 6, none⟩ = false) := fun wx hx =>
            ⟨hx.cell (B5.out.cell 6) hne, hx.cell CC5.1 hne2, hx.cell CC5.2.1 hne2, (B5.out.kept hx hne).free 6⟩
          obtain ⟨s1, s2, s3, s4⟩ := S5.out w5 (Kept.refl _ _)
          have S6 : Hid (∀ wx v, Kept (InRow Aj) w5 wx → (wx.setCell ⟨g, 6, none⟩ v).cell? ⟨go, oo + j * 3, none⟩ = some (.int .i64 x.after) ∧ (wx.setCell ⟨g, 6, none⟩ v).cell? ⟨go, oo + j * 3 + 1, none⟩ = some (.bool x.fails) ∧ (wx.setCell ⟨g, 6, none⟩ v).frozen? ⟨g, 6, none⟩ = false) := fun wx v hx =>
            have ks := Kept.set1 wx g 6 v
            ⟨ks.cell (S5.out wx hx).2.1 hgg, ks.cell (S5.out wx hx).2.2.1 hgg, ((B5.out.kept hx hne).put 6 v).free 6⟩
          have hgl5 := B5.out.lt
          have LO5 : Hid (w.heap.size ≤ w5.heap.size) := K5.out.size
          have NB : Hid (j + 1 ≤ 3518437208780) := by show _ ≤ _; omega
          clear hown hg CC5 d3 hgl
          go_wp2_with fail
          have ONE : Hid (∀ u ∈ [Value.int .i64 x.after, Value.bool x.fails, .slice A5 x.mask.length c5], u.oneCell') := by intro u hu; simp at hu; rcases hu with rfl | rfl | rfl <;> rfl
          have MB5 : Hid (Blk ((w5.alloc (.cells #[.int .i64 x.after, .bool x.fails, .slice A5 x.mask.length c5] 52)).drew) w5.heap.size 52 [.int .i64 x.after, .bool x.fails, .slice A5 x.mask.length c5]) := Blk.made w5 52 #[.int .i64 x.after, .bool x.fails, .slice A5 x.mask.length c5]
          have KA5 : Hid (New w5 ((w5.alloc (.cells #[.int .i64 x.after, .bool x.fails, .slice A5 x.mask.length c5] 52)).drew)) := ((Kept.refl _ _).alloc _).drew
          have hol5 : go < w5.heap.size := Nat.lt_of_lt_of_le HGO.out LO5.out
          go_region_law (with_reducible refine step_append_hit (wb := w5) (o := ⟨some 57, _, _, _, _, _⟩) rfl (.tmp 43) (.tmp 56) rfl w.heap.size Aj j cj vs2 ?_ V5.out KA5.out w5.heap.size 1 [.int .i64 x.after, .bool x.fails, .slice A5 x.mask.length c5] ?_ MB5.out rfl ONE.out NB.out LO5.out ?_; (next => go_simp); (next => go_simp); intro A7 c7 w7 O7 K7; have st6 := (S5.out w7 K7.out).1; have st7 := (S5.out w7 K7.out).2.2.2)
          all_goals
            obtain ⟨e1, e2, e3, e4⟩ := rk_next B5.out V5.out H5.out HX.out O5.out K5.out O7.out K7.out
            have E1 := Lib.hid e1
            have E2 := Lib.hid e2
            have E3 := Lib.hid e3
            have E4 := Lib.hid e4
            clear e1 e2 e3 e4 st6 st7 s1 s2 s3 s4
            go_wp2
            go_roundw
            case rel => exact ⟨j + 1, A7, c7, _, by omega, by go_num, E1, E2, E3, E4⟩
            case measure => simp [intOf]; omega
        · obtain rfl : j = n := by omega
          have e5 := rk_end H.out HN.out HOK.out HALL.out VB.out VO.out VH.out VK.out
          go_wp2
          go_ret
          exact e5

theorem RRep.grow {Q Q' : Nat → Prop} {w : World} {g gc gb cc cb ch : Nat} {Ah : Option Addr} {s : CSt} (h : RRep Q w g gc gb cc cb Ah ch s) (hq : ∀ b, Q b → Q' b) (hlow : ∀ b, Q' b → b < w.heap.size) : RRep Q' w g gc gb cc cb Ah ch s :=
  { low := hlow, ok := h.ok, qg := hq _ h.qg, qc := hq _ h.qc, qb := hq _ h.qb, chip := h.chip, cells := h.cells, ccap := h.ccap, bads := h.bads, bcap := h.bcap, hcap := h.hcap,
    hits := h.hits.kept (Kept.refl (fun _ => False) w) (fun _ _ _ f => f) (fun _ _ _ _ f => f) (fun b hb _ => hq b hb) }

/-- Strike, whatever the list. -/
theorem rStrike_any (Q : Nat → Prop) (g : Nat) (s : CSt) (A : Option Addr) (n c : Nat) (hs : List HitI) (vs : List Value) (w : World) (h : RChip Q w g s) (hn : hs.length = n) (hok : ∀ x ∈ hs, HitIOk x) (hr : RowV w A n 3 vs)
    (hv : ∀ (i : Nat) (x : HitI), hs[i]? = some x → HitCell w vs i x) (hnn : n * 40 ≤ 140737488351232) (hAg : 0 < n → ∀ a, A = some a → a.block ≠ g) (hm : ∀ i a m c, 0 < m → vs[3 * i + 2]? = some (.slice (some a) m c) → a.block ≠ g) :
    Calls Try.prog 25 #[.pointer (some ⟨g, 0, none⟩), .slice A n c] w (RHitsP Q w g (hitsS s hs) (hitsE hs)) := by
  by_cases hall : ∀ x ∈ hs, 0 ≤ x.after
  · obtain ⟨gc, gb, cc, cb, Ah, ch, h⟩ := h
    rw [show hitsS s hs = { s with hits := hs.map HitI.hit, since := 0 } by unfold hitsS; rw [if_pos hall], show hitsE hs = 0 by unfold hitsE; rw [if_pos hall]]
    exact rStrike_yes Q g gc gb cc cb Ah ch s A n c hs vs w h hn hok hr hv hnn hAg hm hall
  · rw [show hitsS s hs = s by unfold hitsS; rw [if_neg hall], show hitsE hs = 2 by unfold hitsE; rw [if_neg hall]]
    refine (rStrike_no Q g s A n c hs vs w h hn hr hv (by omega) hall).mono ?_
    rintro e w' ⟨rfl, h1, h2⟩
    refine ⟨rfl, ?_, h2⟩
    have hlow := h.low
    obtain ⟨gc, gb, cc, cb, Ah, ch, h1⟩ := h1
    exact ⟨gc, gb, cc, cb, Ah, ch, h1.grow (fun b hb => .inl hb) fun b hb => by
      rcases hb with hb | hb
      · exact Nat.lt_of_lt_of_le (hlow b hb) h2.size
      · exact hb.2⟩
end Go.Proofs.Ytfhngcnphcjmgaa
