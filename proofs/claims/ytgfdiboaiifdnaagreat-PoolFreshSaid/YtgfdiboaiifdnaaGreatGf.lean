/-
  A pool as a state; the pool in memory; what it looks at.
-/
import Derived.Test.YtgfdiboaiifdnaaGreatGe
import Derived.Test.YtgfdiboaiifdnaaGreatNs
namespace Go.Proofs.YtgfdiboaiifdnaaGreat
open Go.ChangeShapes Go.WideShapes Go.ChangeAt Go.RowKit

theorem badE_in {s : CSt} {k : Nat} (hk : k < s.nb) : badE s k = badAt s k := by unfold badE; rw [decide_eq_true ⟨by omega, by omega⟩]; simp
theorem deedS_deeds (s : CSt) (b off : Nat) (g : List Nat) : (deedS s b off g).deeds = s.deeds + 1 := by
  unfold deedS
  split
  · rfl
  · split <;> rfl
theorem progS_geo (s : CSt) (b p : Int) (g : List Nat) : (progS s b p g).nb = s.nb ∧ (progS s b p g).np = s.np ∧ (progS s b p g).nz = s.nz ∧ (progS s b p g).ns = s.ns := by
  unfold progS
  split
  · exact deedS_geo _ _ _ _
  · exact ⟨rfl, rfl, rfl, rfl⟩
theorem progS_deeds (s : CSt) (b p : Int) (g : List Nat) : (progS s b p g).deeds ≤ s.deeds + 1 := by
  unfold progS
  split
  · rw [deedS_deeds]; exact Nat.le_refl _
  · exact Nat.le_succ _
theorem erasS_deeds (s : CSt) (b : Int) : (erasS s b).deeds ≤ s.deeds + 1 := by
  unfold erasS
  split
  · rw [deedS_deeds]; exact Nat.le_refl _
  · exact Nat.le_succ _

set_option maxRecDepth 100000 in
set_option maxHeartbeats 800000 in
theorem nProg_short (Q : Nat → Prop) (g : Nat) (s : CSt) (b p : Int) (n : Nat) (G : Option Addr) (c2 : Nat) (gl : List Nat) (w : World) (h : NChip Q w g s) (hlen : gl.length = n) (hn : n ≠ s.nz) :
    Calls Tryz.prog 13 #[.pointer (some ⟨g, 0, none⟩), .int .i64 b, .int .i64 p, .slice G n c2] w (DeedP Q w g (progS s b p gl) (progE s b p gl)) := by
  have hstay := fun (w' : World) (hk : New w w') (er : Int) => DeedP.stay h hk er
  obtain ⟨gc, gb, bl, bb, cc, cb, Ah, ch, h⟩ := h
  have H := Lib.hid h
  have HS := Lib.hid hstay
  by_cases hr : refE s b p = 0
  · obtain ⟨hdd, ht⟩ := refE_ok hr
    obtain ⟨b', rfl, hb⟩ := nat_of ht.1
    obtain ⟨p', rfl, hp⟩ := nat_of ht.2
    have HR := Lib.hid hr
    have d2 := h.c2
    have hlt := h.chip.lt
    have e0 : progR s b' p' gl.length = 2 := by unfold progR; rw [hr, hlen]; simp [hn]
    have e1 : progE s b' p' gl = 2 := by unfold progE; rw [e0]; rfl
    have e2 : progS s b' p' gl = s := by unfold progS; rw [e0]; rfl
    rw [e1, e2]
    have hn1 : ((n : Int) == (s.nz : Int)) = false := beq_eq_false_iff_ne.2 (by omega)
    have hn2 : (n == s.nz) = false := beq_eq_false_iff_ne.2 hn
    clear h hr hdd ht hb hp hlen e0 e1 e2 hstay
    go_enter Tryz.func13, Tryz.ntmps13
    go_wp2_with fail
    refine (refuses_any _ _ _ _ _ _ _ _ _ _ _ _ _ _ H.out).mono ?_
    rintro e w' ⟨rfl, rfl⟩
    rw [HR.out]
    go_wp2
    go_ret
    exact HS.out _ (Kept.refl _ _) 2
  · have e0 : progR s b p gl.length = refE s b p := by unfold progR; rw [if_pos hr]
    have e1 : progE s b p gl = refE s b p := by unfold progE; rw [e0, if_neg hr]
    have e2 : progS s b p gl = s := by unfold progS; rw [e0, if_neg hr]
    rw [e1, e2]
    have hq : (refE s b p == 0) = false := beq_eq_false_iff_ne.2 hr
    clear h e0 e1 e2 hr hlen hn hstay
    generalize hx : refE s b p = x at *
    have HX := Lib.hid hx
    clear hx
    go_enter Tryz.func13, Tryz.ntmps13
    go_wp2_with fail
    refine (refuses_any _ _ _ _ _ _ _ _ _ _ _ _ _ _ H.out).mono ?_
    rintro e w' ⟨rfl, rfl⟩
    rw [HX.out]
    go_wp2
    go_ret
    exact HS.out _ (Kept.refl _ _) x

theorem nProg_w (Q : Nat → Prop) (g : Nat) (s : CSt) (b p : Int) (n : Nat) (G : Option Addr) (c2 : Nat) (gl : List Nat) (w : World) (h : NChip Q w g s) (hd : s.deeds < 4611686018427387904)
    (hg : Bts w G n gl) (hg1 : 0 < n → ∀ a, G = some a → ¬ Q a.block) :
    Calls Tryz.prog 13 #[.pointer (some ⟨g, 0, none⟩), .int .i64 b, .int .i64 p, .slice G n c2] w (DeedP Q w g (progS s b p gl) (progE s b p gl)) := by
  rcases Nat.eq_zero_or_pos n with h0 | h0
  · exact nProg_short Q g s b p n G c2 gl w h hg.1 (by have := h.ok.nz1; omega)
  · exact nProg_any Q g s b p n G c2 gl w h hd hg (hg1 h0)


/-- What is known of a block: 0 blank, 1 taken, 2 junk; the head. -/
structure PB where
  w : Nat
  k : Nat
  e : Nat
  s : Nat
structure PSt where
  bl : List PB
  next : Nat
  last : Nat
def PB.cells (b : PB) : List Value := [.int .u8 (b.w : Nat), .int .u8 (b.k : Nat), .int .u32 (b.e : Nat), .int .u64 (b.s : Nat)]
def bCells : List PB → List Value
  | [] => []
  | b :: l => b.cells ++ bCells l
structure PB.Ok (b : PB) : Prop where
  w : b.w ≤ 2
  k : b.k < 256
  e : b.e < 4294967296
  s : b.s < 18446744073709551616
theorem bCells_len (l : List PB) : (bCells l).length = l.length * 4 := by
  induction l with
  | nil => rfl
  | cons b l ih => simp only [bCells, List.length_append, ih, PB.cells, List.length_cons, List.length_nil]; omega
theorem bCells_get (l : List PB) (j : Nat) (v : Value) : ∀ (i : Nat) (b : PB), l[i]? = some b → j < 4 → b.cells[j]? = some v → (bCells l)[i * 4 + j]? = some v := by
  induction l with
  | nil => intro i b h; simp at h
  | cons c l ih =>
    intro i b h hj hv
    cases i with
    | zero =>
      simp at h
      subst h
      simp only [bCells, Nat.zero_mul, Nat.zero_add]
      rw [List.getElem?_append_left (by simp [PB.cells]; omega)]
      exact hv
    | succ i =>
      simp only [bCells]
      rw [List.getElem?_append_right (by simp [PB.cells]; omega), show (i + 1) * 4 + j - c.cells.length = i * 4 + j by simp [PB.cells]; omega]
      exact ih i b (by simpa using h) hj hv
theorem bCells_set (l : List PB) (b : PB) : ∀ (i : Nat), i < l.length → ((((bCells l).set (i * 4) (.int .u8 (b.w : Nat))).set (i * 4 + 1) (.int .u8 (b.k : Nat))).set (i * 4 + 2) (.int .u32 (b.e : Nat))).set (i * 4 + 3) (.int .u64 (b.s : Nat)) = bCells (l.set i b) := by
  induction l with
  | nil => intro i h; simp at h
  | cons c l ih =>
    intro i h
    cases i with
    | zero => simp [bCells, PB.cells]
    | succ i =>
      have h1 := ih i (by simpa using h)
      have e0 : (i + 1) * 4 = i * 4 + 1 + 1 + 1 + 1 := by omega
      simp only [bCells, List.set_cons_succ, PB.cells, e0, List.cons_append, List.nil_append]
      rw [← h1]

/-- The pool in block gp, its blocks' list in gb, its chip in g. -/
structure PRep (Qc : Nat → Prop) (w : World) (gp gb g : Nat) (s : CSt) (p : PSt) : Prop where
  chip : NChip Qc w g s
  pool : Blk w gp 64 [.pointer (some ⟨g, 0, none⟩), .slice (some ⟨gb, 0, none⟩) s.nb s.nb, .int .i64 (p.next : Nat), .int .u64 (p.last : Nat)]
  blks : Blk w gb 67 (bCells p.bl)
  len : p.bl.length = s.nb
  next : p.next < s.nb
  last : p.last < 18446744073709551616
  okb : ∀ b ∈ p.bl, b.Ok
  np : ¬ Qc gp
  nb : ¬ Qc gb

section
variable {Qc S : Nat → Prop} {w w' : World} {gp gb g : Nat} {s : CSt} {p : PSt}
theorem PRep.new (h : PRep Qc w gp gb g s p) (hk : New w w') : PRep Qc w' gp gb g s p := { h with chip := h.chip.new hk, pool := h.pool.new hk, blks := h.blks.new hk }
theorem PRep.kept (h : PRep Qc w gp gb g s p) (hk : Kept S w w') (h1 : ∀ b, S b → ¬ Qc b ∧ b ≠ gp ∧ b ≠ gb) : PRep Qc w' gp gb g s p :=
  { h with chip := h.chip.kept hk fun b q q2 => (h1 b q2).1 q, pool := h.pool.kept hk fun q => (h1 _ q).2.1 rfl, blks := h.blks.kept hk fun q => (h1 _ q).2.2 rfl }
theorem PRep.ne (h : PRep Qc w gp gb g s p) : gp ≠ gb := h.pool.ne_of h.blks (by decide)
theorem PRep.get (h : PRep Qc w gp gb g s p) {i : Nat} (hi : i < s.nb) : ∃ b, p.bl[i]? = some b := ⟨_, List.getElem?_eq_getElem (by rw [h.len]; exact hi)⟩
theorem PRep.bcell (h : PRep Qc w gp gb g s p) {i j : Nat} {b : PB} {v : Value} (hb : p.bl[i]? = some b) (hj : j < 4) (hv : b.cells[j]? = some v) : w.cell? ⟨gb, i * 4 + j, none⟩ = some v := by
  rw [h.blks.cell]
  exact bCells_get _ _ _ _ _ hb hj hv
end

/-- What a block is, the chip asked whether it is bad. -/
def isV (s : CSt) (p : PSt) (i : Nat) : Nat := if badAt s i = true then 3 else ((p.bl[i]?).map PB.w).getD 0
def frV (s : CSt) (p : PSt) (i : Nat) : Bool := decide (isV s p i = 0 ∨ isV s p i = 2)

set_option maxRecDepth 100000 in
set_option maxHeartbeats 800000 in
theorem pNone_no (Qc : Nat → Prop) (gp gb g : Nat) (s : CSt) (p : PSt) (w : World) (h : PRep Qc w gp gb g s p) :
    Calls Tryz.prog 19 #[.pointer (some ⟨gp, 0, none⟩)] w fun e w' => e = .returned (.bool false) ∧ w = w' := by
  have c0 : w.cell? ⟨gp, 0, none⟩ = some (.pointer (some ⟨g, 0, none⟩)) := h.pool.cell 0
  clear h
  go_enter Tryz.func19, Tryz.ntmps19
  go_wp2
  go_ret
  exact ⟨rfl, rfl⟩

set_option maxRecDepth 100000 in
set_option maxHeartbeats 800000 in
theorem pNone_nil (w : World) : Calls Tryz.prog 19 #[.pointer none] w fun e w' => e = .returned (.bool true) ∧ w = w' := by
  go_enter Tryz.func19, Tryz.ntmps19
  go_wp2
  go_ret
  exact ⟨rfl, rfl⟩

set_option maxRecDepth 100000 in
set_option maxHeartbeats 800000 in
theorem pNone_zero (gp : Nat) (w : World) (c0 : w.cell? ⟨gp, 0, none⟩ = some (.pointer none)) :
    Calls Tryz.prog 19 #[.pointer (some ⟨gp, 0, none⟩)] w fun e w' => e = .returned (.bool true) ∧ w = w' := by
  go_enter Tryz.func19, Tryz.ntmps19
  go_wp2
  go_ret
  exact ⟨rfl, rfl⟩

set_option maxRecDepth 100000 in
set_option maxHeartbeats 800000 in
theorem pBehind_any (Qc : Nat → Prop) (gp gb g : Nat) (s : CSt) (p : PSt) (i : Nat) (w : World) (h : PRep Qc w gp gb g s p) (hi : i < s.nb) :
    Calls Tryz.prog 27 #[.pointer (some ⟨gp, 0, none⟩), .int .i64 (i : Nat)] w fun e w' => e = .returned (.int .i64 (((i + 1) % s.nb : Nat) : Int)) ∧ w = w' := by
  have c1 : w.cell? ⟨gp, 1, none⟩ = some (.slice (some ⟨gb, 0, none⟩) s.nb s.nb) := h.pool.cell 1
  have hnb := h.chip.ok.nb2
  have hnb1 := h.chip.ok.nb1
  have hm : Hid (Int.tmod ((i : Int) + 1) (s.nb : Int) = (((i + 1) % s.nb : Nat) : Int)) := by
    show _ = _
    rw [Int.tmod_eq_emod_of_nonneg (by omega), Int.natCast_emod, Int.natCast_add]
    rfl
  have hm2 : Hid (((i : Int) + 1) % (s.nb : Int) = (((i + 1) % s.nb : Nat) : Int)) := by show _ = _; rw [Int.natCast_emod, Int.natCast_add]; rfl
  clear h
  generalize (i + 1) % s.nb = r at *
  have hpos : (0 : Int) < (s.nb : Int) := by omega
  go_enter Tryz.func27, Tryz.ntmps27
  go_wp2
  go_ret
  refine ⟨?_, rfl⟩
  first
    | (rw [← hm2.out]; rfl)
    | (rw [← hm.out]; rfl)

set_option maxRecDepth 100000 in
set_option maxHeartbeats 800000 in
theorem pIs_any (Qc : Nat → Prop) (gp gb g : Nat) (s : CSt) (p : PSt) (i : Nat) (w : World) (h : PRep Qc w gp gb g s p) (hi : i < s.nb) :
    Calls Tryz.prog 20 #[.pointer (some ⟨gp, 0, none⟩), .int .i64 (i : Nat)] w fun e w' => e = .returned (.int .u8 (isV s p i : Nat)) ∧ w = w' := by
  have HP := Lib.hid h
  have HB := Lib.hid (badE_in hi)
  have c0 : w.cell? ⟨gp, 0, none⟩ = some (.pointer (some ⟨g, 0, none⟩)) := h.pool.cell 0
  have c1 : w.cell? ⟨gp, 1, none⟩ = some (.slice (some ⟨gb, 0, none⟩) s.nb s.nb) := h.pool.cell 1
  obtain ⟨b, hb⟩ := h.get hi
  have d0 : w.cell? ⟨gb, i * 4, none⟩ = some (.int .u8 (b.w : Nat)) := h.bcell (j := 0) hb (by omega) rfl
  have hnb := h.chip.ok.nb2
  have hii : (i : Int) < (s.nb : Int) := by omega
  cases hbad : badAt s i
  · have E : Hid (isV s p i = b.w) := by show _ = _; unfold isV; rw [hbad, hb]; rfl
    rw [E.out]
    rw [hbad] at HB
    clear h hb hbad
    go_enter Tryz.func20, Tryz.ntmps20
    go_wp2_with fail
    refine (nBad_any _ _ _ _ _ HP.out.chip).mono ?_
    rintro e w' ⟨rfl, rfl⟩
    rw [HB.out]
    go_wp2
    go_ret
    exact ⟨rfl, rfl⟩
  · have E : Hid (isV s p i = 3) := by show _ = _; unfold isV; rw [hbad]; rfl
    rw [E.out]
    rw [hbad] at HB
    clear h hb hbad
    go_enter Tryz.func20, Tryz.ntmps20
    go_wp2_with fail
    refine (nBad_any _ _ _ _ _ HP.out.chip).mono ?_
    rintro e w' ⟨rfl, rfl⟩
    rw [HB.out]
    go_wp2
    go_ret
    exact ⟨rfl, rfl⟩

theorem isV_le {Qc : Nat → Prop} {w : World} {gp gb g : Nat} {s : CSt} {p : PSt} (h : PRep Qc w gp gb g s p) {i : Nat} (hi : i < s.nb) : isV s p i ≤ 3 := by
  unfold isV
  split
  · omega
  · obtain ⟨b, hb⟩ := h.get hi
    rw [hb]
    have := (h.okb b (List.mem_of_getElem? hb)).w
    show b.w ≤ 3
    omega

set_option maxRecDepth 100000 in
set_option maxHeartbeats 800000 in
theorem pFree_any (Qc : Nat → Prop) (gp gb g : Nat) (s : CSt) (p : PSt) (i : Nat) (w : World) (h : PRep Qc w gp gb g s p) (hi : i < s.nb) :
    Calls Tryz.prog 53 #[.pointer (some ⟨gp, 0, none⟩), .int .i64 (i : Nat)] w fun e w' => e = .returned (.bool (frV s p i)) ∧ w = w' := by
  have HP := Lib.hid h
  have HI := Lib.hid hi
  have hle := isV_le h hi
  obtain ⟨v, hv⟩ : ∃ v, isV s p i = v := ⟨_, rfl⟩
  have HF : frV s p i = decide (v = 0 ∨ v = 2) := by unfold frV; rw [hv]
  rw [HF]
  rw [hv] at hle
  have HV := Lib.hid hv
  clear h hi hv HF
  obtain rfl | rfl | rfl | rfl : v = 0 ∨ v = 1 ∨ v = 2 ∨ v = 3 := by omega
  all_goals
    go_enter Tryz.func53, Tryz.ntmps53
    go_wp2_with fail
    refine (pIs_any _ _ _ _ _ _ _ _ HP.out HI.out).mono ?_
    rintro e w' ⟨rfl, rfl⟩
    rw [HV.out]
    go_wp2
    go_ret
    exact ⟨rfl, rfl⟩
end Go.Proofs.YtgfdiboaiifdnaaGreat
