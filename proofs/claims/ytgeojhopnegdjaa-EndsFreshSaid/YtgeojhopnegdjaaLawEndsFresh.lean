/-
  EndsFresh: what is handed in stays, the room behind it, too; what is answered is new memory; a reader has bytes of its own; for every bytes.
-/
import Derived.Test.YtgeojhopnegdjaaEh
namespace Go.Proofs.Ytgeojhopnegdjaa.endsFresh
open Go.ChangeShapes Go.WideShapes Go.ChangeAt Go.RowKit

theorem own : ownKnob Try.prog.godebug = none := by kernel_rfl
theorem laidOut : laidOutB Try.prog = true := by kernel_rfl

theorem own_ge {w : World} {t : TypeId} {B k c : Nat} {A : Option Addr} {l : List Nat} (h : OwnB w t B A c l) (hk : blkIs A k) : B ≤ k := by
  obtain ⟨a, rfl, rfl⟩ := hk
  exact (h.at_ a rfl).2

set_option maxRecDepth 100000 in
set_option maxHeartbeats 2000000 in
theorem walk (A : Option Addr) (n c : Nat) (l : List Nat) (w : World) (hb : IsB w (.slice A n c) A n c l) :
    Calls Try.prog 7 #[.slice A n c] w (True1 w) := by
  have hn : n ≤ 140737488351232 := by have := hb.le; have := hb.cap; omega
  have Hl := Lib.hid hb.bts.1
  have Hb := Lib.hid hb
  clear hb
  go_enter Try.func7, Try.ntmps7
  go_wp2_with fail
  refine (wide_any A n c l _ Hb.out.bts hn).mono ?_
  rintro e w1 ⟨gv, rfl, b1, g1, k1⟩
  rw [Hl.out]
  have B1 := Lib.hid b1
  have G1 := Lib.hid g1
  have K1 := Lib.hid k1
  have O1 : Hid (OwnB w1 5 w.heap.size (some ⟨gv, 0, none⟩) (n + 3) l) := OwnB.of_blk (sp := [7, 7, 7]) b1 g1 (by intro x hx; rcases List.mem_append.1 hx with h | h; exact Hb.out.bts.2.1 x h; simp at h; omega) (by simp [Hl.out]) (by unfold maxLen; omega)
  clear b1 g1 k1
  go_wp2_with fail
  refine (erow_any _ n (n + 3) l _ (by have := O1.out.bts; rwa [Hl.out] at this) (by unfold maxLen; omega)).mono ?_
  rintro e w2 ⟨A2, c2, rfl, o2, k2⟩
  have O2 := Lib.hid o2
  have K2 := Lib.hid k2
  clear o2 k2
  go_wp2_with fail
  refine (spoil_any A2 c2 w1.heap.size 1 (rowL l) _ O2.out).mono ?_
  rintro e w3 ⟨rfl, k3⟩
  have K13 : Hid (New w1 w3) := K2.out.trans k3 fun i hi h => by have := own_ge O2.out h; omega
  have O3 := Lib.hid (O1.out.new K13.out)
  have B3 := Lib.hid (B1.out.kept K13.out (fun f => f))
  have K3 := Lib.hid (K1.out.new K13.out)
  have GV : Hid (gv < w3.heap.size) := B3.out.lt
  clear k3 O2 K2 K13 O1 B1 K1
  go_wp2_with fail
  refine (new_any _ n (n + 3) l _ (by have := O3.out.bts; rwa [Hl.out] at this) hn (fun h => by cases h)).mono ?_
  rintro e w4 ⟨g, rfl, r4, g4, k4⟩
  have R4 := Lib.hid r4
  have G4 := Lib.hid g4
  have B4 := Lib.hid (B3.out.kept k4 (fun f => f))
  have K4 := Lib.hid (K3.out.new k4)
  have S4 := Lib.hid k4.size
  clear r4 g4 k4 O3 B3 K3
  go_wp2_with fail
  refine (copy_any A n c l _ (Hb.out.bts.new K4.out) hn).mono ?_
  rintro e w5 ⟨A5, c5, rfl, o5, k5⟩
  have O5 := Lib.hid o5
  have R5 := Lib.hid (R4.out.new k5)
  have B5 := Lib.hid (B4.out.kept k5 (fun f => f))
  have K5 := Lib.hid (K4.out.new k5)
  have S5 := Lib.hid k5.size
  clear o5 k5 R4 B4 K4
  go_wp2_with fail
  have hal : New w5 (w5.alloc (.cells #[.slice A5 l.length c5, .bool false] 37)) := (Kept.refl _ _).alloc _
  have F6 : Hid (Ref (fun b => w4.heap.size ≤ b) (w5.alloc (.cells #[.slice A5 l.length c5, .bool false] 37)) w5.heap.size l false) :=
    ⟨A5, c5, Blk.made w5 _ _, O5.out.bts.new hal, fun a h => ⟨(O5.out.at_ a h).2, (O5.out.at_ a h).1.kept hal (fun f => f)⟩, O5.out.le⟩
  have R6 := Lib.hid (R5.out.new hal)
  have B6 := Lib.hid (B5.out.kept hal (fun f => f))
  have K6 := Lib.hid (K5.out.new hal)
  clear hal R5 B5 K5 O5
  refine (left_any gv n c A l _ B6.out Hl.out (Hb.out.bts.new K6.out) hn).mono ?_
  rintro e w7 ⟨d7, rfl, hw7⟩
  have F7 : Hid (Ref (fun b => w4.heap.size ≤ b) w7 w5.heap.size l false) := by rw [hw7]; exact F6.out.drewN d7
  have R7 : Hid (Rdr (fun b => w3.heap.size ≤ b) w7 g l) := by rw [hw7]; exact R6.out.drewN d7
  have B7 : Hid (Blk w7 gv 5 ((l ++ [7, 7, 7]).map byt)) := by rw [hw7]; exact B6.out.drewN d7
  have K7 : Hid (New w w7) := by rw [hw7]; exact K6.out.drewN d7
  have O7 : Hid (OwnB w7 5 w.heap.size (some ⟨gv, 0, none⟩) (n + 3) l) := OwnB.of_blk (sp := [7, 7, 7]) B7.out G1.out (by intro x hx; rcases List.mem_append.1 hx with h | h; exact Hb.out.bts.2.1 x h; simp at h; omega) (by simp [Hl.out]) (by unfold maxLen; omega)
  have S7 : Hid (w.heap.size ≤ w5.heap.size) := by have := G1.out; have := GV.out; have := S4.out; have := S5.out; rw [Hid]; omega
  clear hw7 F6 R6 B6 K6
  generalize w5.heap.size = g2 at *
  go_wp2_with fail
  have hsp := spoil_any (some ⟨gv, 0, none⟩) (n + 3) w.heap.size 1 l w7 O7.out
  rw [Hl.out] at hsp
  refine hsp.mono ?_
  clear hsp
  rintro e w8 ⟨rfl, k8⟩
  have hgv : ∀ k, blkIs (some ⟨gv, 0, none⟩) k → k = gv := fun k ⟨a, h, e⟩ => by injection h with h; subst h; exact e.symm
  have R8 : Hid (Rdr (fun b => b < w8.heap.size) w8 g l) := (R7.out.kept k8 (fun h => by have := hgv _ h; have := G4.out; have := GV.out; omega) (fun k hk hq => by have := hgv k hk; have := GV.out; omega)).mono fun b _ h => h
  have F8 : Hid (Ref (fun b => b < w8.heap.size) w8 g2 l false) := (F7.out.kept k8 (fun h => by have := hgv _ h; have := GV.out; have := S4.out; have := S5.out; omega) (fun k hk hq => by have := hgv k hk; have := GV.out; have := S4.out; omega)).mono fun b _ h => h
  have K8 : Hid (New w w8) := K7.out.trans k8 fun i hi h => by have := hgv i h; have := G1.out; omega
  clear k8 hgv F7 R7 B7 K7 O7
  go_wp2_with fail
  refine (erow2_any g l _ R8.out).mono ?_
  rintro e w9 ⟨A9, c9, rfl, o9, r9, k9⟩
  have O9 := Lib.hid o9
  have R9 := Lib.hid r9
  have F9 := Lib.hid (F8.out.keptR k9 R8.out.at_)
  have K9 : Hid (New w w9) := K8.out.trans k9 fun i hi e => by have := G4.out; have := G1.out; have := GV.out; omega
  have GL : Hid (g < w8.heap.size ∧ g2 < w8.heap.size) := ⟨R8.out.at_.lt, F8.out.at_.lt⟩
  clear o9 r9 k9 R8 F8 K8
  go_wp2_with fail
  refine (rrow2_any g2 l false _ F9.out).mono ?_
  rintro e w10 ⟨A10, c10, q10, rf10, rfl, o10, f10, hq10, k10⟩
  have hlf : lft l false = l := rfl
  rw [hlf] at o10 hq10 ⊢
  have O10 := Lib.hid o10
  have F10 := Lib.hid f10
  have R10 := Lib.hid (R9.out.keptF k10 F9.out.at_)
  have OY10 := Lib.hid (O9.out.keptF k10 F9.out.at_)
  have HQ10 := Lib.hid hq10
  have K10 : Hid (New w w10) := K9.out.trans k10 fun i hi e => by have := S7.out; omega
  clear o10 f10 k10 hq10 O9 R9 F9 K9 hlf
  go_wp2_with fail
  refine (same_eq _ _ _ _ _ _ _ OY10.out.bts O10.out.bts (Nat.le_trans OY10.out.le.1 OY10.out.le.2)).mono ?_
  rintro e w11 ⟨d11, rfl, hw11⟩
  have K11 : Hid (New w w11) := by rw [hw11]; exact K10.out.drewN d11
  have R11 : Hid (Rdr (fun b => b < w8.heap.size) w11 g (rwR l)) := by rw [hw11]; exact R10.out.drewN d11
  have F11 : Hid (Ref (fun b => b < w8.heap.size) w11 g2 q10 rf10) := by rw [hw11]; exact F10.out.drewN d11
  have OY11 : Hid (OwnB w11 5 w8.heap.size A9 c9 (rwL l)) := by rw [hw11]; exact OY10.out.drewN d11
  clear hw11 K10 R10 F10 O10 OY10
  go_wp2_with fail
  refine (spoil_any A9 c9 w8.heap.size 1 (rwL l) _ OY11.out).mono ?_
  rintro e w12 ⟨rfl, k12⟩
  have R12 : Hid (Rdr Any w12 g (rwR l)) := (R11.out.kept k12 (fun h => by have := own_ge OY11.out h; have := GL.out.1; omega) (fun k hk hq => by have := own_ge OY11.out hk; omega)).any
  have F12 : Hid (Ref (fun b => b < w8.heap.size) w12 g2 q10 rf10) := F11.out.kept k12 (fun h => by have := own_ge OY11.out h; have := GL.out.2; omega) (fun k hk hq => by have := own_ge OY11.out hk; omega)
  have K12 : Hid (New w w12) := K11.out.trans k12 fun i hi h => by have := own_ge OY11.out h; have := GL.out.2; have := S7.out; omega
  clear k12 K11 R11 F11 OY11
  go_wp2_with fail
  refine (etake_any g (rwR l) 1 _ R12.out).mono ?_
  rintro e w13 ⟨rfl, r13, k13⟩
  have F13 := Lib.hid (F12.out.keptR k13 R12.out.at_)
  have K13 : Hid (New w w13) := K12.out.trans k13 fun i hi e => by have := G4.out; have := G1.out; have := GV.out; omega
  clear r13 k13 R12 F12 K12
  go_wp2_with fail
  refine (rtake_any g2 q10 rf10 1 _ F13.out).mono ?_
  rintro e w14 ⟨q14, rf14, rfl, f14, hq14, k14⟩
  rw [HQ10.out]
  have K14 : Hid (New w w14) := K13.out.trans k14 fun i hi e => by have := S7.out; omega
  clear f14 hq14 k14 F13 K13
  go_wp2_with (go_at_call 14; refine (works_any _).mono ?_; rintro e w15 ⟨rfl, hk⟩; have HK15 := Lib.hid hk; clear hk)
  go_ret
  exact ⟨rfl, K14.out.new HK15.out⟩

set_option maxRecDepth 100000 in
theorem lifted (os : Os) (started : os.Started) (H : Type) (enc : TypeId × Value → H) :
    ReturnsInHanded {} Try.checked os 7 .any (Rows.endsFreshSpec.pre6 enc Try.prog Try.f7 Rows.endsFreshRow.domain false) (Rows.endsFreshSpec.post enc Try.prog Try.f7 false true false false) := by
  refine lift_new (C := Try.checked) (s := Rows.endsFreshSpec) (tb := 4) own started (by kernel_rfl) Try.func7
    (ChangeSpec.witness6 (enc := enc) (C := Try.checked) false ⟨#[], #[.slice none 0 0], []⟩ 8 (by kernel_rfl) (by kernel_rfl) (by kernel_rfl) (by kernel_rfl))
    rfl (by kernel_rfl) Try.underlying4 ?_ laidOut (of_decide_eq_true (by kernel_rfl)) ?_
  · intro ds hd
    match ds, hd with
    | [d0], _ => exact ⟨rfl, rfl, rfl⟩
  · intro W base args ds hA
    have hA : Args enc Try.prog W base Try.f7.params.toList args.toList ds := hA
    rw [Try.params7] at hA
    obtain ⟨v0, vs0, d0, ds0, p0, hargs, rfl, a0, hA⟩ := hA.cons_
    obtain ⟨rfl, rfl⟩ := hA.nil_
    obtain rfl : args = #[v0] := by cases args; simp_all
    obtain ⟨A0, n0, c0, l0, b0⟩ := a0.bytes_ Try.underlying23 Try.underlying5 (by kernel_rfl) (by kernel_rfl)
    obtain rfl := b0.val
    exact walk A0 n0 c0 l0 W b0

theorem over : Rows.endsFreshRow.holds Try.pinned (OpenSpec.ofChange Rows.endsFreshSpec) :=
  OpenClaim.holds_of_wide 7 Try.f7 rfl rfl rfl rfl rfl rfl rfl ⟨rfl, rfl, rfl, rfl, rfl⟩ rfl rfl rfl rfl rfl (by kernel_rfl) Try.func7 (by kernel_rfl)
    (of_decide_eq_true (by kernel_rfl)) (by unfold Func.isWrapper; first | (rw [if_pos (by decide +kernel)]; kernel_rfl) | (rw [if_neg (by decide +kernel)]; exact ⟨rfl, rfl⟩))
    (fun os started H enc _ => lifted os started H enc)

theorem proved : Rows.EndsFreshSaid := over
end Go.Proofs.Ytgeojhopnegdjaa.endsFresh
