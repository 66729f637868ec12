/-
  PoolPlays: whatever is taken and freed, whatever strikes the chip, each answer is as it must be, and what the pool tells is what is read of the chip: for every number of pages, every list of hits and every list of acts (the first 40).
-/
import Derived.Test.YtgfdiboaiifdnaaIb
namespace Go.Proofs.Ytgfdiboaiifdnaa.poolPlays
open Go.ChangeShapes Go.WideShapes Go.ChangeAt Go.RowKit

theorem own : ownKnob Try.prog.godebug = none := by kernel_rfl
theorem laidOut : laidOutB Try.prog = true := by kernel_rfl

theorem plm_new {H : Prop} {w0 w : World} {g gp n m : Nat} (h : PlM H w0 w g gp n m) : New w0 w := by
  obtain ⟨_, _, _, _, _, _, h3, _⟩ := h
  exact h3

set_option maxRecDepth 100000 in
set_option maxHeartbeats 1600000 in
theorem walk (pages : Nat) (Ah : Option Addr) (nh ch : Nat) (hs : List HitI) (A : Option Addr) (n c : Nat) (al : List Act4) (w : World) (hpg : pages < 256) (hH : HitsA w Ah nh hs) (hHn : Ah = none → ch = 0 ∧ nh = 0) (hHb : nh * 40 ≤ 140737488351232)
    (hA : Acts4 w A n al) (hn : n ≤ c ∧ c ≤ maxLen) :
    Calls Try.prog 3 #[.int .u8 (pages : Nat), .slice Ah nh ch, .slice A n c] w (True1 w) := by
  have HW := Lib.hid (played_any pages Ah nh ch hs A n c al w hpg hH hHn hHb hA hn)
  clear hpg hH hHn hHb hA hn
  go_enter Try.func3, Try.ntmps3
  go_wp2_with fail
  refine HW.out.mono ?_
  rintro e w1 ⟨g, gp, rfl, hm⟩
  have N1 := Lib.hid (plm_new hm)
  clear hm HW
  go_wp2_with fail
  refine (pWorks_any _).mono ?_
  rintro e w2 ⟨rfl, k2⟩
  have N2 := Lib.hid (N1.out.new k2)
  clear k2 N1
  go_wp2
  go_ret
  exact ⟨rfl, N2.out⟩

set_option maxRecDepth 100000 in
theorem lifted (os : Os) (started : os.Started) (H : Type) (enc : TypeId × Value → H) :
    ReturnsInHanded {} Try.checked os 3 .any (Rows.poolPlaysSpec.pre6 enc Try.prog Try.f3 Rows.poolPlaysRow.domain false) (Rows.poolPlaysSpec.post enc Try.prog Try.f3 false true false false) := by
  refine lift_new (C := Try.checked) (s := Rows.poolPlaysSpec) (tb := 4) own started (by kernel_rfl) Try.func3
    (ChangeSpec.witness6 (enc := enc) (C := Try.checked) false ⟨#[], #[.int .u8 0, .slice none 0 0, .slice none 0 0], []⟩ 8 (by kernel_rfl) (by kernel_rfl) (by kernel_rfl) (by kernel_rfl))
    rfl (by kernel_rfl) Try.underlying4 ?_ laidOut (of_decide_eq_true (by kernel_rfl)) ?_
  · intro ds hd
    match ds, hd with
    | [d0, d1, d2], _ => exact ⟨rfl, rfl, rfl⟩
  · intro W base args ds hA
    have hA : Args enc Try.prog W base Try.f3.params.toList args.toList ds := hA
    rw [Try.params3] at hA
    obtain ⟨v0, vs0, d0, ds0, p0, hargs, rfl, a0, hA⟩ := hA.cons_
    obtain ⟨v1, vs1, d1, ds1, p1, rfl, rfl, a1, hA⟩ := hA.cons_
    obtain ⟨v2, vs2, d2, ds2, p2, rfl, rfl, a2, hA⟩ := hA.cons_
    obtain ⟨rfl, rfl⟩ := hA.nil_
    obtain rfl : args = #[v0, v1, v2] := by cases args; simp_all
    obtain ⟨y0, rfl, w0⟩ := a0.int_ Try.underlying5
    obtain ⟨x0, rfl, h0⟩ := u8_nat w0
    obtain ⟨A1, n1, c1, l1, rfl, b1, k1, m1, _, _⟩ := a1.hits_
    obtain ⟨A2, n2, c2, l2, rfl, b2, k2, m2⟩ := a2.acts4_
    exact walk x0 A1 n1 c1 l1 A2 n2 c2 l2 W h0 b1 k1 m1 b2 ⟨k2, m2⟩

theorem over : Rows.poolPlaysRow.holds Try.pinned (OpenSpec.ofChange Rows.poolPlaysSpec) :=
  OpenClaim.holds_of_wide 3 Try.f3 rfl rfl rfl rfl rfl rfl rfl ⟨rfl, rfl, rfl, rfl, rfl⟩ rfl rfl rfl rfl rfl (by kernel_rfl) Try.func3 (by kernel_rfl)
    (of_decide_eq_true (by kernel_rfl)) (by unfold Func.isWrapper; first | (rw [if_pos (by decide +kernel)]; kernel_rfl) | (rw [if_neg (by decide +kernel)]; exact ⟨rfl, rfl⟩))
    (fun os started H enc _ => lifted os started H enc)

theorem proved : Rows.PoolPlaysSaid := over
end Go.Proofs.Ytgfdiboaiifdnaa.poolPlays
