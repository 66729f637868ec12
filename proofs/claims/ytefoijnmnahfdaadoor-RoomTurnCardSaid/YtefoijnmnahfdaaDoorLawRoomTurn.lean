/-
  RoomTurn: what may be turned is at most Cap, fewer may be turned, too; for every geometry, every two numbers.
-/
import Derived.Test.YtefoijnmnahfdaaDoorCards
import Derived.Test.YtefoijnmnahfdaaDoorTie
import Derived.Test.YtefoijnmnahfdaaDoorRme
namespace Go.Proofs.YtefoijnmnahfdaaDoor.roomTurn
open Go.ChangeShapes Go.WideShapes Go.ChangeAt Go.RowKit

theorem own : ownKnob Tryd.prog.godebug = none := by kernel_rfl
theorem laidOut : laidOutB Tryd.prog = true := by kernel_rfl

set_option maxHeartbeats 3200000 in
theorem walk (a b c d f g : Int) (w : World) (hB : Bd w) (_ : -9223372036854775808 ≤ f ∧ f ≤ 9223372036854775807) (_ : -9223372036854775808 ≤ g ∧ g ≤ 9223372036854775807) :
    Calls Tryd.prog 4 #[.agg #[.int .i64 a, .int .i64 b, .int .i64 c, .int .i64 d], .int .i64 f, .int .i64 g] w (True1 w) := by
  obtain ⟨w1, hw1⟩ : ∃ w1, w1 = w.alloc (.cells #[.int .i64 a, .int .i64 b, .int .i64 c, .int .i64 d] 23) := ⟨_, rfl⟩
  have N1 : Hid (New w w1) := by rw [hw1]; exact (Kept.refl _ _).alloc _
  have X1 : Hid (Box w1 w.heap.size a b c d) := by rw [hw1]; exact box_made _ _ _ _ _ _
  have HW := Lib.hid hw1
  have B1 := Lib.hid (hB.new N1.out)
  clear hw1 hB
  cases hx : turnB a b c d f
  · obtain ⟨x0, x1, x2, x3⟩ := X1.out
    go_enter Tryd.func4, Tryd.ntmps4
    go_upto_region 1 with fail
    rw [← HW.out]
    clear HW
    go_wp2_with fail
    refine (turn_any _ _ _ _ _ _ B1.out).mono ?_
    rintro e w2 ⟨rfl, k2⟩
    rw [hx]
    go_wp2_with (go_at_call 7; refine (works_any _ (B1.out.new k2)).mono ?_; rintro e w9 ⟨rfl, k9⟩)
    go_ret
    exact ⟨rfl, (N1.out.new k2).new k9⟩
  · have HTL : Hid (∀ x : Int, 0 ≤ x → x ≤ f → turnB a b c d x = true) := fun x h0 h1 => turn_less hx h0 h1
    have htc := turn_cap hx
    obtain ⟨h1, h2, h3⟩ := turn_yes hx
    obtain ⟨h4, h5, h6, h7⟩ := wiB_yes h1
    have hw := want_le a b c d f
    have dc : decide (f ≤ capI a b c d) = true := decide_eq_true htc
    have dw : decide (2 * wantI a b c d f + 2 ≤ a - d) = true := decide_eq_true h3
    have q0 := wrapI (x := 2 * wantI a b c d f) (by omega) (by omega)
    have m0 := wrapJ (x := 2 * wantI a b c d f) (by omega) (by omega)
    have q1 := wrapI (x := 2 * wantI a b c d f + 2) (by omega) (by omega)
    have m1 := wrapJ (x := 2 * wantI a b c d f + 2) (by omega) (by omega)
    have q2 := wrapI (x := a - d) (by omega) (by omega)
    have m2 := wrapJ (x := a - d) (by omega) (by omega)
    have cC0 : Hid (∀ u : World, Bd u → Calls Tryd.prog 9 #[.agg #[.int .i64 a, .int .i64 b, .int .i64 c, .int .i64 d]] u (IntN u (capI a b c d))) := fun u hu => cap_any a b c d u hu
    have cW0 : Hid (∀ u : World, Bd u → Calls Tryd.prog 8 #[.agg #[.int .i64 a, .int .i64 b, .int .i64 c, .int .i64 d], .int .i64 f] u (IntN u (wantI a b c d f))) := fun u hu => want_any a b c d f u hu
    have HF := Lib.hid h2
    clear h1 h2 h3 h4 h5 h6 h7 hw htc
    generalize wantI a b c d f = v at *
    generalize capI a b c d = cv at *
    by_cases hg : g < 0
    · have d0 : decide (g < 0) = true := decide_eq_true hg
      have hh : 0 ≤ f.tdiv 2 ∧ f.tdiv 2 ≤ f := ⟨Int.tdiv_nonneg HF.out (by decide), Int.tdiv_le_self _ HF.out⟩
      have q5 : IntKind.i64.wrap (f.tdiv 2) = f.tdiv 2 := by rw [IntKind.wrap_i64]; omega
      have m5 : wrap64 (f.tdiv 2) = f.tdiv 2 := by unfold wrap64; omega
      have ht := HTL.out _ hh.1 hh.2
      clear hh
      clear hg
      have cT0 : Hid (∀ u : World, Bd u → Calls Tryd.prog 10 #[.agg #[.int .i64 a, .int .i64 b, .int .i64 c, .int .i64 d], .int .i64 (f.tdiv 2)] u (BoolN u true)) := fun u hu => by have := turn_any a b c d ((f.tdiv 2)) u hu; rw [ht] at this; exact this
      clear HTL
      obtain ⟨x0, x1, x2, x3⟩ := X1.out
      go_enter Tryd.func4, Tryd.ntmps4
      go_upto_region 1 with fail
      rw [← HW.out]
      clear HW
      go_wp2_with fail
      refine (turn_any _ _ _ _ _ _ B1.out).mono ?_
      rintro e w2 ⟨rfl, k2⟩
      rw [hx]
      clear x0 x1 x2 x3
      have X2 := Lib.hid (X1.out.new k2)
      have B2 := Lib.hid (B1.out.new k2)
      have N2 := Lib.hid (N1.out.new k2)
      clear k2 X1 B1 N1
      obtain ⟨x0, x1, x2, x3⟩ := X2.out
      have cC := Lib.hid (fun (p : Nat) (os : Array Obj) => Calls.regrown_of (d := p) (os := os) ((cC0.out (Go.Sort.grow (redrawn w2 p) os) (B2.out.new (New.of_below (below_regrown w2 p os)))).mono fun e w' h => ⟨h.1, h.2.below⟩))
      have cW := Lib.hid (fun (p : Nat) (os : Array Obj) => Calls.regrown_of (d := p) (os := os) ((cW0.out (Go.Sort.grow (redrawn w2 p) os) (B2.out.new (New.of_below (below_regrown w2 p os)))).mono fun e w' h => ⟨h.1, h.2.below⟩))
      have cT := Lib.hid (fun (p : Nat) (os : Array Obj) => Calls.regrown_of (d := p) (os := os) ((cT0.out (Go.Sort.grow (redrawn w2 p) os) (B2.out.new (New.of_below (below_regrown w2 p os)))).mono fun e w' h => ⟨h.1, h.2.below⟩))
      have cK := Lib.hid (fun (p : Nat) (os : Array Obj) => Calls.regrown_of (d := p) (os := os) ((works_any (Go.Sort.grow (redrawn w2 p) os) (B2.out.new (New.of_below (below_regrown w2 p os)))).mono fun e w' h => ⟨h.1, h.2.below⟩))
      clear hx
      go_wp2
      have g0 := fun p os => cell_regrown x0 p os
      have g1 := fun p os => cell_regrown x1 p os
      have g2 := fun p os => cell_regrown x2 p os
      have g3 := fun p os => cell_regrown x3 p os
      clear x0 x1 x2 x3 X2 B2
      refine wp_region_quiet_below (by kernel_rfl) (by kernel_rfl) ?_
      repeat (quiet_step (first
        | (go_at_call 9; exact cC.out _ _)
        | (go_at_call 10; exact cT.out _ _)
        | (go_at_call 8; exact cW.out _ _)
        | (go_at_call 7; exact cK.out _ _)))
      refine wpQuiet_nil ?_
      intro _ hw'
      obtain ⟨⟨dq, osq⟩, hw''⟩ := hw'
      subst hw''
      have N3 : Hid (New w (Go.Sort.grow (redrawn w2 dq) osq)) := N2.out.new (New.of_below (below_regrown w2 dq osq))
      go_wp2
      go_ret
      exact ⟨rfl, N3.out⟩
    · have d0 : decide (g < 0) = false := decide_eq_false hg
      by_cases hm : f < g
      · have d1 : decide (f < g) = true := decide_eq_true hm
        have hh : 0 ≤ f.tdiv 2 ∧ f.tdiv 2 ≤ f := ⟨Int.tdiv_nonneg HF.out (by decide), Int.tdiv_le_self _ HF.out⟩
        have q5 : IntKind.i64.wrap (f.tdiv 2) = f.tdiv 2 := by rw [IntKind.wrap_i64]; omega
        have m5 : wrap64 (f.tdiv 2) = f.tdiv 2 := by unfold wrap64; omega
        have ht := HTL.out _ hh.1 hh.2
        clear hh
        clear hg hm
        have cT0 : Hid (∀ u : World, Bd u → Calls Tryd.prog 10 #[.agg #[.int .i64 a, .int .i64 b, .int .i64 c, .int .i64 d], .int .i64 (f.tdiv 2)] u (BoolN u true)) := fun u hu => by have := turn_any a b c d ((f.tdiv 2)) u hu; rw [ht] at this; exact this
        clear HTL
        obtain ⟨x0, x1, x2, x3⟩ := X1.out
        go_enter Tryd.func4, Tryd.ntmps4
        go_upto_region 1 with fail
        rw [← HW.out]
        clear HW
        go_wp2_with fail
        refine (turn_any _ _ _ _ _ _ B1.out).mono ?_
        rintro e w2 ⟨rfl, k2⟩
        rw [hx]
        clear x0 x1 x2 x3
        have X2 := Lib.hid (X1.out.new k2)
        have B2 := Lib.hid (B1.out.new k2)
        have N2 := Lib.hid (N1.out.new k2)
        clear k2 X1 B1 N1
        obtain ⟨x0, x1, x2, x3⟩ := X2.out
        have cC := Lib.hid (fun (p : Nat) (os : Array Obj) => Calls.regrown_of (d := p) (os := os) ((cC0.out (Go.Sort.grow (redrawn w2 p) os) (B2.out.new (New.of_below (below_regrown w2 p os)))).mono fun e w' h => ⟨h.1, h.2.below⟩))
        have cW := Lib.hid (fun (p : Nat) (os : Array Obj) => Calls.regrown_of (d := p) (os := os) ((cW0.out (Go.Sort.grow (redrawn w2 p) os) (B2.out.new (New.of_below (below_regrown w2 p os)))).mono fun e w' h => ⟨h.1, h.2.below⟩))
        have cT := Lib.hid (fun (p : Nat) (os : Array Obj) => Calls.regrown_of (d := p) (os := os) ((cT0.out (Go.Sort.grow (redrawn w2 p) os) (B2.out.new (New.of_below (below_regrown w2 p os)))).mono fun e w' h => ⟨h.1, h.2.below⟩))
        have cK := Lib.hid (fun (p : Nat) (os : Array Obj) => Calls.regrown_of (d := p) (os := os) ((works_any (Go.Sort.grow (redrawn w2 p) os) (B2.out.new (New.of_below (below_regrown w2 p os)))).mono fun e w' h => ⟨h.1, h.2.below⟩))
        clear hx
        go_wp2
        have g0 := fun p os => cell_regrown x0 p os
        have g1 := fun p os => cell_regrown x1 p os
        have g2 := fun p os => cell_regrown x2 p os
        have g3 := fun p os => cell_regrown x3 p os
        clear x0 x1 x2 x3 X2 B2
        refine wp_region_quiet_below (by kernel_rfl) (by kernel_rfl) ?_
        repeat (quiet_step (first
          | (go_at_call 9; exact cC.out _ _)
          | (go_at_call 10; exact cT.out _ _)
          | (go_at_call 8; exact cW.out _ _)
          | (go_at_call 7; exact cK.out _ _)))
        refine wpQuiet_nil ?_
        intro _ hw'
        obtain ⟨⟨dq, osq⟩, hw''⟩ := hw'
        subst hw''
        have N3 : Hid (New w (Go.Sort.grow (redrawn w2 dq) osq)) := N2.out.new (New.of_below (below_regrown w2 dq osq))
        go_wp2
        go_ret
        exact ⟨rfl, N3.out⟩
      · have d1 : decide (f < g) = false := decide_eq_false hm
        have ht := HTL.out g (by omega) (by omega)
        clear hg hm
        have cT0 : Hid (∀ u : World, Bd u → Calls Tryd.prog 10 #[.agg #[.int .i64 a, .int .i64 b, .int .i64 c, .int .i64 d], .int .i64 g] u (BoolN u true)) := fun u hu => by have := turn_any a b c d (g) u hu; rw [ht] at this; exact this
        clear HTL
        obtain ⟨x0, x1, x2, x3⟩ := X1.out
        go_enter Tryd.func4, Tryd.ntmps4
        go_upto_region 1 with fail
        rw [← HW.out]
        clear HW
        go_wp2_with fail
        refine (turn_any _ _ _ _ _ _ B1.out).mono ?_
        rintro e w2 ⟨rfl, k2⟩
        rw [hx]
        clear x0 x1 x2 x3
        have X2 := Lib.hid (X1.out.new k2)
        have B2 := Lib.hid (B1.out.new k2)
        have N2 := Lib.hid (N1.out.new k2)
        clear k2 X1 B1 N1
        obtain ⟨x0, x1, x2, x3⟩ := X2.out
        have cC := Lib.hid (fun (p : Nat) (os : Array Obj) => Calls.regrown_of (d := p) (os := os) ((cC0.out (Go.Sort.grow (redrawn w2 p) os) (B2.out.new (New.of_below (below_regrown w2 p os)))).mono fun e w' h => ⟨h.1, h.2.below⟩))
        have cW := Lib.hid (fun (p : Nat) (os : Array Obj) => Calls.regrown_of (d := p) (os := os) ((cW0.out (Go.Sort.grow (redrawn w2 p) os) (B2.out.new (New.of_below (below_regrown w2 p os)))).mono fun e w' h => ⟨h.1, h.2.below⟩))
        have cT := Lib.hid (fun (p : Nat) (os : Array Obj) => Calls.regrown_of (d := p) (os := os) ((cT0.out (Go.Sort.grow (redrawn w2 p) os) (B2.out.new (New.of_below (below_regrown w2 p os)))).mono fun e w' h => ⟨h.1, h.2.below⟩))
        have cK := Lib.hid (fun (p : Nat) (os : Array Obj) => Calls.regrown_of (d := p) (os := os) ((works_any (Go.Sort.grow (redrawn w2 p) os) (B2.out.new (New.of_below (below_regrown w2 p os)))).mono fun e w' h => ⟨h.1, h.2.below⟩))
        clear hx
        go_wp2
        have g0 := fun p os => cell_regrown x0 p os
        have g1 := fun p os => cell_regrown x1 p os
        have g2 := fun p os => cell_regrown x2 p os
        have g3 := fun p os => cell_regrown x3 p os
        clear x0 x1 x2 x3 X2 B2
        refine wp_region_quiet_below (by kernel_rfl) (by kernel_rfl) ?_
        repeat (quiet_step (first
          | (go_at_call 9; exact cC.out _ _)
          | (go_at_call 10; exact cT.out _ _)
          | (go_at_call 8; exact cW.out _ _)
          | (go_at_call 7; exact cK.out _ _)))
        refine wpQuiet_nil ?_
        intro _ hw'
        obtain ⟨⟨dq, osq⟩, hw''⟩ := hw'
        subst hw''
        have N3 : Hid (New w (Go.Sort.grow (redrawn w2 dq) osq)) := N2.out.new (New.of_below (below_regrown w2 dq osq))
        go_wp2
        go_ret
        exact ⟨rfl, N3.out⟩

/-- A world for the witness: the settled one, with the variable as its initialiser lays it. -/
noncomputable def laidWorld (os : Os) : World :=
  { World.holding Tryd.prog os ⟨#[], #[], []⟩ with heap := (World.holding Tryd.prog os ⟨#[], #[], []⟩).heap.modify 0 fun
      | .cells _ t frozen => .cells #[.int .i64 8, .int .i64 64, .int .i64 4, .int .i64 32, .int .i64 128, .int .i64 256, .int .i64 0, .int .i64 4] t frozen
      | o => o }
theorem laid_met (os : Os) : laidMet Tryd.prog Rows.roomTurnRow.laid ((laidWorld os).forCall (fun _ _ => 0) ⟨#[], #[.agg #[.int .i64 0, .int .i64 0, .int .i64 0, .int .i64 0], .int .i64 0, .int .i64 0], []⟩).memory :=
  laidMet_of_run' 8 (by kernel_rfl) (by kernel_rfl)
theorem reads (os : Os) {H : Type} (enc : TypeId × Value → H) : ∃ places, DataW.whole enc Tryd.prog ((laidWorld os).forCall (fun _ _ => 0) ⟨#[], #[.agg #[.int .i64 0, .int .i64 0, .int .i64 0, .int .i64 0], .int .i64 0, .int .i64 0], []⟩).memory Tryd.f4.params.toList Rows.roomTurnSpec.vars false (#[.agg #[.int .i64 0, .int .i64 0, .int .i64 0, .int .i64 0], .int .i64 0, .int .i64 0] : Array Value).toList 8 = some ([.agg [.lit (.int .i64 0), .lit (.int .i64 0), .lit (.int .i64 0), .lit (.int .i64 0)], .lit (.int .i64 0), .lit (.int .i64 0)], [], places) :=
  ⟨[], by kernel_rfl⟩

set_option maxRecDepth 100000 in
theorem lifted (os : Os) (started : os.Started) (H : Type) (enc : TypeId × Value → H) (F : Stop.Interp) :
    ReturnsInHanded {} Tryd.checked os 4 .any ((OpenSpec.ofChange Rows.roomTurnSpec).preRow enc Tryd.prog Tryd.f4 Rows.roomTurnRow.domain false Rows.roomTurnRow.laid) (((OpenSpec.ofChange Rows.roomTurnSpec).at F).post enc Tryd.prog Tryd.f4 false true false false) := by
  obtain ⟨places, hx⟩ := reads os enc
  refine lift_row (C := Tryd.checked) (s := Rows.roomTurnSpec) (tb := 4) own started (by kernel_rfl) Tryd.func4
    (witness_row_at (enc := enc) (C := Tryd.checked) false (laidWorld os) #[.agg #[.int .i64 0, .int .i64 0, .int .i64 0, .int .i64 0], .int .i64 0, .int .i64 0] rfl (by kernel_rfl) (by kernel_rfl) (by kernel_rfl)
      (OpenSpec.preRow_of_cond 8 hx (by kernel_rfl) (fun k hk => by cases hk) (by kernel_rfl) (laid_met os)))
    rfl (by kernel_rfl) Tryd.underlying4 ?_ laidOut (of_decide_eq_true (by kernel_rfl)) ?_
  · intro ds hd
    match ds, hd with
    | [d0, d1, d2], _ => exact ⟨rfl, rfl, rfl⟩
  · intro W base args ds hA hL
    have hA : Args enc Tryd.prog W base Tryd.f4.params.toList args.toList ds := hA
    rw [Tryd.params4] at hA
    obtain ⟨v0, vs0, d0, ds0, p0, hargs, rfl, a0, hA⟩ := hA.cons_
    obtain ⟨v1, vs1, d1, ds1, p1, rfl, rfl, a1, hA⟩ := hA.cons_
    obtain ⟨v2, vs2, d2, ds2, p2, rfl, rfl, a2, hA⟩ := hA.cons_
    obtain ⟨rfl, rfl⟩ := hA.nil_
    obtain rfl : args = #[v0, v1, v2] := by cases args; simp_all
    obtain ⟨x0, y0, z0, u0, rfl⟩ := a0.geo10
    obtain ⟨x1, rfl, w1⟩ := a1.int_ Tryd.underlying3
    obtain ⟨x2, rfl, w2⟩ := a2.int_ Tryd.underlying3
    exact walk x0 y0 z0 u0 x1 x2 W (bd_of hL) (i64_bounds w1) (i64_bounds w2)

theorem said : Rows.RoomTurnSaid :=
  OpenClaim.holds_of_cond 4 Tryd.f4 rfl rfl rfl rfl rfl rfl rfl ⟨rfl, rfl, rfl, rfl, rfl⟩ rfl rfl rfl rfl rfl (by kernel_rfl) Tryd.func4 (by kernel_rfl)
    (of_decide_eq_true (by kernel_rfl)) (by unfold Func.isWrapper; first | (rw [if_pos (by decide +kernel)]; kernel_rfl) | (rw [if_neg (by decide +kernel)]; exact ⟨rfl, rfl⟩))
    (fun os started H enc _ F => by rw [OpenClaim.pre_eq_preRow]; exact lifted os started H enc F)

/-- No parameter wants a stand-in; the program's own looks are off. -/
theorem plain (f : FuncId) (fn : Func) (hf : Tryd.pinned.checked.prog.funcNamed "carrack/carracklaw10.RoomTurn" = some f) (hfn : Tryd.pinned.checked.prog.funcs[f]? = some fn) :
    false = Tryd.pinned.checked.prog.looks [] ∧ ∀ (j : Nat) t, fn.params[j]? = some t → Tryd.pinned.checked.prog.wantsStandIn t = false := by
  obtain rfl : f = 4 := Option.some.inj ((show Tryd.prog.funcNamed "carrack/carracklaw10.RoomTurn" = some 4 by kernel_rfl).symm.trans hf) |>.symm
  obtain rfl : fn = Tryd.f4 := (Option.some.inj (Tryd.func4.symm.trans hfn)).symm
  refine ⟨by kernel_rfl, fun j t ht => ?_⟩
  rw [Tryd.params4] at ht
  have hm : t ∈ [23, 3, 3] := by simpa using Array.mem_of_getElem? ht
  have hall : ([23, 3, 3].all fun u => !Tryd.prog.wantsStandIn u) = true := by kernel_rfl
  exact (show Tryd.prog.wantsStandIn t = false by simpa using List.all_eq_true.1 hall t hm)

theorem card : Rows.RoomTurnCardSaid :=
  Claim7.holds_tied_plain_at .later [] _ _ _ _ said (fun _ h => by cases h) (by kernel_rfl) (fun _ h => by cases h) roomTurn_row_tie rfl ⟨rfl, rfl⟩ (by kernel_rfl) rfl plain (by kernel_rfl)
end Go.Proofs.YtefoijnmnahfdaaDoor.roomTurn
