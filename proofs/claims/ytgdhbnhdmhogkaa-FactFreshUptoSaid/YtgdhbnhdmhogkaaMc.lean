/-
  Contracts over lists of facts: are they in order; where a key stands.
-/
import Derived.Test.YtgdhbnhdmhogkaaMb
import Derived.Lib.QuietBelow
namespace Go.Proofs.Ytgdhbnhdmhogkaa
open Go.RowKit

theorem before_new (a b : KY) (r : Bool) (h : befK a b = r) (u : World) :
    Calls Try.prog 28 #[.agg #[.int .i64 a.i, .int .u8 (a.t : Nat), .string a.n, .int .i64 a.c], .agg #[.int .i64 b.i, .int .u8 (b.t : Nat), .string b.n, .int .i64 b.c]] u fun e w' => e = .returned (.bool r) ∧ Below u.heap.size u w' :=
  (before_any a b u).mono fun e w' hh => ⟨by rw [hh.1, h], hh.2.below⟩

theorem new_regrown {w wr : World} (h : New w wr) (d : Nat) (os : Array Obj) : New w (Go.Sort.grow (redrawn wr d) os) := h.new (New.of_below (below_regrown wr d os))

set_option maxRecDepth 100000 in
set_option maxHeartbeats 3200000 in
theorem inOrder_any (A : Option Addr) (n c : Nat) (es : List FE) (w : World) (h : FIn w A n es) (hn : n ≤ maxLen) :
    Calls Try.prog 17 #[.slice A n c] w (NewBool w (ordF (fts es))) := by
  have HL : Hid ((fts es).length = n) := by show _ = _; unfold fts; rw [List.length_map, h.len]
  have H := Lib.hid h
  unfold maxLen at hn
  clear h
  go_enter Try.func17, Try.ntmps17
  go_wp2_with fail
  go_loopw [3] (fun i wr => ∃ k : Nat, (k + 1 ≤ n ∨ k = 0) ∧ i = .int .i64 ((k : Int) + 1) ∧ Hid (New w wr) ∧ Hid (ordF ((fts es).take (k + 1)) = true)) (fun i _ => n - (intOf i).toNat)
  case atStart =>
    refine ⟨0, .inr rfl, rfl, Kept.refl _ _, ?_⟩
    show ordF ((fts es).take 1) = true
    match fts es with
    | [] => rfl
    | [_] => rfl
    | _ :: _ :: _ => rfl
  case round =>
    obtain ⟨k, hk, rfl, HN, HO⟩ := hrel
    by_cases hlt : k + 1 < n
    · obtain ⟨g, o, x, eA, hx, _, x0, x1, x2, x3, _⟩ := (H.out.new HN.out).at_ (i := k) (by omega)
      obtain ⟨g', o', y, eA', hy, _, y0, y1, y2, y3, _⟩ := (H.out.new HN.out).at_ (i := k + 1) hlt
      subst eA
      injection eA' with eA'
      injection eA' with e1 e2
      subst e1 e2
      have hfx : (fts es)[k]? = some x.f := by unfold fts; rw [List.getElem?_map, hx]; rfl
      have hfy : (fts es)[k + 1]? = some y.f := by unfold fts; rw [List.getElem?_map, hy]; rfl
      have HB := Lib.hid (ord_upto HO.out hfx hfy)
      have HNO : Hid (ordF ((fts es).take (k + 2)) = false → ordF (fts es) = false) := by
        intro hh
        cases e : ordF (fts es) with
        | false => rfl
        | true => rw [ord_take e] at hh; cases hh
      clear hx hy hfx hfy
      have s0 : IntKind.i64.wrap (k : Int) = (k : Int) := by rw [IntKind.wrap_i64]; omega
      have s1 : (0 : Int) ≤ (k : Int) + 1 := by omega
      have s2 : ((k : Int) + 1).toNat = k + 1 := by omega
      have s3 : (k : Int) < (n : Int) := by omega
      have s4 : (k : Int) + 1 < (n : Int) := by omega
      have p0 := fun d os => cell_regrown x0 d os
      have p1 := fun d os => cell_regrown x1 d os
      have p2 := fun d os => cell_regrown x2 d os
      have p3 := fun d os => cell_regrown x3 d os
      have r0 := fun d os => cell_regrown y0 d os
      have r1 := fun d os => cell_regrown y1 d os
      have r2 := fun d os => cell_regrown y2 d os
      have r3 := fun d os => cell_regrown y3 d os
      have cB := Lib.hid (fun (d : Nat) (os : Array Obj) => Calls.regrown_of (d := d) (os := os) (before_new x.f.k y.f.k _ rfl (Go.Sort.grow (redrawn wr d) os)))
      clear x0 x1 x2 x3 y0 y1 y2 y3
      generalize befK x.f.k y.f.k = b at *
      cases b
      · have HZ := Lib.hid (HNO.out HB.out)
        go_wp2_with fail
        refine wp_region_quiet_below (by kernel_rfl) (by kernel_rfl) ?_
        repeat (quiet_step (first
          | (go_at_call 28; exact cB.out _ _)))
        refine wpQuiet_nil ?_
        intro _ hw'
        obtain ⟨⟨dq, osq⟩, hw''⟩ := hw'
        subst hw''
        have K9 : Hid (New w (Go.Sort.grow (redrawn wr dq) osq)) := new_regrown HN.out dq osq
        go_wp2
        go_ret
        exact ⟨by rw [HZ.out]; rfl, K9.out⟩
      · go_wp2_with fail
        refine wp_region_quiet_below (by kernel_rfl) (by kernel_rfl) ?_
        repeat (quiet_step (first
          | (go_at_call 28; exact cB.out _ _)))
        refine wpQuiet_nil ?_
        intro _ hw'
        obtain ⟨⟨dq, osq⟩, hw''⟩ := hw'
        subst hw''
        have K9 : Hid (New w (Go.Sort.grow (redrawn wr dq) osq)) := new_regrown HN.out dq osq
        clear cB p0 p1 p2 p3 r0 r1 r2 r3
        go_wp2
        go_roundw
        case rel => exact ⟨k + 1, .inl (by omega), by go_num, K9, HB⟩
        case measure => simp [intOf]; omega
    · have HZ : Hid (ordF (fts es) = true) := by
        have := HO.out
        rwa [List.take_of_length_le (by rw [HL.out]; omega)] at this
      clear HO
      go_wp2
      go_ret
      exact ⟨by rw [HZ.out]; rfl, HN.out⟩
end Go.Proofs.Ytgdhbnhdmhogkaa
