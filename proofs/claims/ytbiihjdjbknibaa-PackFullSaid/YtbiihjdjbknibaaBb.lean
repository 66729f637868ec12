/-
  Contracts: what a fact may be, what it takes, whether all of a list may be, in order.
-/
import Derived.Test.YtbiihjdjbknibaaBa
import Derived.Lib.QuietBelow
namespace Go.Proofs.Ytbiihjdjbknibaa
set_option maxRecDepth 100000
open Go.RowKit

def okF (l : List FT) : Bool := ordF l && l.all mayF
theorem okF_no {l : List FT} {k : Nat} (h : ordF (l.take k) = false ∨ ∃ f ∈ l, mayF f = false) : okF l = false := by
  unfold okF
  rcases h with h | ⟨f, hf, h⟩
  · cases e : ordF l
    · rfl
    · rw [ord_take e k] at h; cases h
  · have : l.all mayF = false := by
      cases e : l.all mayF
      · rfl
      · rw [List.all_eq_true.1 e f hf] at h; cases h
    rw [this, Bool.and_false]
theorem okF_yes {l : List FT} (h1 : ordF l = true) (h2 : ∀ f ∈ l, mayF f = true) : okF l = true := by
  unfold okF; rw [h1, List.all_eq_true.2 h2]; rfl

set_option maxHeartbeats 1600000 in
theorem pmay_any (f : FT) (A : Option Addr) (c : Nat) (w : World) (hn : f.k.n.size ≤ maxLen) (hv : f.v.length ≤ maxLen) :
    Calls Try.prog 59 #[.agg #[.int .i64 f.k.i, .int .u8 (f.k.t : Nat), .string f.k.n, .int .i64 f.k.c, .slice A f.v.length c]] w (NewBool w (mayF f)) := by
  have H0 : Hid (mayK f.k = false ∨ ¬ 1 ≤ f.v.length ∨ ¬ f.v.length ≤ 255 → mayF f = false) := mayF_no
  have H1 : Hid (mayK f.k = true → 1 ≤ f.v.length → f.v.length ≤ 255 → mayF f = true) := mayF_of
  have HM : Hid (∀ u, Calls Try.prog 52 #[.agg #[.int .i64 f.k.i, .int .u8 (f.k.t : Nat), .string f.k.n, .int .i64 f.k.c]] u (NewBool u (mayK f.k))) := fun u => may_any f.k u hn
  unfold maxLen at hv
  clear hn
  generalize mayF f = r at *
  obtain ⟨k, v⟩ := f
  dsimp only at *
  generalize mayK k = b at *
  obtain ⟨i, t, s, z⟩ := k
  dsimp only at *
  generalize v.length = n at *
  go_enter Try.func59, Try.ntmps59
  go_wp2_with fail
  refine (HM.out _).mono ?_
  rintro e w1 ⟨rfl, k1⟩
  have K1 : Hid (New w w1) := ((Kept.refl _ _).alloc _).new k1
  have B1 : Hid (Blk w1 w.heap.size 27 [.int .i64 i, .int .u8 (t : Nat), .string s, .int .i64 z, .slice A n c]) := (Blk.made w _ _).kept k1 id
  clear k1 HM
  have a4 : w1.cell? ⟨w.heap.size, 4, none⟩ = some (.slice A n c) := B1.out.cell 4
  cases b
  · have HF := Lib.hid (H0.out (.inl rfl))
    clear H0 H1
    go_wp2
    go_ret
    exact ⟨ret_bool HF.out.symm, K1.out⟩
  · by_cases h0 : 1 ≤ n
    · have d0 : decide (0 < (n : Int)) = true := decide_eq_true (by omega)
      by_cases h5 : n ≤ 255
      · have d5 : decide ((n : Int) ≤ 255) = true := decide_eq_true (by omega)
        have HF := Lib.hid (H1.out rfl h0 h5)
        clear H0 H1
        go_wp2
        go_ret
        exact ⟨ret_bool HF.out.symm, K1.out⟩
      · have d5 : decide ((n : Int) ≤ 255) = false := decide_eq_false (by omega)
        have HF := Lib.hid (H0.out (.inr (.inr h5)))
        clear H0 H1
        go_wp2
        go_ret
        exact ⟨ret_bool HF.out.symm, K1.out⟩
    · obtain rfl : n = 0 := by omega
      have HF := Lib.hid (H0.out (.inr (.inl h0)))
      clear H0 H1 h0
      go_wp2
      go_ret
      exact ⟨ret_bool HF.out.symm, K1.out⟩

theorem pmay_new (f : FT) (A : Option Addr) (c : Nat) (r : Bool) (h : mayF f = r) (hn : f.k.n.size ≤ maxLen) (hv : f.v.length ≤ maxLen) (u : World) :
    Calls Try.prog 59 #[.agg #[.int .i64 f.k.i, .int .u8 (f.k.t : Nat), .string f.k.n, .int .i64 f.k.c, .slice A f.v.length c]] u fun e w' => e = .returned (.bool r) ∧ Below u.heap.size u w' :=
  (pmay_any f A c u hn hv).mono fun e w' hh => ⟨by rw [hh.1, h], hh.2.below⟩

theorem pkE_cost {f : FT} : (pkE f.k = 0 → costF f = 2 + (pkL f.k).length + f.v.length) ∧ (pkE f.k ≠ 0 → costF f = 0) := by
  cases h : mayK f.k
  · have e : pkE f.k = 2 := by unfold pkE; rw [h]; rfl
    rw [e]
    exact ⟨fun h => by omega, fun _ => costF_no h⟩
  · rw [(pk_yes h).1, (pk_yes h).2]
    exact ⟨fun _ => costF_yes h, fun h => absurd rfl h⟩

set_option maxHeartbeats 1600000 in
theorem pcost_any (f : FT) (A : Option Addr) (c : Nat) (w : World) (hn : f.k.n.size ≤ maxLen) (hv : f.v.length ≤ 140737488351232) :
    Calls Try.prog 12 #[.agg #[.int .i64 f.k.i, .int .u8 (f.k.t : Nat), .string f.k.n, .int .i64 f.k.c, .slice A f.v.length c]] w (NewNum w (costF f : Nat)) := by
  have H0 := Lib.hid (pkE_cost (f := f))
  have HL := pkL_len f.k
  have HM : Hid (∀ u, Calls Try.prog 28 #[.agg #[.int .i64 f.k.i, .int .u8 (f.k.t : Nat), .string f.k.n, .int .i64 f.k.c]] u (RetB u (pkL f.k) (pkE f.k))) := fun u => putKey_any f.k u hn
  clear hn
  generalize costF f = r at *
  obtain ⟨k, v⟩ := f
  dsimp only at *
  generalize pkL k = kl at *
  generalize pkE k = ke at *
  obtain ⟨i, t, s, z⟩ := k
  dsimp only at *
  generalize v.length = n at *
  go_enter Try.func12, Try.ntmps12
  go_wp2_with fail
  refine (HM.out _).mono ?_
  rintro e w1 ⟨A1, c1, rfl, _, k1⟩
  have K1 : Hid (New w w1) := ((Kept.refl _ _).alloc _).new k1
  have B1 : Hid (Blk w1 w.heap.size 27 [.int .i64 i, .int .u8 (t : Nat), .string s, .int .i64 z, .slice A n c]) := (Blk.made w _ _).kept k1 id
  clear k1 HM
  have a4 : w1.cell? ⟨w.heap.size, 4, none⟩ = some (.slice A n c) := B1.out.cell 4
  by_cases h : ke = 0
  · have HR := Lib.hid (H0.out.1 h)
    subst h
    generalize kl.length = m at *
    have E : Hid (NewNum w (r : Nat) (.returned (.int .i64 (1 + (m : Int) + 1 + (n : Int)))) w1) := ⟨by rw [show (1 + (m : Int) + 1 + (n : Int)) = ((r : Nat) : Int) by rw [HR.out]; omega], K1.out⟩
    clear HR
    clear H0
    go_wp2
    go_ret
    exact E.out
  · have HR := Lib.hid (H0.out.2 h)
    have d0 : (ke == 0) = false := beq_eq_false_iff_ne.2 h
    clear H0 h
    go_wp2
    go_ret
    exact ⟨by rw [HR.out]; rfl, K1.out⟩

set_option maxHeartbeats 1600000 in
theorem rcost_any (f : FT) (A : Option Addr) (c : Nat) (w : World) (hn : f.k.n.size ≤ maxLen) (hv : f.v.length ≤ 140737488351232) :
    Calls Try.prog 13 #[.agg #[.int .i64 f.k.i, .int .u8 (f.k.t : Nat), .string f.k.n, .int .i64 f.k.c, .slice A f.v.length c]] w (NewNum w (costF f : Nat)) := by
  have H0 := Lib.hid (pkE_cost (f := f))
  have HL := pkL_len f.k
  have HM : Hid (∀ u, Calls Try.prog 29 #[.agg #[.int .i64 f.k.i, .int .u8 (f.k.t : Nat), .string f.k.n, .int .i64 f.k.c]] u (RetB u (pkL f.k) (pkE f.k))) := fun u => rputKey_any f.k u hn
  clear hn
  generalize costF f = r at *
  obtain ⟨k, v⟩ := f
  dsimp only at *
  generalize pkL k = kl at *
  generalize pkE k = ke at *
  obtain ⟨i, t, s, z⟩ := k
  dsimp only at *
  generalize v.length = n at *
  go_enter Try.func13, Try.ntmps13
  go_wp2_with fail
  refine (HM.out _).mono ?_
  rintro e w1 ⟨A1, c1, rfl, _, k1⟩
  have K1 : Hid (New w w1) := ((Kept.refl _ _).alloc _).new k1
  have B1 : Hid (Blk w1 w.heap.size 27 [.int .i64 i, .int .u8 (t : Nat), .string s, .int .i64 z, .slice A n c]) := (Blk.made w _ _).kept k1 id
  clear k1 HM
  have a4 : w1.cell? ⟨w.heap.size, 4, none⟩ = some (.slice A n c) := B1.out.cell 4
  by_cases h : ke = 0
  · have HR := Lib.hid (H0.out.1 h)
    subst h
    generalize kl.length = m at *
    clear H0
    go_wp2
    go_ret
    exact ⟨by rw [HR.out]; congr 2, K1.out⟩
  · have HR := Lib.hid (H0.out.2 h)
    have d0 : (ke == 0) = false := beq_eq_false_iff_ne.2 h
    clear H0 h
    go_wp2
    go_ret
    exact ⟨by rw [HR.out]; rfl, K1.out⟩

set_option maxHeartbeats 3200000 in
theorem pmayAll_any (A : Option Addr) (n c : Nat) (es : List FE) (w : World) (h : FIn w A n es) (hn : n ≤ maxLen) :
    Calls Try.prog 44 #[.slice A n c] w (NewBool w (okF (fts es))) := by
  have HL : Hid ((fts es).length = n) := by show _ = _; unfold fts; rw [List.length_map, h.len]
  have H := Lib.hid h
  unfold maxLen at hn
  clear h
  go_enter Try.func44, Try.ntmps44
  go_wp2_with fail
  go_loopw [6] (fun i wr => ∃ k : Nat, k ≤ n ∧ i = .int .i64 (k : Int) ∧ Hid (New w wr) ∧ Hid (ordF ((fts es).take k) = true) ∧ Hid (∀ f ∈ (fts es).take k, mayF f = true)) (fun i _ => n - (intOf i).toNat)
  case atStart => exact ⟨0, Nat.zero_le _, rfl, Kept.refl _ _, rfl, by intro f hf; simp at hf⟩
  case round =>
    obtain ⟨k, hk, rfl, HN, HO, HA⟩ := hrel
    by_cases hlt : k < n
    · obtain ⟨g, o, x, eA, hx, okx, x0, x1, x2, x3, x4⟩ := (H.out.new HN.out).at_ (i := k) hlt
      subst eA
      have hfx : (fts es)[k]? = some x.f := by unfold fts; rw [List.getElem?_map, hx]; rfl
      have HNO : Hid (mayF x.f = false → okF (fts es) = false) := fun h => okF_no (k := 0) (.inr ⟨x.f, List.mem_of_getElem? hfx, h⟩)
      have HMO : Hid (mayF x.f = true → ∀ f ∈ (fts es).take (k + 1), mayF f = true) := fun h => by
        rw [List.take_add_one, hfx]
        intro f hf
        rcases List.mem_append.1 hf with hf | hf
        · exact HA.out f hf
        · simp at hf; subst hf; exact h
      have s1 : (0 : Int) ≤ (k : Int) := by omega
      have s3 : (k : Int) < (n : Int) := by omega
      have p0 := fun d os => cell_regrown x0 d os
      have p1 := fun d os => cell_regrown x1 d os
      have p2 := fun d os => cell_regrown x2 d os
      have p3 := fun d os => cell_regrown x3 d os
      have p4 := fun d os => cell_regrown x4 d os
      have cM := Lib.hid (fun (d : Nat) (os : Array Obj) => Calls.regrown_of (d := d) (os := os) (pmay_new x.f x.A x.c _ rfl okx.2.2.2 (by have := okx.2.2.1; unfold maxLen; omega) (Go.Sort.grow (redrawn wr d) os)))
      generalize hmx : mayF x.f = b at *
      cases b
      · have HZ := Lib.hid (HNO.out rfl)
        clear x0 x1 x2 x3 x4 okx hx hfx hmx HMO HNO
        go_wp2_with fail
        refine wp_region_quiet_below (by kernel_rfl) (by kernel_rfl) ?_
        repeat (first | go_big_quiet_step (first
          | (go_at_call 59; exact cM.out _ _)) | quiet_step (first
          | (go_at_call 59; exact cM.out _ _)))
        refine wpQuiet_nil ?_
        intro _ hw'
        obtain ⟨⟨dq, osq⟩, hw''⟩ := hw'
        subst hw''
        have K9 : Hid (New w (Go.Sort.grow (redrawn wr dq) osq)) := new_regrown HN.out dq osq
        go_wp2
        go_ret
        exact ⟨by rw [HZ.out]; rfl, K9.out⟩
      · have HM1 := Lib.hid (HMO.out rfl)
        clear HMO HNO hmx
        by_cases hk0 : k = 0
        · subst hk0
          have HO1 : Hid (ordF ((fts es).take 1) = true) := by
            rw [Hid, List.take_add_one, hfx]; rfl
          clear p0 p1 p2 p3 p4
          have y0 : wr.cell? ⟨g, o, none⟩ = some (.int .i64 x.f.k.i) := by simpa using x0
          have y1 : wr.cell? ⟨g, o + 1, none⟩ = some (.int .u8 (x.f.k.t : Nat)) := by simpa using x1
          have y2 : wr.cell? ⟨g, o + 2, none⟩ = some (.string x.f.k.n) := by simpa using x2
          have y3 : wr.cell? ⟨g, o + 3, none⟩ = some (.int .i64 x.f.k.c) := by simpa using x3
          have y4 : wr.cell? ⟨g, o + 4, none⟩ = some (.slice x.A x.f.v.length x.c) := by simpa using x4
          have p0 := fun d os => cell_regrown y0 d os
          have p1 := fun d os => cell_regrown y1 d os
          have p2 := fun d os => cell_regrown y2 d os
          have p3 := fun d os => cell_regrown y3 d os
          have p4 := fun d os => cell_regrown y4 d os
          clear x0 x1 x2 x3 x4 y0 y1 y2 y3 y4 okx hx hfx
          have d0 : decide ((0 : Int) < ((0 : Nat) : Int)) = false := rfl
          go_wp2_with fail
          refine wp_region_quiet_below (by kernel_rfl) (by kernel_rfl) ?_
          repeat (first | go_big_quiet_step (first
            | (go_at_call 59; exact cM.out _ _)) | quiet_step (first
            | (go_at_call 59; exact cM.out _ _)))
          refine wpQuiet_nil ?_
          intro _ hw'
          obtain ⟨⟨dq, osq⟩, hw''⟩ := hw'
          subst hw''
          have K9 : Hid (New w (Go.Sort.grow (redrawn wr dq) osq)) := new_regrown HN.out dq osq
          clear cM p0 p1 p2 p3 p4
          go_wp2
          go_roundw
          case rel => exact ⟨1, by omega, by go_num, K9, HO1, HM1⟩
          case measure => simp [intOf]; omega
        · obtain ⟨j, rfl⟩ : ∃ j, k = j + 1 := ⟨k - 1, by omega⟩
          obtain ⟨g', o', y, eA', hy, oky, y0, y1, y2, y3, _⟩ := (H.out.new HN.out).at_ (i := j) (by omega)
          injection eA' with eA'
          injection eA' with e1 e2
          subst e1 e2
          have hfy : (fts es)[j]? = some y.f := by unfold fts; rw [List.getElem?_map, hy]; rfl
          have HB := Lib.hid (ord_upto HO.out hfy hfx)
          have HNO : Hid (ordF ((fts es).take (j + 2)) = false → okF (fts es) = false) := fun h => okF_no (.inl h)
          have cB := Lib.hid (fun (d : Nat) (os : Array Obj) => Calls.regrown_of (d := d) (os := os) (before_new y.f.k x.f.k _ rfl (Go.Sort.grow (redrawn wr d) os)))
          have r0 := fun d os => cell_regrown y0 d os
          have r1 := fun d os => cell_regrown y1 d os
          have r2 := fun d os => cell_regrown y2 d os
          have r3 := fun d os => cell_regrown y3 d os
          have s0 : IntKind.i64.wrap (j : Int) = (j : Int) := by rw [IntKind.wrap_i64]; omega
          have s5 : (0 : Int) ≤ (j : Int) := by omega
          have s6 : (j : Int) < (n : Int) := by omega
          have s7 : (0 : Int) < (j : Int) + 1 := by omega
          have s8 : ((j : Int) + 1).toNat = j + 1 := by omega
          have s9 : (0 : Int) ≤ (j : Int) + 1 := by omega
          have s10 : (j : Int) + 1 < (n : Int) := by omega
          clear s1 s3
          clear x0 x1 x2 x3 x4 y0 y1 y2 y3 okx oky hx hfx hy hfy
          generalize befK y.f.k x.f.k = b at *
          cases b
          · have HZ := Lib.hid (HNO.out HB.out)
            go_wp2_with fail
            refine wp_region_quiet_below (by kernel_rfl) (by kernel_rfl) ?_
            repeat (quiet_step (first
              | (go_at_call 59; exact cM.out _ _)
              | (go_at_call 60; exact cB.out _ _)))
            refine wpQuiet_nil ?_
            intro _ hw'
            obtain ⟨⟨dq, osq⟩, hw''⟩ := hw'
            subst hw''
            have K9 : Hid (New w (Go.Sort.grow (redrawn wr dq) osq)) := new_regrown HN.out dq osq
            go_wp2
            go_ret
            exact ⟨by rw [HZ.out]; rfl, K9.out⟩
          · go_wp2_with fail
            refine wp_region_quiet_below (by kernel_rfl) (by kernel_rfl) ?_
            repeat (quiet_step (first
              | (go_at_call 59; exact cM.out _ _)
              | (go_at_call 60; exact cB.out _ _)))
            refine wpQuiet_nil ?_
            intro _ hw'
            obtain ⟨⟨dq, osq⟩, hw''⟩ := hw'
            subst hw''
            have K9 : Hid (New w (Go.Sort.grow (redrawn wr dq) osq)) := new_regrown HN.out dq osq
            clear cM cB p0 p1 p2 p3 p4 r0 r1 r2 r3
            go_wp2
            go_roundw
            case rel => exact ⟨j + 2, by omega, by go_num, K9, HB, HM1⟩
            case measure => simp [intOf]; omega
    · have HZ : Hid (okF (fts es) = true) := by
        have h1 := HO.out
        have h2 := HA.out
        rw [List.take_of_length_le (by rw [HL.out]; omega)] at h1 h2
        exact okF_yes h1 h2
      clear HO HA
      go_wp2
      go_ret
      exact ⟨by rw [HZ.out]; rfl, HN.out⟩
end Go.Proofs.Ytbiihjdjbknibaa
