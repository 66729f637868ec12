/-
  Contracts: the reference's order, changes and finding; lists of facts compared.
-/
import Derived.Test.YtbiihjdjbknibaaOb
namespace Go.Proofs.Ytbiihjdjbknibaa
set_option maxRecDepth 100000
open Go.ChangeShapes Go.WideShapes Go.ChangeAt Go.RowKit

theorem rbefore_new (a b : KY) (r : Bool) (h : befK a b = r) (ha : a.n.size ≤ maxLen) (hb : b.n.size ≤ maxLen) (u : World) :
    Calls Try.prog 58 #[.agg #[.int .i64 a.i, .int .u8 (a.t : Nat), .string a.n, .int .i64 a.c], .agg #[.int .i64 b.i, .int .u8 (b.t : Nat), .string b.n, .int .i64 b.c]] u fun e w' => e = .returned (.bool r) ∧ Below u.heap.size u w' :=
  (rbefore_any a b u ha hb).mono fun e w' hh => ⟨by rw [hh.1, h], hh.2.below⟩

set_option maxRecDepth 100000 in
set_option maxHeartbeats 3200000 in
theorem rordered_any (A : Option Addr) (n c : Nat) (es : List FE) (w : World) (h : FIn w A n es) (hn : n ≤ maxLen) :
    Calls Try.prog 41 #[.slice A n c] w (NewBool w (ordF (fts es))) := by
  have HL : Hid ((fts es).length = n) := by show _ = _; unfold fts; rw [List.length_map, h.len]
  have H := Lib.hid h
  unfold maxLen at hn
  clear h
  go_enter Try.func41, Try.ntmps41
  go_wp2_with fail
  go_loopw [3] (fun i wr => ∃ k : Nat, (k + 1 ≤ n ∨ k = 0) ∧ i = .int .i64 ((k : Int) + 1) ∧ Hid (New w wr) ∧ Hid (ordF ((fts es).take (k + 1)) = true)) (fun i _ => n - (intOf i).toNat)
  case atStart =>
    refine ⟨0, .inr rfl, rfl, Kept.refl _ _, ?_⟩
    show ordF ((fts es).take 1) = true
    match fts es with
    | [] => rfl
    | [_] => rfl
    | _ :: _ :: _ => rfl
  case round =>
    obtain ⟨k, hk, rfl, HN, HO⟩ := hrel
    by_cases hlt : k + 1 < n
    · obtain ⟨g, o, x, eA, hx, okx, x0, x1, x2, x3, _⟩ := (H.out.new HN.out).at_ (i := k) (by omega)
      obtain ⟨g', o', y, eA', hy, oky, y0, y1, y2, y3, _⟩ := (H.out.new HN.out).at_ (i := k + 1) hlt
      subst eA
      injection eA' with eA'
      injection eA' with e1 e2
      subst e1 e2
      have hfx : (fts es)[k]? = some x.f := by unfold fts; rw [List.getElem?_map, hx]; rfl
      have hfy : (fts es)[k + 1]? = some y.f := by unfold fts; rw [List.getElem?_map, hy]; rfl
      have HB := Lib.hid (ord_upto HO.out hfx hfy)
      have HNO : Hid (ordF ((fts es).take (k + 2)) = false → ordF (fts es) = false) := by
        intro hh
        cases e : ordF (fts es) with
        | false => rfl
        | true => rw [ord_take e] at hh; cases hh
      have s0 : IntKind.i64.wrap (k : Int) = (k : Int) := by rw [IntKind.wrap_i64]; omega
      have s1 : (0 : Int) ≤ (k : Int) + 1 := by omega
      have s2 : ((k : Int) + 1).toNat = k + 1 := by omega
      have s3 : (k : Int) < (n : Int) := by omega
      have s4 : (k : Int) + 1 < (n : Int) := by omega
      have p0 := fun d os => cell_regrown x0 d os
      have p1 := fun d os => cell_regrown x1 d os
      have p2 := fun d os => cell_regrown x2 d os
      have p3 := fun d os => cell_regrown x3 d os
      have r0 := fun d os => cell_regrown y0 d os
      have r1 := fun d os => cell_regrown y1 d os
      have r2 := fun d os => cell_regrown y2 d os
      have r3 := fun d os => cell_regrown y3 d os
      have cB := Lib.hid (fun (d : Nat) (os : Array Obj) => Calls.regrown_of (d := d) (os := os) (rbefore_new x.f.k y.f.k _ rfl okx.2.2.2 oky.2.2.2 (Go.Sort.grow (redrawn wr d) os)))
      clear x0 x1 x2 x3 y0 y1 y2 y3 okx oky hx hy hfx hfy
      generalize befK x.f.k y.f.k = b at *
      cases b
      · have HZ := Lib.hid (HNO.out HB.out)
        go_wp2_with fail
        refine wp_region_quiet_below (by kernel_rfl) (by kernel_rfl) ?_
        repeat (quiet_step (first
          | (go_at_call 58; exact cB.out _ _)))
        refine wpQuiet_nil ?_
        intro _ hw'
        obtain ⟨⟨dq, osq⟩, hw''⟩ := hw'
        subst hw''
        have K9 : Hid (New w (Go.Sort.grow (redrawn wr dq) osq)) := new_regrown HN.out dq osq
        go_wp2
        go_ret
        exact ⟨by rw [HZ.out]; rfl, K9.out⟩
      · go_wp2_with fail
        refine wp_region_quiet_below (by kernel_rfl) (by kernel_rfl) ?_
        repeat (quiet_step (first
          | (go_at_call 58; exact cB.out _ _)))
        refine wpQuiet_nil ?_
        intro _ hw'
        obtain ⟨⟨dq, osq⟩, hw''⟩ := hw'
        subst hw''
        have K9 : Hid (New w (Go.Sort.grow (redrawn wr dq) osq)) := new_regrown HN.out dq osq
        clear cB p0 p1 p2 p3 r0 r1 r2 r3
        go_wp2
        go_roundw
        case rel => exact ⟨k + 1, .inl (by omega), by go_num, K9, HB⟩
        case measure => simp [intOf]; omega
    · have HZ : Hid (ordF (fts es) = true) := by
        have := HO.out
        rwa [List.take_of_length_le (by rw [HL.out]; omega)] at this
      clear HO
      go_wp2
      go_ret
      exact ⟨by rw [HZ.out]; rfl, HN.out⟩

theorem fes_one : ∀ (es : List FE), ∀ u ∈ fes es, u.oneCell' = true
  | [], u, h => by cases h
  | e :: r, u, h => by
    rcases List.mem_append.1 h with h | h
    · simp only [FE.cells, kcells, List.cons_append, List.nil_append, List.mem_cons, List.not_mem_nil, or_false] at h
      rcases h with rfl | rfl | rfl | rfl | rfl <;> rfl
    · exact fes_one r u h
/-- A whole list of facts behind none. -/
theorem wpList_append_facts {w : World} {ops : Array Oper} {rest : List Oper} {o : Oper} {a : Act} {Q : Exit → Act → World → Prop} (hgd : o.guard = none) (s x : Operand)
    (ho : o.op = .call { callee := .builtin .append, args := #[s, x], argTypes := #[22, 22] })
    (hsv : a.eval s = .slice none 0 0) (A' : Option Addr) (m c' : Nat) (es : List FE) (hx : a.eval x = .slice A' m c') (hr : FIn w A' m es) (hn : m * 64 ≤ 140737488355328)
    (h : ∀ A2 c2 w', Hid (OwnV w' 27 5 w.heap.size A2 m c2 (fes es)) → Hid (New w w') → wpList Try.prog ops Q rest (a.put o.dst (.slice A2 m c2)) w') :
    wpList Try.prog ops Q (o :: rest) a w := by
  obtain ⟨i0, hi, hz0, hz1, hz2⟩ := info_parts info_fact
  refine wpList_append_rowV w hgd s x 22 ho 27 i0 (.agg #[.int .i64 0, .int .u8 0, .string ⟨#[]⟩, .int .i64 0, .slice none 0 0]) Try.underlying22 hi hz0 (by rw [hz1]; rfl) (by rw [hz1]; omega) w.heap.size none 0 0 [] hsv (OwnV.nil _ _ _ _) A' m c' (fes es) hx (by rw [hz1]; exact hr.1) (fes_one es) (by rw [hz2]; omega) (by omega) (Nat.le_refl _) ?_
  intro A2 c2 w' h3 h4 _
  rw [Nat.zero_add, hz1] at h3
  rw [Nat.zero_add]
  exact h A2 c2 w' h3 ((Kept.refl _ _).grown h4.out (by simp))

theorem apF_len (l : List FT) (cs : List CT) : (apF l cs).length ≤ l.length + cs.length := by
  induction cs generalizing l with
  | nil => exact Nat.le_refl _
  | cons c r ih =>
    have h1 := ih (updF l c)
    have h2 := upd_len l c
    show (apF (updF l c) r).length ≤ _
    rw [List.length_cons]
    omega
theorem apF_snoc (l : List FT) (cs : List CT) (c : CT) : apF l (cs ++ [c]) = updF (apF l cs) c := by
  unfold apF
  rw [List.foldl_append]
  rfl

set_option maxRecDepth 100000 in
set_option maxHeartbeats 3200000 in
theorem rapply_any (A : Option Addr) (n c : Nat) (es : List FE) (A' : Option Addr) (n' c' : Nat) (cs : List CE) (w : World) (h : FIn w A n es) (hn : n ≤ maxLen) (hcs : CIn w A' n' cs) (hb : (n + n') * 64 ≤ 140737488355328) :
    Calls Try.prog 18 #[.slice A n c, .slice A' n' c'] w (OneP w (if ordF (fts es) = true then apF (fts es) (cts cs) else [])) := by
  have CO := Lib.hid (rordered_any A n c es w h hn)
  cases ho : ordF (fts es) with
  | false =>
    rw [ho] at CO
    rw [if_neg (by simp)]
    clear h hcs ho
    go_enter Try.func18, Try.ntmps18
    go_wp2_with fail
    refine CO.out.mono ?_
    rintro e w2 ⟨rfl, k2⟩
    have K2 := Lib.hid k2
    clear k2 CO
    go_wp2
    go_ret
    exact ⟨none, 0, [], rfl, FIn.nil _ _, rfl, K2.out, Nat.le_refl _, by simp⟩
  | true =>
    rw [ho] at CO
    rw [if_pos rfl]
    have HO := Lib.hid ho
    have H := Lib.hid h
    have HC := Lib.hid hcs
    have HL : Hid ((fts es).length = n) := by rw [Hid, fts_lenE, h.len]
    have HCL : Hid ((cts cs).length = n') := by show _ = _; unfold cts; rw [List.length_map, hcs.len]
    have hnb : n * 64 ≤ 140737488355328 := by omega
    have hnm : n + n' ≤ 2199023255552 := by omega
    clear h hcs ho
    go_enter Try.func18, Try.ntmps18
    go_wp2_with fail
    refine CO.out.mono ?_
    rintro e w2 ⟨rfl, k2⟩
    have K2 := Lib.hid k2
    have H2 := Lib.hid (H.out.new k2)
    clear k2 CO
    go_wp2_with (at_builtin; refine wpList_append_facts rfl _ _ rfl rfl A n c es rfl H2.out hnb ?_)
    intro A3 c3 w3 O3 N3
    have F3 : Hid (FIn w3 A3 n es) := ⟨O3.out.row, (H2.out.new N3.out).2⟩
    have K3 := Lib.hid (K2.out.new N3.out)
    have C3 : Hid (n ≤ c3 ∧ c3 ≤ maxLen) := ⟨O3.out.2.1, O3.out.2.2.1⟩
    clear O3 N3 H2 K2
    go_wp2_with fail
    go_loopw [5, 6] (fun tout ti wr => ∃ (i : Nat) (Ao : Option Addr) (no co : Nat) (os : List FE), i ≤ n' ∧ no ≤ n + i ∧ ti = .int .i64 i ∧ tout = .slice Ao no co ∧ Hid (FIn wr Ao no os) ∧ Hid (fts os = apF (fts es) ((cts cs).take i)) ∧ Hid (New w wr) ∧ Hid (no ≤ co ∧ co ≤ maxLen)) (fun _ i _ => n' - (intOf i).toNat)
    case atStart => exact ⟨0, A3, n, c3, es, Nat.zero_le _, Nat.le_refl _, rfl, rfl, F3, rfl, K3, C3⟩
    case round =>
      obtain ⟨i, Ao, no, co, os, hi, hno, rfl, rfl, VF, VA, VN, VC⟩ := hrel
      clear F3 K3 C3
      by_cases hlt : i < n'
      · obtain ⟨g, o, x, eA, hx, x0, x1, x2, x3, x4, x5⟩ := rowC_at (HC.out.new VN.out).1 (i := i) hlt
        subst eA
        have hxc : COk wr x := (HC.out.new VN.out).2 x (List.mem_of_getElem? hx)
        have hft : (cts cs)[i]? = some x.f := by unfold cts; rw [List.getElem?_map, hx]; rfl
        have ON := Lib.hid (rone_any Ao no co os x wr VF.out (by rw [VA.out]; exact ord_ap _ HO.out) hxc (fun e he => (VF.out.2 e he).2.2.2) (Nat.le_trans (Nat.mul_le_mul_right 64 (by omega : no + 1 ≤ n + n')) hb))
        have VA2 : Hid (apF (fts es) ((cts cs).take (i + 1)) = updF (fts os) x.f) := by
          rw [Hid, List.take_add_one, hft]
          show apF (fts es) (_ ++ [x.f]) = _
          rw [apF_snoc, VA.out]
        have HLN : Hid (∀ l : List FT, l = apF (fts es) ((cts cs).take (i + 1)) → l.length ≤ n + (i + 1)) := fun l hl => by
          have h1 := apF_len (fts es) ((cts cs).take (i + 1))
          rw [hl]
          rw [HL.out, List.length_take] at h1
          omega
        clear hx hxc hft VA
        go_wp2_with fail
        refine ON.out.mono ?_
        rintro e w4 ⟨A4, c4, os4, rfl, f4, e4, k4, l4, m4⟩
        have F4 := Lib.hid f4
        have E4 : Hid (fts os4 = apF (fts es) ((cts cs).take (i + 1))) := e4.trans VA2.out.symm
        have K4 := Lib.hid (VN.out.new k4)
        have C4 : Hid (os4.length ≤ c4 ∧ c4 ≤ maxLen) := ⟨l4, m4⟩
        have hn4 : os4.length ≤ n + (i + 1) := by have := HLN.out _ E4.out; rw [fts_lenE] at this; exact this
        obtain ⟨n4, hn4e⟩ : ∃ k, k = os4.length := ⟨_, rfl⟩
        rw [← hn4e] at F4 C4 hn4 ⊢
        clear f4 e4 k4 l4 m4 ON VA2 HLN VF VN VC hn4e x0 x1 x2 x3 x4 x5
        go_wp2
        go_roundw
        case rel => exact ⟨i + 1, A4, n4, c4, os4, by omega, by omega, by go_num, rfl, F4, E4, K4, C4⟩
        case measure => simp [intOf]; omega
      · have E9 : Hid (OneP w (apF (fts es) (cts cs)) (.returned (.slice Ao no co)) wr) := by
          have h1 := VA.out
          rw [List.take_of_length_le (by rw [HCL.out]; omega)] at h1
          have hl := VF.out.len
          exact ⟨Ao, co, os, by rw [hl], by rw [hl]; exact VF.out, h1, VN.out, by rw [hl]; exact VC.out.1, VC.out.2⟩
        clear VF VA VN VC
        go_wp2
        go_ret
        exact E9.out
end Go.Proofs.Ytbiihjdjbknibaa
