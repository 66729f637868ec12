/-
  ScanPages: what the pages of a block say is the document's, or its error; for every list of blocks and block.
-/
import Derived.Test.YtbiihjdjbknibaaGreatAp
namespace Go.Proofs.YtbiihjdjbknibaaGreat.scanPages
open Go.ChangeShapes Go.WideShapes Go.ChangeAt Go.RowKit

theorem own : ownKnob Tryz.prog.godebug = none := by kernel_rfl
theorem laidOut : laidOutB Tryz.prog = true := by kernel_rfl

theorem ld_read (W : List Nat) (b : Int) : readE (loadS 16 8 128 0 W []) b 0 = if 0 ≤ b ∧ b < 16 then 0 else 2 := by
  have h0 : (loadS 16 8 128 0 W []).dead = false := rfl
  have hb : (loadS 16 8 128 0 W []).nb = 16 := rfl
  have hp : (loadS 16 8 128 0 W []).np = 8 := rfl
  generalize loadS 16 8 128 0 W [] = s at *
  unfold readE refE
  rw [h0, if_neg (by decide)]
  by_cases h : 0 ≤ b ∧ b < 16
  · rw [if_pos h, if_pos (show there s b 0 from ⟨⟨h.1, by rw [hb]; exact h.2⟩, by omega, by rw [hp]; omega⟩)]
  · rw [if_neg h, if_neg (fun h2 : there s b 0 => h ⟨h2.1.1, by have := h2.1.2; rw [hb] at this; exact this⟩)]

/-- Pages that are read. -/
theorem po_get {w : World} {B c : Nat} {A : Option Addr} {pl : List PE} (h : POwn w B A c pl) {i : Nat} {x : PV} (hx : (pvs pl)[i]? = some x) : ∃ (g : Nat) (e : PE), A = some ⟨g, 0, none⟩ ∧ e.p = x.p ∧ cts e.es = x.cs ∧ e.d = x.d ∧ e.es.length ≤ maxLen ∧
    (∀ u, New w u → u.cell? ⟨g, i * 3, none⟩ = some (.int .i64 (e.p : Nat)) ∧ u.cell? ⟨g, i * 3 + 1, none⟩ = some (.slice e.A e.es.length e.c) ∧ u.cell? ⟨g, i * 3 + 2, none⟩ = some (.int .u64 (e.d : Nat)) ∧ CIn u e.A e.es.length e.es) := by
  have hi : i < pl.length := by have := (List.getElem?_eq_some_iff.1 hx).1; unfold pvs at this; rwa [List.length_map] at this
  have he : pl[i]? = some pl[i] := List.getElem?_eq_getElem hi
  have hv : x = pl[i].v := by unfold pvs at hx; rw [List.getElem?_map, he] at hx; injection hx with hx; exact hx.symm
  subst hv
  obtain ⟨_, hc, _, ho⟩ := h.1
  rcases ho with ⟨_, rfl⟩ | ⟨g, sp, rfl, _, hb, _⟩
  · omega
  · refine ⟨g, pl[i], rfl, rfl, rfl, rfl, Nat.le_trans (h.2 _ (List.getElem_mem hi)).1.2.1 (h.2 _ (List.getElem_mem hi)).1.2.2.1, fun u hu => ?_⟩
    have hb2 := hb.kept hu id
    have key : ∀ j v, j < 3 → pl[i].cells[j]? = some v → u.cell? ⟨g, i * 3 + j, none⟩ = some v := fun j v hj hv => by
      have h1 := pes_at pl i j pl[i] v he hj hv
      rw [hb2.cell, List.getElem?_append_left (List.getElem?_eq_some_iff.1 h1).1]
      exact h1
    exact ⟨key 0 _ (by omega) rfl, key 1 _ (by omega) rfl, key 2 _ (by omega) rfl, ((h.2 _ (List.getElem_mem hi)).new hu).in_⟩

theorem works12_k {w0 wc : World} (K : Hid (New w0 wc)) : Calls Tryz.prog 9 #[] wc fun e w' => e = .returned (.bool true) ∧ New w0 w' := by
  refine (works12_any wc).mono ?_
  rintro e w' ⟨rfl, hk⟩
  exact ⟨rfl, K.out.new hk⟩

theorem changes0_new (A B : Option Addr) (n m c d : Nat) (es fs : List CE) (w : World) (ha : CIn w A n es) (hb : CIn w B m fs) (hn : n ≤ maxLen) (hef : cts es = cts fs) :
    Calls Tryz.prog 16 #[.slice A n c, .slice B m d] w fun e w' => e = .returned (.bool true) ∧ Below w.heap.size w w' :=
  (changes0_yes A B n m c d es fs w ha hb hn hef).mono fun _ _ hh => ⟨hh.1, hh.2.below⟩

set_option maxRecDepth 100000 in
set_option maxHeartbeats 6400000 in
theorem walk (A : Option Addr) (n c : Nat) (x1 : Int) (w : World) (b0 : BksIn w A n ∧ n ≤ maxLen) (_b1 : -9223372036854775808 ≤ x1 ∧ x1 ≤ 9223372036854775807) :
    Calls Tryz.prog 4 #[.slice A n c, .int .i64 x1] w (True1 w) := by
  have CH := Lib.hid (chip_any A n c w b0.1 b0.2)
  clear b0
  go_enter Tryz.func4, Tryz.ntmps4
  go_wp2_with fail
  refine CH.out.mono ?_
  rintro e w1 ⟨g, Q, W, rfl, hWl, hWb, hc, hq, hk⟩
  have K1 := hk
  have hrd := ld_read W x1
  have hnp : (loadS 16 8 128 0 W []).np = 8 := rfl
  generalize loadS 16 8 128 0 W [] = s at *
  clear hWl hWb hq hk CH
  by_cases hr : 0 ≤ x1 ∧ x1 < 16
  · rw [if_pos hr] at hrd
    have CP := Lib.hid (Pages_ok Q g s x1 w1 hc.out hrd)
    have CR := fun u hu => Lib.hid (rPages_any Q g s x1 u (hc.out.new hu))
    have hlen : (pgsU (fun q => readL s x1 (q : Nat)) (s.np - 1)).length ≤ 7 := by
      have := pgsU_len (fun q => readL s x1 (q : Nat)) (s.np - 1)
      omega
    generalize pgsU (fun q => readL s x1 (q : Nat)) (s.np - 1) = pv at *
    clear hrd hnp hc
    have d1 : ¬ x1 < 0 := by omega
    have d2 : ¬ 16 ≤ x1 := by omega
    go_wp2_with fail
    refine CP.out.mono ?_
    rintro e w2 ⟨A2, c2, pl, rfl, e2, o2, k2⟩
    have hl2 : pl.length = pv.length := by rw [← e2]; unfold pvs; rw [List.length_map]
    have G2 := Lib.hid (fun (i : Nat) (x : PV) (hx : pv[i]? = some x) => po_get o2 (i := i) (x := x) (by rw [e2]; exact hx))
    have K2 := Lib.hid (K1.out.new k2)
    have CR2 := Lib.hid (CR w2 k2).out
    rw [hl2]
    clear e2 o2 k2 hl2 CP CR K1
    go_wp2_with fail
    refine CR2.out.mono ?_
    rintro e w3 ⟨A3, c3, ql, rfl, e3, o3, k3⟩
    have hl3 : ql.length = pv.length := by rw [← e3]; unfold pvs; rw [List.length_map]
    have G3 := Lib.hid (fun (i : Nat) (x : PV) (hx : pv[i]? = some x) => po_get o3 (i := i) (x := x) (by rw [e3]; exact hx))
    have K23 := Lib.hid k3
    have K3 := Lib.hid (K2.out.new k3)
    rw [hl3]
    clear e3 o3 k3 hl3 CR2 K2
    generalize hpn : pv.length = pn at *
    have HPN := Lib.hid hpn
    clear hpn
    go_wp2_with fail
    go_loopw [9] (fun i wr => ∃ k : Nat, k ≤ pn ∧ i = .int .i64 k ∧ Hid (New w3 wr)) (fun i _ => pn - (intOf i).toNat)
    case atStart => exact ⟨0, Nat.zero_le _, rfl, Kept.refl _ _⟩
    case round =>
      obtain ⟨k, hk, rfl, HN⟩ := hrel
      by_cases hlt : k < pn
      · obtain ⟨x, hx⟩ : ∃ x, pv[k]? = some x := ⟨_, List.getElem?_eq_getElem (by rw [HPN.out]; exact hlt)⟩
        obtain ⟨ga, ea, rfl, a1, a2, a3, hle, ca⟩ := G2.out k x hx
        obtain ⟨gb, eb, rfl, b1, b2, b3, _, cb⟩ := G3.out k x hx
        obtain ⟨xa0, xa1, xa2, ia⟩ := ca wr (K23.out.new HN.out)
        obtain ⟨xb0, xb1, xb2, ib⟩ := cb wr HN.out
        have hes : cts ea.es = cts eb.es := a2.trans b2.symm
        have hp : ea.p = eb.p := a1.trans b1.symm
        have hd : ea.d = eb.d := a3.trans b3.symm
        have HNr := HN.out
        clear ca cb a1 a2 a3 b1 b2 b3 hx
        obtain ⟨pa, esa, Aa, caa, da⟩ := ea
        obtain ⟨pb, esb, Ab, cbb, db⟩ := eb
        dsimp only at *
        subst hp hd
        have cS := Lib.hid (fun (d : Nat) (os : Array Obj) => Calls.regrown_of (d := d) (os := os) (changes0_new Aa Ab esa.length esb.length caa cbb esa esb (Go.Sort.grow (redrawn wr d) os) (ia.new (new_regrown (Kept.refl _ _) d os)) (ib.new (new_regrown (Kept.refl _ _) d os)) hle hes))
        clear ia ib hes hle
        generalize esa.length = na at *
        generalize esb.length = nb at *
        have s1 : (0 : Int) ≤ (k : Int) := by omega
        have s3 : (k : Int) < (pn : Int) := by omega
        have p0 := fun d os => cell_regrown xa0 d os
        have p1 := fun d os => cell_regrown xa1 d os
        have p2 := fun d os => cell_regrown xa2 d os
        have q0 := fun d os => cell_regrown xb0 d os
        have q1 := fun d os => cell_regrown xb1 d os
        have q2 := fun d os => cell_regrown xb2 d os
        clear xa0 xa1 xa2 xb0 xb1 xb2
        go_wp2_with fail
        refine wp_region_quiet_below (by kernel_rfl) (by kernel_rfl) ?_
        repeat (quiet_step (first
          | (go_at_call 16; exact cS.out _ _)))
        refine wpQuiet_nil ?_
        intro _ hw'
        obtain ⟨⟨dq, osq⟩, hw''⟩ := hw'
        subst hw''
        have N9 : Hid (New w3 (Go.Sort.grow (redrawn wr dq) osq)) := new_regrown HNr dq osq
        clear cS p0 p1 p2 q0 q1 q2 HN HNr
        go_wp2
        go_roundw
        case rel => exact ⟨k + 1, by omega, by go_num, N9⟩
        case measure => simp [intOf]; omega
      · have KE := works12_k (wc := wr) (K3.out.new HN.out)
        clear HN K3 K23 G2 G3
        go_wp2_with fail
        refine KE.mono ?_
        rintro e w5 ⟨rfl, k5⟩
        have K5 := Lib.hid k5
        clear k5 KE
        go_wp2
        go_ret
        exact ⟨rfl, K5.out⟩
  · rw [if_neg hr] at hrd
    have CP := Lib.hid (Pages_no Q g s x1 w1 hc.out (by rw [hrd]; rfl))
    rw [hrd] at CP
    clear hrd hnp hc
    go_wp2_with fail
    refine CP.out.mono ?_
    rintro e w2 ⟨rfl, k2⟩
    have KE := works12_k (wc := w2) (K1.out.new k2)
    clear CP K1 k2
    by_cases h0 : x1 < 0
    · clear hr
      go_wp2_with fail
      refine KE.mono ?_
      rintro e w5 ⟨rfl, k5⟩
      have K5 := Lib.hid k5
      clear k5 KE
      go_wp2
      go_ret
      exact ⟨rfl, K5.out⟩
    · have h16 : 16 ≤ x1 := by omega
      clear hr
      go_wp2_with fail
      refine KE.mono ?_
      rintro e w5 ⟨rfl, k5⟩
      have K5 := Lib.hid k5
      clear k5 KE
      go_wp2
      go_ret
      exact ⟨rfl, K5.out⟩

set_option maxRecDepth 100000 in
theorem lifted (os : Os) (started : os.Started) (H : Type) (enc : TypeId × Value → H) :
    ReturnsInHanded {} Tryz.checked os 4 .any (Rows.scanPagesSpec.pre6 enc Tryz.prog Tryz.f4 Rows.scanPagesRow.domain false) (Rows.scanPagesSpec.post enc Tryz.prog Tryz.f4 false true false false) := by
  refine lift_new (C := Tryz.checked) (s := Rows.scanPagesSpec) (tb := 4) own started (by kernel_rfl) Tryz.func4
    (ChangeSpec.witness6 (enc := enc) (C := Tryz.checked) false ⟨#[], #[.slice none 0 0, .int .i64 0], []⟩ 8 (by kernel_rfl) (by kernel_rfl) (by kernel_rfl) (by kernel_rfl))
    rfl (by kernel_rfl) Tryz.underlying4 ?_ laidOut (of_decide_eq_true (by kernel_rfl)) ?_
  · intro ds hd
    match ds, hd with
    | [d0, d1], _ => exact ⟨rfl, rfl, rfl⟩
  · intro W base args ds hA
    have hA : Args enc Tryz.prog W base Tryz.f4.params.toList args.toList ds := hA
    rw [Tryz.params4] at hA
    obtain ⟨v0, vs0, d0, ds0, p0, hargs, rfl, a0, hA⟩ := hA.cons_
    obtain ⟨v1, vs1, d1, ds1, p1, rfl, rfl, a1, hA⟩ := hA.cons_
    obtain ⟨rfl, rfl⟩ := hA.nil_
    obtain rfl : args = #[v0, v1] := by cases args; simp_all
    obtain ⟨A0, n0, c0, rfl, b0⟩ := a0.blocks_
    obtain ⟨x1, rfl, w1⟩ := a1.int_ Tryz.underlying3
    exact walk A0 n0 c0 x1 W b0 (i64_bounds w1)

theorem over : Rows.scanPagesRow.holds Tryz.pinned (OpenSpec.ofChange Rows.scanPagesSpec) :=
  OpenClaim.holds_of_wide 4 Tryz.f4 rfl rfl rfl rfl rfl rfl rfl ⟨rfl, rfl, rfl, rfl, rfl⟩ rfl rfl rfl rfl rfl (by kernel_rfl) Tryz.func4 (by kernel_rfl)
    (of_decide_eq_true (by kernel_rfl)) (by unfold Func.isWrapper; first | (rw [if_pos (by decide +kernel)]; kernel_rfl) | (rw [if_neg (by decide +kernel)]; exact ⟨rfl, rfl⟩))
    (fun os started H enc _ => lifted os started H enc)

theorem proved : Rows.ScanPagesSaid := over
end Go.Proofs.YtbiihjdjbknibaaGreat.scanPages
