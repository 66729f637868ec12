/-
  PackFresh: what is handed in stays; what is answered is new memory; for every size and list of facts.
-/
import Derived.Test.YtbiihjdjbknibaaBg
namespace Go.Proofs.Ytbiihjdjbknibaa.packFresh
open Go.ChangeShapes Go.WideShapes Go.ChangeAt Go.RowKit

theorem own : ownKnob Try.prog.godebug = none := by kernel_rfl
theorem laidOut : laidOutB Try.prog = true := by kernel_rfl

/-- Facts of the call's own, behind what touches newer blocks alone. -/
theorem far_facts {w w' : World} {B c : Nat} {A : Option Addr} {es : List FE} (h : FOwn w B A c es) (hk : Kept (fun b => w.heap.size ≤ b) w w') : FIn w' A es.length es := by
  have h' : FOwn w' B A c es := ⟨h.1.kept hk fun a ha f => by have := (h.1.at_ a ha).1.lt; omega, fun e he => ⟨(h.2 e he).1.kept hk fun a ha f => by have := ((h.2 e he).1.at_ a ha).1.lt; omega, (h.2 e he).2⟩⟩
  exact h'.in_
/-- Pages from a place on, of which none has been spoilt. -/
def PgFr (w : World) (B : Nat) (A : Option Addr) (c : Nat) (gs : List GE) (k : Nat) : Prop :=
  OwnV w 25 1 B A gs.length c (ges gs) ∧ ∀ e ∈ gs.drop k, PgB w B e.A e.c e.l
theorem PgFr.get {w : World} {B c k : Nat} {A : Option Addr} {gs : List GE} (h : PgFr w B A c gs k) (hk : k < gs.length) : ∃ g x, A = some ⟨g, 0, none⟩ ∧ gs[k]? = some x ∧ PgB w B x.A x.c x.l ∧ w.cell? ⟨g, k, none⟩ = some (.slice x.A x.l.length x.c) := by
  obtain ⟨⟨_, hn, _, ho⟩, h2⟩ := h
  rcases ho with ⟨_, rfl⟩ | ⟨g, sp, rfl, _, hb, _⟩
  · omega
  · refine ⟨g, gs[k], rfl, List.getElem?_eq_getElem hk, h2 _ ?_, ?_⟩
    · rw [List.drop_eq_getElem_cons hk]; exact List.mem_cons_self
    · rw [hb.cell, List.getElem?_append_left (by unfold ges; rw [List.length_map]; exact hk)]
      unfold ges
      rw [List.getElem?_map, List.getElem?_eq_getElem hk]
      rfl
theorem PgFr.spoilt {w w' : World} {B c k : Nat} {A : Option Addr} {gs : List GE} {x : GE} (h : PgFr w B A c gs k) (hd : gs.Pairwise Dif) (hx : gs[k]? = some x) (hk : Kept (InRow x.A) w w') : PgFr w' B A c gs (k + 1) := by
  obtain ⟨hlt, he⟩ := List.getElem?_eq_some_iff.1 hx
  have hxm : x ∈ gs.drop k := by rw [List.drop_eq_getElem_cons hlt, he]; exact List.mem_cons_self
  refine ⟨h.1.kept hk fun a ha ⟨b, hb, e2⟩ => (h.1.at_ a ha).1.ne_of (e2 ▸ (pr_page.at_ (h.2 x hxm) b hb).1) (by decide) rfl, fun e he2 => ?_⟩
  have hem : e ∈ gs.drop k := by rw [List.drop_eq_getElem_cons hlt]; exact List.mem_cons_of_mem _ he2
  have hdif : Dif x e := by
    have h1 : (gs.drop k).Pairwise Dif := hd.sublist (List.drop_sublist k gs)
    rw [List.drop_eq_getElem_cons hlt, he] at h1
    exact (List.pairwise_cons.1 h1).1 e he2
  exact (h.2 e hem).kept hk fun a ha ⟨b, hb, e2⟩ => hdif b a hb ha e2

set_option maxRecDepth 100000 in
set_option maxHeartbeats 6400000 in
theorem walk (x0 : Int) (A : Option Addr) (n c : Nat) (es : List FE) (w : World)
    (_b0 : -9223372036854775808 ≤ x0 ∧ x0 ≤ 9223372036854775807) (b1 : FsIn w A n c es) :
    Calls Try.prog 7 #[.int .i64 x0, .slice A n c] w (True1 w) := by
  have h64 : n * 64 ≤ 140737488355328 := by have := b1.2.2.2.2.1; omega
  have hnm : n ≤ 2199023255552 := by omega
  have HL : Hid ((fts es).length = n) := by rw [Hid, fts_lenE, b1.1.len]
  have H := Lib.hid b1.1
  have CC := Lib.hid (copyFacts_any A n c es w b1.1 h64)
  have CR := fun u hu => Lib.hid (rPages_any x0 A n c es u (b1.1.new hu) h64)
  have CP := fun (A' : Option Addr) (c' : Nat) (al : List FE) (u : World) (hf : FIn u A' n al) (hc : n ≤ c') => Lib.hid (pPages_any x0 A' n c' al u hf h64 hc)
  have HLE : Hid (∀ p ∈ pgL x0 (fts es), p.length ≤ maxLen) := fun p hp => by have := pgL_le hp; unfold maxLen; omega
  have hpb : (pgL x0 (fts es)).length ≤ 2199023255552 := by
    rw [pgL_len]
    refine Nat.le_trans paP_len ?_
    rw [HL.out]; exact hnm
  clear b1 h64
  go_enter Try.func7, Try.ntmps7
  go_wp2_with fail
  refine CC.out.mono ?_
  rintro e w1 ⟨Aa, ca, ea, rfl, ha, oa, k1⟩
  have hla : ea.length = n := by
    have := congrArg List.length ha
    rwa [fts_lenE, HL.out] at this
  have hca : n ≤ ca := by have := oa.1.2.1; omega
  have OA := Lib.hid oa
  have HA := Lib.hid ha
  have HLA := Lib.hid hla
  have K1 := Lib.hid k1
  have CP1 := Lib.hid (CP Aa ca ea w1 (by have := oa.in_; rwa [hla] at this) hca).out
  rw [ha] at CP1
  rw [hla]
  clear oa ha hla k1 CC
  go_wp2_with fail
  refine CP1.out.mono ?_
  rintro e w2 ⟨A2, c2, g2, rfl, e2, o2, d2, k2⟩
  have L2 : Hid (g2.length = (pgL x0 (fts es)).length) := by rw [Hid, ← e2]; unfold gls; rw [List.length_map]
  have F2 : Hid (PgFr w2 w1.heap.size A2 c2 g2 0) := ⟨o2.1, o2.2⟩
  have HLE2 : Hid (∀ x ∈ g2, x.l.length ≤ maxLen) := fun x hx => HLE.out _ (by rw [← e2]; exact List.mem_map.2 ⟨x, hx, rfl⟩)
  have D2 := Lib.hid d2
  have K2 : Hid (Kept (fun b => w1.heap.size ≤ b) w1 w2) := k2.mono fun _ _ f => f.elim
  rw [L2.out]
  clear e2 o2 d2 k2 CP1
  generalize hpl : pgL x0 (fts es) = pl at *
  have HPL := Lib.hid hpl
  clear hpl
  generalize hpn : pl.length = pn at *
  have HPN := Lib.hid hpn
  clear hpn
  go_wp2_with fail
  go_loopw [8] (fun i wr => ∃ k : Nat, k ≤ pn ∧ i = .int .i64 k ∧ Hid (PgFr wr w1.heap.size A2 c2 g2 k) ∧ Hid (Kept (fun b => w1.heap.size ≤ b) w1 wr)) (fun i _ => pn - (intOf i).toNat)
  case atStart => exact ⟨0, Nat.zero_le _, rfl, F2, K2⟩
  case round =>
    obtain ⟨k, hk, rfl, VF, VK⟩ := hrel
    by_cases hlt : k < pn
    · obtain ⟨g, x, eA, hx, hp, y0⟩ := VF.out.get (k := k) (by rw [L2.out]; exact hlt)
      have VF2 := Lib.hid (fun w' hk' => VF.out.spoilt (w' := w') D2.out hx hk')
      have hatb : ∀ a, x.A = some a → w1.heap.size ≤ a.block := fun a ha => (pr_page.at_ hp a ha).2
      have HAT := Lib.hid hatb
      have CS := Lib.hid (spoilP_any x.A x.c w1.heap.size 1 x.l wr hp (HLE2.out x (List.mem_of_getElem? hx)))
      subst eA
      clear hx hp hatb
      obtain ⟨xl, xA, xc⟩ := x
      dsimp only at *
      generalize xl.length = xn at *
      have s1 : (0 : Int) ≤ (k : Int) := by omega
      have s3 : (k : Int) < (pn : Int) := by omega
      go_wp2_with fail
      refine CS.out.mono ?_
      rintro e w3 ⟨rfl, k3⟩
      have F3 := Lib.hid (VF2.out w3 k3)
      have K3 : Hid (Kept (fun b => w1.heap.size ≤ b) w1 w3) := VK.out.trans k3 fun i _ ⟨a, ha, e⟩ => e ▸ HAT.out a ha
      clear k3 CS VF VK VF2 HAT y0
      go_wp2
      go_roundw
      case rel => exact ⟨k + 1, by omega, by go_num, F3, K3⟩
      case measure => simp [intOf]; omega
    · have FA : Hid (FIn wr Aa n ea) := by have := far_facts OA.out VK.out; rwa [HLA.out] at this
      have KW : Hid (New w wr) := K1.out.trans VK.out fun i hi h => by have := K1.out.size; omega
      have CQ := (CP Aa ca ea wr FA.out hca).out
      rw [HA.out] at CQ
      have CQ := Lib.hid CQ
      clear VF VK OA F2 K2 D2 L2 HLE2 CP K1
      go_wp2_with fail
      refine CQ.out.mono ?_
      rintro e w4 ⟨A4, c4, g4, rfl, e4, o4, _, k4⟩
      rw [HPL.out] at e4
      have L4 : Hid (g4.length = pn) := by rw [Hid, ← HPN.out, ← e4]; unfold gls; rw [List.length_map]
      have G4 := Lib.hid (GOwn.in_ pr_page o4 e4)
      have K4 := Lib.hid (KW.out.new k4)
      have FA4 := Lib.hid (FA.out.new k4)
      rw [L4.out]
      clear e4 o4 k4 CQ KW FA L4
      go_wp2_with fail
      refine (CR _ K4.out).out.mono ?_
      rintro e w5 ⟨A5, c5, g5, rfl, e5, o5, _, k5⟩
      rw [HPL.out] at e5
      have L5 : Hid (g5.length = pn) := by rw [Hid, ← HPN.out, ← e5]; unfold gls; rw [List.length_map]
      have G5 := Lib.hid (GOwn.in_ pr_own o5 e5)
      have G45 := Lib.hid (G4.out.new k5)
      have K5 := Lib.hid (K4.out.new k5)
      have FA5 := Lib.hid (FA4.out.new k5)
      rw [L5.out]
      clear e5 o5 k5 CR K4 FA4 G4 L5 HPL
      generalize paE x0 (fts es) = pe at *
      go_wp2_with fail
      go_loopw [13] (fun i wr => ∃ k : Nat, k ≤ pn ∧ i = .int .i64 k ∧ Hid (New w5 wr)) (fun i _ => pn - (intOf i).toNat)
      case atStart => exact ⟨0, Nat.zero_le _, rfl, Kept.refl _ _⟩
      case round =>
        obtain ⟨q, hq, rfl, HN⟩ := hrel
        by_cases hltq : q < pn
        · obtain ⟨l, hl⟩ : ∃ l, pl[q]? = some l := ⟨_, List.getElem?_eq_getElem (by rw [HPN.out]; exact hltq)⟩
          obtain ⟨ga, X, d1, eA, x0', b1, _⟩ := G45.out _ HN.out q l hl
          obtain ⟨gb, Y, d3, eB, y0', b2, _⟩ := G5.out _ HN.out q l hl
          have hle := HLE.out l (List.mem_of_getElem? hl)
          have HNr := HN.out
          subst eA eB
          have s1 : (0 : Int) ≤ (q : Int) := by omega
          have s3 : (q : Int) < (pn : Int) := by omega
          have q0 := fun d os => cell_regrown x0' d os
          have q1 := fun d os => cell_regrown y0' d os
          go_wp2_with fail
          have cS := Lib.hid (fun (d : Nat) (os : Array Obj) => Calls.regrown_of (d := d) (os := os) (same_new X Y l.length l.length d1 d3 l l true (decide_eq_true rfl) hle (Go.Sort.grow (redrawn wr d) os) (b1.new (new_regrown (Kept.refl _ _) d os)) (b2.new (new_regrown (Kept.refl _ _) d os))))
          clear x0' y0' b1 b2 hl hle
          generalize l.length = ln at *
          refine wp_region_quiet_below (by kernel_rfl) (by kernel_rfl) ?_
          repeat (quiet_step (first
            | (go_at_call 14; exact cS.out _ _)))
          refine wpQuiet_nil ?_
          intro _ hw'
          obtain ⟨⟨dq, osq⟩, hw''⟩ := hw'
          subst hw''
          have N9 : Hid (New w5 (Go.Sort.grow (redrawn wr dq) osq)) := new_regrown HNr dq osq
          clear cS q0 q1 HN HNr
          go_wp2
          go_roundw
          case rel => exact ⟨q + 1, by omega, by go_num, N9⟩
          case measure => simp [intOf]; omega
        · have KN := K5.out.new HN.out
          have CF := Lib.hid (facts0_any Aa A n n ca c ea es wr (FA5.out.new HN.out) (H.out.new KN) (by unfold maxLen; omega))
          rw [decide_eq_true HA.out] at CF
          have KN := Lib.hid KN
          clear HN K5 G45 G5 FA5
          go_wp2_with fail
          refine CF.out.mono ?_
          rintro e w6 ⟨rfl, k6⟩
          have KE := works13_k (KN.out.new k6)
          clear k6 KN CF
          go_wp2_with fail
          refine KE.mono ?_
          rintro e w7 ⟨rfl, k7⟩
          have K7 := Lib.hid k7
          clear k7 KE
          go_wp2
          go_ret
          exact ⟨rfl, K7.out⟩

set_option maxRecDepth 100000 in
theorem lifted (os : Os) (started : os.Started) (H : Type) (enc : TypeId × Value → H) :
    ReturnsInHanded {} Try.checked os 7 .any (Rows.packFreshSpec.pre6 enc Try.prog Try.f7 Rows.packFreshRow.domain false) (Rows.packFreshSpec.post enc Try.prog Try.f7 false true false false) := by
  refine lift_new (C := Try.checked) (s := Rows.packFreshSpec) (tb := 4) own started (by kernel_rfl) Try.func7
    (ChangeSpec.witness6 (enc := enc) (C := Try.checked) false ⟨#[], #[.int .i64 0, .slice none 0 0], []⟩ 8 (by kernel_rfl) (by kernel_rfl) (by kernel_rfl) (by kernel_rfl))
    rfl (by kernel_rfl) Try.underlying4 ?_ laidOut (of_decide_eq_true (by kernel_rfl)) ?_
  · intro ds hd
    match ds, hd with
    | [d0, d1], _ => exact ⟨rfl, rfl, rfl⟩
  · intro W base args ds hA
    have hA : Args enc Try.prog W base Try.f7.params.toList args.toList ds := hA
    rw [Try.params7] at hA
    obtain ⟨v0, vs0, d0, ds0, p0, hargs, rfl, a0, hA⟩ := hA.cons_
    obtain ⟨v1, vs1, d1, ds1, p1, rfl, rfl, a1, hA⟩ := hA.cons_
    obtain ⟨rfl, rfl⟩ := hA.nil_
    obtain rfl : args = #[v0, v1] := by cases args; simp_all
    obtain ⟨x0, rfl, w0⟩ := a0.int_ Try.underlying3
    obtain ⟨A1, n1, c1, l1, rfl, b1⟩ := a1.facts_
    exact walk x0 A1 n1 c1 l1 W (i64_bounds w0) b1

theorem over : Rows.packFreshRow.holds Try.pinned (OpenSpec.ofChange Rows.packFreshSpec) :=
  OpenClaim.holds_of_wide 7 Try.f7 rfl rfl rfl rfl rfl rfl rfl ⟨rfl, rfl, rfl, rfl, rfl⟩ rfl rfl rfl rfl rfl (by kernel_rfl) Try.func7 (by kernel_rfl)
    (of_decide_eq_true (by kernel_rfl)) (by unfold Func.isWrapper; first | (rw [if_pos (by decide +kernel)]; kernel_rfl) | (rw [if_neg (by decide +kernel)]; exact ⟨rfl, rfl⟩))
    (fun os started H enc _ => lifted os started H enc)

theorem proved : Rows.PackFreshSaid := over
end Go.Proofs.Ytbiihjdjbknibaa.packFresh
