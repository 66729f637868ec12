/-
  FactFresh: what is handed in stays, the room behind it, too; what is answered is new memory; for every list of facts, list of changes and key, of bulk at most 1048576.
-/
import Derived.Test.YtgdhbnhdmhogkaaOq
import Derived.Test.YtgdhbnhdmhogkaaOe
namespace Go.Proofs.Ytgdhbnhdmhogkaa.factFresh
open Go.ChangeShapes Go.WideShapes Go.ChangeAt Go.RowKit

theorem own : ownKnob Try.prog.godebug = none := by kernel_rfl
theorem laidOut : laidOutB Try.prog = true := by kernel_rfl

/-- A row of facts of the call's own, whatever they are, with bytes of the call's own. -/
def RowX (w : World) (B : Nat) (A : Option Addr) (n : Nat) : Prop :=
  n = 0 ∨ ∃ (g : Nat) (fs : List FE) (sp : List Value), A = some ⟨g, 0, none⟩ ∧ B ≤ g ∧ Blk w g 38 (fes fs ++ sp) ∧ fs.length = n ∧ ∀ e ∈ fs, OwnR w B e.A e.c e.f.v.length
theorem RowX.of {w : World} {B c : Nat} {A : Option Addr} {es : List FE} (h : FOwn w B A c es) : RowX w B A es.length := by
  obtain ⟨⟨h1, h2, h3, h4⟩, h5⟩ := h
  rcases h4 with ⟨_, h4⟩ | ⟨g, sp, rfl, hB, hb, _⟩
  · exact .inl (by omega)
  · exact .inr ⟨g, es, sp, rfl, hB, hb, rfl, fun e he => (h5 e he).1.ownR⟩
theorem RowX.new {w w' : World} {B n : Nat} {A : Option Addr} (h : RowX w B A n) (hk : New w w') : RowX w' B A n := by
  rcases h with h | ⟨g, fs, sp, h1, h2, h3, h4, h5⟩
  · exact .inl h
  · exact .inr ⟨g, fs, sp, h1, h2, h3.kept hk id, h4, fun e he => (h5 e he).kept hk fun _ _ f => f⟩
def nine (e : FE) : FE := ⟨⟨⟨9, e.f.k.t, e.f.k.n, e.f.k.c⟩, e.f.v⟩, e.A, e.c⟩
theorem fes_nine (sp : List Value) : ∀ (fs : List FE) (i : Nat) (e : FE), fs[i]? = some e → (fes fs ++ sp).set (i * 5) (.int .i64 9) = fes (fs.set i (nine e)) ++ sp
  | [], i, e, h => by simp at h
  | x :: r, 0, e, h => by
    simp at h
    subst h
    rfl
  | x :: r, i + 1, e, h => by
    have h1 := fes_nine sp r i e (by simpa using h)
    have e0 : (i + 1) * 5 = i * 5 + 1 + 1 + 1 + 1 + 1 := by omega
    simp only [fes, List.set_cons_succ, FE.cells, kcells, e0, List.cons_append, List.nil_append]
    rw [← h1]
theorem rowX_step {w0 wr w5 : World} {g i n : Nat} {fs : List FE} {sp : List Value} {e : FE} {E : Ending} (hB : w0.heap.size ≤ g) (hb : Blk wr g 38 (fes fs ++ sp)) (hl : fs.length = n) (ho : ∀ e ∈ fs, OwnR wr w0.heap.size e.A e.c e.f.v.length)
    (hi : fs[i]? = some e) (hk : New w0 wr) (hs : SpoilQ wr e.A e.c E w5) :
    w5.cell? ⟨g, i * 5, none⟩ = some (.int .i64 e.f.k.i) ∧ w5.frozen? ⟨g, i * 5, none⟩ = false ∧ RowX (w5.setCell ⟨g, i * 5, none⟩ (.int .i64 9)) w0.heap.size (some ⟨g, 0, none⟩) n ∧ New w0 (w5.setCell ⟨g, i * 5, none⟩ (.int .i64 9)) := by
  have he := ho e (List.mem_of_getElem? hi)
  have hne : ∀ e' ∈ fs, ∀ a, e'.A = some a → a.block ≠ g := fun e' he' a ha => ((ho e' he').at_ a ha).1.ne_of hb.at_ (by decide)
  have hb5 : Blk w5 g 38 (fes fs ++ sp) := hb.kept hs.2.1 fun ⟨a, ha, e2⟩ => hne e (List.mem_of_getElem? hi) a ha e2
  refine ⟨?_, hb5.free _, ?_, ?_⟩
  · have : (fes fs)[i * 5]? = some (.int .i64 e.f.k.i) := fes_at fs i 0 e (.int .i64 e.f.k.i) hi (by omega) rfl
    rw [hb5.cell, List.getElem?_append_left (List.getElem?_eq_some_iff.1 this).1]
    exact this
  · refine .inr ⟨g, fs.set i (nine e), sp, rfl, hB, ?_, by rw [List.length_set, hl], fun e' he' => ?_⟩
    · rw [← fes_nine sp fs i e hi]
      exact hb5.put (i * 5) (.int .i64 9)
    · have hS : ∀ x ∈ fs, OwnR (w5.setCell ⟨g, i * 5, none⟩ (.int .i64 9)) w0.heap.size x.A x.c x.f.v.length := fun x hx =>
        (((ho x hx).spoilt he hs)).kept (Kept.set1 w5 g (i * 5) _) fun a ha => hne x hx a ha
      rcases List.mem_or_eq_of_mem_set he' with h | h
      · exact hS e' h
      · subst h
        exact hS e (List.mem_of_getElem? hi)
  · have k5 : New w0 w5 := hk.trans hs.2.1 fun j hj ⟨a, ha, e2⟩ => by
      have := (he.at_ a ha).2
      omega
    exact k5.trans (Kept.set1 w5 g (i * 5) _) fun j hj e2 => by omega

set_option maxRecDepth 100000 in
set_option maxHeartbeats 6400000 in
theorem walk (A : Option Addr) (n c : Nat) (es : List FE) (A' : Option Addr) (n' c' : Nat) (cs : List CE) (k : KY) (w : World) (h : FsIn w A n c es) (hc : CsIn w A' n' c' cs) (_hk : KyIn k) (hs : n ≤ 1048576 ∧ n' ≤ 1048576) :
    Calls Try.prog 4 #[.slice A n c, .slice A' n' c', .agg #[.int .i64 k.i, .int .u8 (k.t : Nat), .string k.n, .int .i64 k.c]] w (True1 w) := by
  obtain ⟨w1, hw1⟩ : ∃ w1, w1 = w.alloc (.cells #[.int .i64 k.i, .int .u8 (k.t : Nat), .string k.n, .int .i64 k.c] 25) := ⟨_, rfl⟩
  have K1 : Hid (New w w1) := by rw [hw1]; exact (Kept.refl _ _).alloc _
  have BK : Hid (∀ u, New w1 u → Blk u w.heap.size 25 [.int .i64 k.i, .int .u8 (k.t : Nat), .string k.n, .int .i64 k.c]) := fun u hu => by rw [hw1] at hu; exact (Blk.made w _ _).kept hu id
  have HW := Lib.hid hw1
  have H := Lib.hid (h.1.new K1.out)
  have HC := Lib.hid (hc.1.new K1.out)
  have HM : Hid (n ≤ c ∧ c ≤ maxLen ∧ n ≤ maxLen) := ⟨h.2.2.1, h.2.2.2.1, Nat.le_trans h.2.2.1 h.2.2.2.1⟩
  have HLF : Hid (∀ es1 : List FE, fts es1 = fts es → es1.length = n) := fun es1 he => by rw [← fts_lenE, he, fts_lenE, H.out.len]
  have HLC : Hid (∀ es1 : List CE, cts es1 = cts cs → es1.length = n') := fun es1 he => by rw [← cts_lenE, he, cts_lenE, HC.out.len]
  obtain ⟨hn, hn'⟩ := hs
  have hbF : n * 64 ≤ 140737488355328 := by omega
  have hbC : n' * 72 ≤ 140737488355328 := by omega
  have hb1 : (n + n') * 64 ≤ 140737488355328 := by omega
  have hb2 : n' * 72 ≤ 140737488351232 := by omega
  have HSC : Hid (SortC n') := sort_all (by omega)
  have HLA : Hid (∀ es1 : List FE, fts es1 = (if ordF (fts es) = true then apF (fts es) (cts cs) else []) → es1.length ≤ 2097152) := fun es1 he => by
    have h1 := apF_len (fts es) (cts cs)
    have h2 : (cts cs).length = n' := by unfold cts; rw [List.length_map, HC.out.len]
    have h3 : (fts es).length = n := by rw [fts_lenE, H.out.len]
    rw [← fts_lenE, he]
    split
    · omega
    · simp
  clear hw1 h hc
  go_enter Try.func4, Try.ntmps4
  go_wp2_with fail
  rw [← HW.out]
  clear HW
  refine (copyFacts_any A n c es w1 H.out hbF).mono ?_
  rintro e w2 ⟨A1, c1, es1, rfl, e1, o1, k2⟩
  rw [HLF.out es1 e1]
  have E1 := Lib.hid e1
  have L1 := Lib.hid (HLF.out es1 e1)
  have O1 := Lib.hid o1
  have K2 := Lib.hid k2
  clear e1 o1 k2
  go_wp2_with fail
  refine (copyChanges_any A' n' c' cs w2 (HC.out.new K2.out) hbC).mono ?_
  rintro e w3 ⟨A2, c2, cs2, rfl, e2, o2, k3⟩
  rw [HLC.out cs2 e2]
  have E2 := Lib.hid e2
  have L2 := Lib.hid (HLC.out cs2 e2)
  have O2 := Lib.hid o2
  have K3 := Lib.hid (K2.out.new k3)
  have I1 : Hid (FIn w3 A1 n es1) := by have := (O1.out.new k3).in_; rw [L1.out] at this; exact this
  have C1 : Hid (n ≤ c1 ∧ c1 ≤ maxLen) := by have h1 := O1.out.1.2.1; have h2 := O1.out.1.2.2.1; rw [L1.out] at h1; exact ⟨h1, h2⟩
  have I2 : Hid (CIn w3 A2 n' cs2) := by have := O2.out.in_; rw [L2.out] at this; exact this
  have N2 : Hid (A2 = none → c2 = 0 ∧ n' = 0) := fun hA => by have := O2.out.none hA; rw [L2.out] at this; exact this
  have CAP : Hid (∀ u, New w3 u → Calls Try.prog 5 #[.slice A1 n c1, .slice A2 n' c2] u (ApP u (fts es1) (cts cs2))) := fun u hu => apply_any A1 n c1 es1 A2 n' c2 cs2 u (I1.out.new hu) C1.out (I2.out.new hu) N2.out hb1 hb2 HSC.out
  clear e2 o2 k3 O1 O2 K2
  go_wp2_with fail
  refine (CAP.out w3 (Kept.refl _ _)).mono ?_
  rintro e w4 ⟨A3, c3, es3, rfl, e3, o3, k4⟩
  rw [E1.out, E2.out] at e3
  have hn3 : es3.length ≤ 2097152 := HLA.out es3 e3
  have X4 := Lib.hid (RowX.of o3)
  have K4 := Lib.hid k4
  generalize es3.length = n3 at *
  clear e3 o3 k4
  obtain ⟨x0, x1, x2, x3⟩ := cells4 (BK.out w4 (K3.out.new K4.out))
  go_wp2_with fail
  refine (find_any A1 n c1 es1 k w4 (I1.out.new K4.out) HM.out.2.2).mono ?_
  rintro e w5 ⟨A4, c4, rfl, o4, k5⟩
  have O4 := Lib.hid o4.ownR
  have K5 := Lib.hid k5
  generalize ((findR (fts es1) k).getD []).length = n4 at *
  generalize (findR (fts es1) k).isSome = b4 at *
  clear o4 k5 x0 x1 x2 x3
  go_wp2_with fail
  refine (spoilR_any A4 c4 w4.heap.size 1 n4 w5 O4.out).mono ?_
  rintro e w6 ⟨rfl, hs6, _⟩
  have K46 : Hid (New w4 w6) := K5.out.trans hs6 fun j hj ⟨a, ha, e2⟩ => by
    have := (O4.out.at_ a ha).2
    omega
  have X6 := Lib.hid (X4.out.new K46.out)
  have K6 := Lib.hid (K4.out.new K46.out)
  clear hs6 O4 K5 K46 X4 K4
  go_wp2_with fail
  go_loopw [12] (fun ti wr => ∃ i : Nat, i ≤ n3 ∧ ti = .int .i64 i ∧ Hid (RowX wr w3.heap.size A3 n3) ∧ Hid (New w3 wr)) (fun ti _ => n3 - (intOf ti).toNat)
  case atStart => exact ⟨0, Nat.zero_le _, rfl, X6, K6⟩
  case round =>
    obtain ⟨i, hi, rfl, VX, VN⟩ := hrel
    clear X6 K6
    by_cases hlt : i < n3
    · rcases VX.out with h0 | ⟨g, fs, sp, eA, hB, hb, hl, ho⟩
      · omega
      subst eA
      obtain ⟨e, he⟩ : ∃ e, fs[i]? = some e := ⟨_, List.getElem?_eq_getElem (by omega)⟩
      have y4 : wr.cell? ⟨g, i * 5 + 4, none⟩ = some (.slice e.A e.f.v.length e.c) := by
        have := fes_at fs i 4 e (.slice e.A e.f.v.length e.c) he (by omega) rfl
        rw [hb.cell, List.getElem?_append_left (List.getElem?_eq_some_iff.1 this).1]
        exact this
      have OE := Lib.hid (ho e (List.mem_of_getElem? he))
      have ST : Hid (∀ w5 E, SpoilQ wr e.A e.c E w5 → w5.cell? ⟨g, i * 5, none⟩ = some (.int .i64 e.f.k.i) ∧ w5.frozen? ⟨g, i * 5, none⟩ = false ∧ RowX (w5.setCell ⟨g, i * 5, none⟩ (.int .i64 9)) w3.heap.size (some ⟨g, 0, none⟩) n3 ∧ New w3 (w5.setCell ⟨g, i * 5, none⟩ (.int .i64 9))) := fun w5 E hs => rowX_step hB hb hl ho he VN.out hs
      clear hB hb hl ho he VX
      go_wp2_with fail
      refine (spoilR_any e.A e.c w3.heap.size 1 e.f.v.length wr OE.out).mono ?_
      rintro e' w7 hq
      have h0 := hq.1
      subst h0
      obtain ⟨y0, f0, x7, k7⟩ := ST.out w7 _ hq
      have X7 := Lib.hid x7
      have K7 := Lib.hid k7
      clear x7 k7 hq ST OE y4
      go_wp2
      go_roundw
      case rel => exact ⟨i + 1, by omega, by go_num, X7, K7⟩
      case measure => simp [intOf]; omega
    · clear VX
      have N1 := Lib.hid (K3.out.new VN.out)
      go_wp2_with fail
      refine (facts0_any A1 A n n c1 c es1 es wr (I1.out.new VN.out) (H.out.new N1.out) HM.out.2.2).mono ?_
      rw [E1.out, decide_eq_true rfl]
      rintro e w8 ⟨rfl, k8⟩
      have K8 := Lib.hid (VN.out.new k8)
      clear k8
      go_wp2_with fail
      refine (changes0_yes A2 A' n' n' c2 c' cs2 cs w8 (I2.out.new K8.out) (HC.out.new (K3.out.new K8.out)) (by unfold maxLen; omega) E2.out).mono ?_
      rintro e w9 ⟨rfl, k9⟩
      have K9 := Lib.hid (K8.out.new k9)
      clear k9 K8
      go_wp2_with fail
      refine (CAP.out w9 K9.out).mono ?_
      rintro e w10 ⟨A5, c5, es5, rfl, e5, o5, k10⟩
      rw [E1.out, E2.out] at e5
      have hn5 : es5.length ≤ 2097152 := HLA.out es5 e5
      have E5 := Lib.hid e5
      have I5 := Lib.hid o5.in_
      have K10 := Lib.hid (K9.out.new k10)
      generalize es5.length = n5 at *
      clear e5 o5 k10 K9
      go_wp2_with fail
      refine (rapply_any A n c es A' n' c' cs w10 (H.out.new (K3.out.new K10.out)) HM.out.2.2 (HC.out.new (K3.out.new K10.out)) hb1).mono ?_
      rintro e w11 ⟨A6, c6, es6, rfl, i6, e6, k11, l6, m6⟩
      have E6 : Hid (fts es5 = fts es6) := E5.out.trans e6.symm
      have I6 := Lib.hid i6
      have I51 := Lib.hid (I5.out.new k11)
      have K11 := Lib.hid (K10.out.new k11)
      generalize es6.length = n6 at *
      clear i6 e6 k11 l6 m6 K10 E5
      go_wp2_with fail
      refine (facts0_any A5 A6 n5 n6 c5 c6 es5 es6 w11 I51.out I6.out (by unfold maxLen; omega)).mono ?_
      rw [E6.out, decide_eq_true rfl]
      rintro e w12 ⟨rfl, k12⟩
      have K12 := Lib.hid (K1.out.new (K3.out.new (K11.out.new k12)))
      clear k12 K11 I51 I6
      go_wp2_with fail
      refine (works6_any _).mono ?_
      rintro e w13 ⟨rfl, k13⟩
      have K13 := Lib.hid (K12.out.new k13)
      clear k13 K12
      go_wp2
      go_ret
      exact ⟨rfl, K13.out⟩

set_option maxRecDepth 100000 in
theorem lifted (os : Os) (started : os.Started) (H : Type) (enc : TypeId × Value → H) (F : Stop.Interp) :
    ReturnsInHanded {} Try.checked os 4 .any ((Rows.OpenSpec.upto Rows.factFreshSpec).pre6 enc Try.prog Try.f4 Rows.factFreshUptoRow.domain false) (((Rows.OpenSpec.upto Rows.factFreshSpec).at F).post enc Try.prog Try.f4 false true false false) := by
  refine lift_upto (C := Try.checked) (s := Rows.factFreshSpec) (tb := 4) own started (by kernel_rfl) Try.func4
    (OpenSpec.witness (enc := enc) (C := Try.checked) (s := Rows.OpenSpec.upto Rows.factFreshSpec) (k := Rows.uptoSmall) rfl false ⟨#[], #[.slice none 0 0, .slice none 0 0, .agg #[.int .i64 0, .int .u8 0, .string .empty, .int .i64 0]], []⟩ 8 (by kernel_rfl) (by kernel_rfl) (by kernel_rfl)
      (x := ([.nil, .nil, .agg [.lit (.int .i64 0), .lit (.int .u8 0), .lit (.string []), .lit (.int .i64 0)]], [], [])) (by kernel_rfl) rfl (by kernel_rfl))
    rfl (by kernel_rfl) Try.underlying4 ?_ laidOut (of_decide_eq_true (by kernel_rfl)) ?_
  · intro ds hd
    match ds, hd with
    | [d0, d1, d2], _ => exact ⟨rfl, rfl, rfl⟩
  · intro W base args ds hA hk
    have hA : Args enc Try.prog W base Try.f4.params.toList args.toList ds := hA
    rw [Try.params4] at hA
    obtain ⟨v0, vs0, d0, ds0, p0, hargs, rfl, a0, hA⟩ := hA.cons_
    obtain ⟨v1, vs1, d1, ds1, p1, rfl, rfl, a1, hA⟩ := hA.cons_
    obtain ⟨v2, vs2, d2, ds2, p2, rfl, rfl, a2, hA⟩ := hA.cons_
    obtain ⟨rfl, rfl⟩ := hA.nil_
    obtain rfl : args = #[v0, v1, v2] := by cases args; simp_all
    obtain ⟨A0, n0, c0, l0, rfl, b0⟩ := a0.facts_
    obtain ⟨A1, n1, c1, l1, rfl, b1⟩ := a1.changes_
    obtain ⟨k2, rfl, b2⟩ := a2.key_
    exact walk A0 n0 c0 l0 A1 n1 c1 l1 k2 W b0 b1 b2 (smallF a0 Try.underlying22 a1 Try.underlying23 hk)

theorem proved : Rows.FactFreshUptoSaid :=
  OpenClaim.holds_of_cond 4 Try.f4 rfl rfl rfl rfl rfl rfl rfl ⟨rfl, rfl, rfl, rfl, rfl⟩ rfl rfl rfl rfl rfl (by kernel_rfl) Try.func4 (by kernel_rfl)
    (of_decide_eq_true (by kernel_rfl)) (by unfold Func.isWrapper; first | (rw [if_pos (by decide +kernel)]; kernel_rfl) | (rw [if_neg (by decide +kernel)]; exact ⟨rfl, rfl⟩))
    (fun os started H enc _ F => lifted os started H enc F)
end Go.Proofs.Ytgdhbnhdmhogkaa.factFresh
