/-
  Contracts: the facts of each page, of the reference.
-/
import Derived.Test.YtbiihjdjbknibaaBe
namespace Go.Proofs.Ytbiihjdjbknibaa
set_option maxRecDepth 100000
open Go.RowKit

/-- A page's facts as they lie. -/
structure PtE where
  es : List FE
  A : Option Addr
  c : Nat

def ptes (ts : List PtE) : List Value := ts.map fun t => .slice t.A t.es.length t.c
def ptf (ts : List PtE) : List (List FT) := ts.map fun t => fts t.es
/-- Rows of facts of the call's own: each fact is one of those that were handed in. -/
def TsOwn (w : World) (B : Nat) (A : Option Addr) (c : Nat) (ts : List PtE) (es0 : List FE) : Prop :=
  OwnV w 22 1 B A ts.length c (ptes ts) ∧ ∀ t ∈ ts, OwnV w 27 5 B t.A t.es.length t.c (fes t.es) ∧ ∀ e ∈ t.es, e ∈ es0
/-- The one that grows, apart from them. -/
def PtOwn (w : World) (B : Nat) (A : Option Addr) (c : Nat) (pe : List FE) (ts : List PtE) (es0 : List FE) : Prop :=
  OwnV w 27 5 B A pe.length c (fes pe) ∧ (∀ e ∈ pe, e ∈ es0) ∧ ∀ t ∈ ts, ∀ a b, t.A = some a → A = some b → a.block ≠ b.block

section
variable {w w' : World} {B c c2 k pc : Nat} {A A2 pA : Option Addr} {ts : List PtE} {pe es0 : List FE}
theorem TsOwn.nil (w : World) (B : Nat) (es0 : List FE) : TsOwn w B none 0 [] es0 := ⟨OwnV.nil _ _ _ _, by simp⟩
theorem TsOwn.new (h : TsOwn w B A c ts es0) (hk : New w w') : TsOwn w' B A c ts es0 := ⟨h.1.new hk, fun t ht => ⟨(h.2 t ht).1.new hk, (h.2 t ht).2⟩⟩
theorem PtOwn.nil (w : World) (B : Nat) (ts : List PtE) (es0 : List FE) : PtOwn w B none 0 [] ts es0 := ⟨OwnV.nil _ _ _ _, by simp, by intro t _ a b _ h; cases h⟩
theorem PtOwn.new (h : PtOwn w B A c pe ts es0) (hk : New w w') : PtOwn w' B A c pe ts es0 := ⟨h.1.new hk, h.2⟩
theorem ptes_append (a b : List PtE) : ptes (a ++ b) = ptes a ++ ptes b := by unfold ptes; rw [List.map_append]
theorem ptf_append (a b : List PtE) : ptf (a ++ b) = ptf a ++ ptf b := by unfold ptf; rw [List.map_append]
/-- A page that ends. -/
theorem TsOwn.more (h : TsOwn w B A c ts es0) (hp : PtOwn w B pA pc pe ts es0) (hk : ts.length = k) (k7 : Kept (InRow A) w w')
    (o7 : OwnV w' 22 1 B A2 (k + 1) c2 (ptes ts ++ [.slice pA pe.length pc])) : TsOwn w' B A2 c2 (ts ++ [⟨pe, pA, pc⟩]) es0 := by
  have hK : ∀ (X : Option Addr) (n' d : Nat) (vs : List Value), OwnV w 27 5 B X n' d vs → OwnV w' 27 5 B X n' d vs := fun X n' d vs he => he.kept k7
    (fun a ha ⟨b, hb, e2⟩ => (he.at_ a ha).1.ne_of (e2 ▸ (h.1.at_ b hb).1) (by decide) rfl)
  refine ⟨?_, fun t ht => ?_⟩
  · rw [List.length_append, ptes_append, hk]
    exact o7
  · rcases List.mem_append.1 ht with ht | ht
    · exact ⟨hK _ _ _ _ (h.2 t ht).1, (h.2 t ht).2⟩
    · rw [List.mem_singleton.1 ht]; exact ⟨hK _ _ _ _ hp.1, hp.2.1⟩
/-- A fact more in the page that grows. -/
theorem PtOwn.more {x : FE} (hp : PtOwn w B pA pc pe ts es0) (h : TsOwn w B A c ts es0) (hx : x ∈ es0) (hk : pe.length = k) (k7 : Kept (InRow pA) w w') (d7 : A2 = pA ∨ ∃ y, A2 = some y ∧ w.heap.size ≤ y.block)
    (o7 : OwnV w' 27 5 B A2 (k + 1) c2 (fes pe ++ x.cells)) : PtOwn w' B A2 c2 (pe ++ [x]) ts es0 ∧ TsOwn w' B A c ts es0 := by
  refine ⟨⟨?_, ?_, ?_⟩, ?_, ?_⟩
  · rw [List.length_append, fes_append, hk]
    simpa [fes] using o7
  · intro e he
    rcases List.mem_append.1 he with he | he
    · exact hp.2.1 e he
    · rw [List.mem_singleton.1 he]; exact hx
  · intro t ht a b ha hb
    rcases d7 with rfl | ⟨y, rfl, hy⟩
    · exact hp.2.2 t ht a b ha hb
    · injection hb with hb
      subst hb
      have := ((h.2 t ht).1.at_ a ha).1.lt
      omega
  · exact h.1.kept k7 fun a ha ⟨b, hb, e2⟩ => (h.1.at_ a ha).1.ne_of (e2 ▸ (hp.1.at_ b hb).1) (by decide) rfl
  · exact fun t ht => ⟨(h.2 t ht).1.kept k7 fun a ha ⟨b, hb, e2⟩ => hp.2.2 t ht a b ha hb e2.symm, (h.2 t ht).2⟩
/-- What stands at a place. -/
theorem TsOwn.get {i : Nat} (h : TsOwn w B A c ts es0) (hi : i < ts.length) : ∃ g t, A = some ⟨g, 0, none⟩ ∧ ts[i]? = some t ∧ w.cell? ⟨g, i, none⟩ = some (.slice t.A t.es.length t.c) ∧ RowV w t.A t.es.length 5 (fes t.es) ∧ ∀ e ∈ t.es, e ∈ es0 := by
  obtain ⟨_, _, _, ho⟩ := h.1
  rcases ho with ⟨_, rfl⟩ | ⟨g, sp, rfl, _, hb, _⟩
  · have := h.1.2.1; omega
  · have hm := h.2 _ (List.getElem_mem hi)
    refine ⟨g, ts[i], rfl, List.getElem?_eq_getElem hi, ?_, hm.1.row, hm.2⟩
    rw [hb.cell, List.getElem?_append_left (by unfold ptes; rw [List.length_map]; exact hi)]
    unfold ptes
    rw [List.getElem?_map, List.getElem?_eq_getElem hi]
    rfl
end

/-- The facts of each page, and an error, come back. -/
def PtsP (w : World) (z : Int) (es : List FE) (e : Ending) (w' : World) : Prop :=
  ∃ A c ts, e = .returned (.tuple #[.slice A ts.length c, .int .i64 (paE z (fts es))]) ∧ ptf ts = paP z (fts es) ∧ TsOwn w' w.heap.size A c ts es ∧ New w w'
theorem pts_no {w u : World} {z E : Int} {es : List FE} (h : paE z (fts es) = E ∧ paP z (fts es) = []) (k : New w u) : PtsP w z es (.returned (.tuple #[.slice none 0 0, .int .i64 E])) u :=
  ⟨none, 0, [], by rw [h.1]; rfl, by rw [h.2]; rfl, TsOwn.nil _ _ _, k⟩
theorem paOk_eq (z : Int) (l : List FT) : paOk z l = (decide (isPg z) && okF l) := rfl

/-- What a page has is far less than a byte counts. -/
theorem ctK_two {room : Nat} {l : List FT} {k : Nat} (hm : ∀ f ∈ l, mayF f = true) (hk : k ≤ l.length) : 2 * (ctK room l k).2.length ≤ sumC (ctK room l k).2 := by
  refine sumC_two fun f hf => hm f ?_
  have : f ∈ l.take k := by rw [← ctK_flat (room := room) k hk]; exact List.mem_append_right _ hf
  exact List.mem_of_mem_take this
theorem ctK_zero2 {room : Nat} {l : List FT} {k : Nat} (h : ∀ f ∈ l.take k, costF f ≤ room) (hk : k ≤ l.length) (h0 : (ctK room l k).2 = []) : k = 0 := by
  rw [← ctK_take] at h0
  exact ((ctP_all (l := l.take k) h k (by rw [List.length_take]; omega)).none h0).1

set_option maxHeartbeats 6400000 in
theorem rParts_any (z : Int) (A : Option Addr) (n c : Nat) (es : List FE) (w : World) (h : FIn w A n es) (hn : n * 64 ≤ 140737488355328) :
    Calls Try.prog 25 #[.int .i64 z, .slice A n c] w (PtsP w z es) := by
  have HL : Hid ((fts es).length = n) := by show _ = _; unfold fts; rw [List.length_map, h.len]
  have H := Lib.hid h
  have HN := Lib.hid hn
  have hnm : n ≤ 2199023255552 := by omega
  have CS : Hid (∀ u, Calls Try.prog 47 #[.int .i64 z] u fun e w' => e = .returned (.bool (decide (isPg z))) ∧ u = w') := fun u => rSize_any z u
  have CO := fun u hu => Lib.hid (rordered_any A n c es u (h.new hu) (by unfold maxLen; omega))
  clear h hn
  by_cases hp : isPg z
  · obtain ⟨R, rfl⟩ : ∃ R : Nat, z = (R : Int) + 6 := ⟨(z - 6).toNat, by unfold isPg at hp; omega⟩
    have hR : 122 ≤ R ∧ R ≤ 250 := by unfold isPg at hp; omega
    have eR : ((R : Int) + 6 - 6).toNat = R := by omega
    have HARG : Hid (okF (fts es) = false → paE ((R : Int) + 6) (fts es) = 2 ∧ paP ((R : Int) + 6) (fts es) = []) := fun h => paE_two (by rw [paOk_eq, h, Bool.and_false])
    have HLIM : Hid (okF (fts es) = true → ∀ f ∈ fts es, R < costF f → paE ((R : Int) + 6) (fts es) = 3 ∧ paP ((R : Int) + 6) (fts es) = []) := fun h f hf hc => paE_three (by rw [paOk_eq, h, decide_eq_true hp]; rfl) (by rw [eR]; exact fits_no hf hc)
    have HYES : Hid (okF (fts es) = true → (∀ f ∈ fts es, costF f ≤ R) → paE ((R : Int) + 6) (fts es) = 0 ∧ paP ((R : Int) + 6) (fts es) = parts R (fts es)) := fun h hc => by
      have := paE_zero (z := (R : Int) + 6) (l := fts es) (by rw [paOk_eq, h, decide_eq_true hp]; rfl) (by rw [eR]; exact List.all_eq_true.2 fun f hf => decide_eq_true (hc f hf))
      rwa [eR] at this
    have CS2 : Hid (∀ u, Calls Try.prog 47 #[.int .i64 ((R : Int) + 6)] u fun e w' => e = .returned (.bool true) ∧ u = w') := fun u => by have := CS.out u; rwa [decide_eq_true hp] at this
    clear hp eR CS
    go_enter Try.func25, Try.ntmps25
    go_wp2_with fail
    refine (CS2.out _).mono ?_
    rintro e w1 ⟨rfl, rfl⟩
    clear CS2
    go_wp2_with fail
    refine (CO _ (Kept.refl _ _)).out.mono ?_
    rintro e w1 ⟨rfl, k1⟩
    have K1 := Lib.hid k1
    clear k1 CO
    cases ho : ordF (fts es)
    · have E := Lib.hid (pts_no (HARG.out (okF_no (k := (fts es).length) (.inl (by rw [List.take_length]; exact ho)))) K1.out)
      clear HARG HLIM HYES ho
      go_wp2
      go_ret2
      exact E.out
    · have HOR := Lib.hid ho
      clear ho
      go_wp2_with fail
      go_loopw [6] (fun i wr => ∃ k : Nat, k ≤ n ∧ i = .int .i64 k ∧ Hid (∀ f ∈ (fts es).take k, mayF f = true) ∧ Hid (New w wr)) (fun i _ => n - (intOf i).toNat)
      case atStart => exact ⟨0, Nat.zero_le _, rfl, by intro f hf; simp at hf, K1.out⟩
      case round =>
        obtain ⟨k, hk, rfl, VA, VN⟩ := hrel
        by_cases hlt : k < n
        · obtain ⟨g, o, x, eA, hx, okx, x0, x1, x2, x3, x4⟩ := (H.out.new VN.out).at_ (i := k) hlt
          subst eA
          have hfx : (fts es)[k]? = some x.f := by unfold fts; rw [List.getElem?_map, hx]; rfl
          have HNO : Hid (mayK x.f.k = false ∨ ¬ 1 ≤ x.f.v.length ∨ ¬ x.f.v.length ≤ 255 → paE ((R : Int) + 6) (fts es) = 2 ∧ paP ((R : Int) + 6) (fts es) = []) := fun h => HARG.out (okF_no (k := 0) (.inr ⟨x.f, List.mem_of_getElem? hfx, mayF_no h⟩))
          have HMO : Hid (mayK x.f.k = true → 1 ≤ x.f.v.length → x.f.v.length ≤ 255 → ∀ f ∈ (fts es).take (k + 1), mayF f = true) := fun h1 h2 h3 => by
            rw [List.take_add_one, hfx]
            intro f hf
            rcases List.mem_append.1 hf with hf | hf
            · exact VA.out f hf
            · simp at hf; subst hf; exact mayF_of h1 h2 h3
          have CM : Hid (∀ u, Calls Try.prog 48 #[.agg #[.int .i64 x.f.k.i, .int .u8 (x.f.k.t : Nat), .string x.f.k.n, .int .i64 x.f.k.c]] u (NewBool u (mayK x.f.k))) := fun u => rmay_any x.f.k u okx.2.2.2
          clear hx okx hfx VA K1
          obtain ⟨fx, Ax, cx⟩ := x
          obtain ⟨kx, vx⟩ := fx
          dsimp only at *
          generalize mayK kx = b at *
          generalize vx.length = vn at *
          have s1 : (0 : Int) ≤ (k : Int) := by omega
          have s3 : (k : Int) < (n : Int) := by omega
          go_wp2_with fail
          refine (CM.out _).mono ?_
          rintro e w3 ⟨rfl, k3⟩
          have N3 := Lib.hid (VN.out.new k3)
          have y4 := k3.cell x4 id
          clear k3 CM VN x0 x1 x2 x3 x4
          cases b
          · have E := Lib.hid (pts_no (HNO.out (.inl rfl)) N3.out)
            clear HNO HMO y4
            go_wp2
            go_ret2
            exact E.out
          · by_cases h1 : 1 ≤ vn
            · have d1 : decide ((vn : Int) < 1) = false := decide_eq_false (by omega)
              by_cases h2 : vn ≤ 255
              · have d2 : decide ((255 : Int) < (vn : Int)) = false := decide_eq_false (by omega)
                have HA := Lib.hid (HMO.out rfl h1 h2)
                clear HMO HNO
                go_wp2
                go_roundw
                case rel => exact ⟨k + 1, by omega, by go_num, HA, N3⟩
                case measure => simp [intOf]; omega
              · have d2 : decide ((255 : Int) < (vn : Int)) = true := decide_eq_true (by omega)
                have E := Lib.hid (pts_no (HNO.out (.inr (.inr h2))) N3.out)
                clear HNO HMO
                go_wp2
                go_ret2
                exact E.out
            · obtain rfl : vn = 0 := by omega
              have E := Lib.hid (pts_no (HNO.out (.inr (.inl h1))) N3.out)
              clear HNO HMO h1
              go_wp2
              go_ret2
              exact E.out
        · obtain rfl : k = n := by omega
          have HMA : Hid (∀ f ∈ fts es, mayF f = true) := by
            have := VA.out
            rwa [List.take_of_length_le (by rw [HL.out]; omega)] at this
          have HOK := Lib.hid (okF_yes HOR.out HMA.out)
          have HLI := Lib.hid (HLIM.out HOK.out)
          have HYE := Lib.hid (HYES.out HOK.out)
          clear VA HOR HOK HARG HLIM HYES K1 hlt hk
          go_wp2_with fail
          go_loopw [7] (fun i wv => ∃ q : Nat, q ≤ k ∧ i = .int .i64 q ∧ Hid (∀ f ∈ (fts es).take q, costF f ≤ R) ∧ Hid (New w wv)) (fun i _ => k - (intOf i).toNat)
          case atStart => exact ⟨0, Nat.zero_le _, rfl, by intro f hf; simp at hf, VN⟩
          case round =>
            obtain ⟨q, hq, rfl, VA, VN2⟩ := hrel
            by_cases hlt : q < k
            · obtain ⟨g, o, x, eA, hx, okx, x0, x1, x2, x3, x4⟩ := (H.out.new VN2.out).at_ (i := q) hlt
              subst eA
              have hfx : (fts es)[q]? = some x.f := by unfold fts; rw [List.getElem?_map, hx]; rfl
              have CC : Hid (∀ u, Calls Try.prog 13 #[.agg #[.int .i64 x.f.k.i, .int .u8 (x.f.k.t : Nat), .string x.f.k.n, .int .i64 x.f.k.c, .slice x.A x.f.v.length x.c]] u (NewNum u (costF x.f : Nat))) := fun u => rcost_any x.f x.A x.c u okx.2.2.2 okx.2.2.1
              have HNO : Hid (R < costF x.f → paE ((R : Int) + 6) (fts es) = 3 ∧ paP ((R : Int) + 6) (fts es) = []) := fun h => HLI.out x.f (List.mem_of_getElem? hfx) h
              have HC1 : Hid (costF x.f ≤ R → ∀ f ∈ (fts es).take (q + 1), costF f ≤ R) := fun h => take_cost hfx h VA.out
              have HCB : Hid (costF x.f ≤ 1000000) := by
                have h1 := HMA.out x.f (List.mem_of_getElem? hfx)
                have h2 := mayF_parts h1
                have h3 := pkL_len x.f.k
                rw [(pk_yes h2.1).1] at h3
                rw [Hid, costF_yes h2.1]
                omega
              clear hx okx hfx VA VN
              obtain ⟨fx, Ax, cx⟩ := x
              obtain ⟨kx, vx⟩ := fx
              dsimp only at *
              generalize costF ⟨kx, vx⟩ = cf at *
              generalize vx.length = vn at *
              have hcb := HCB.out
              have s1 : (0 : Int) ≤ (q : Int) := by omega
              have s3 : (q : Int) < (k : Int) := by omega
              go_wp2_with fail
              refine (CC.out _).mono ?_
              rintro e w3 ⟨rfl, k3⟩
              have N3 := Lib.hid (VN2.out.new k3)
              clear k3 CC VN2 x0 x1 x2 x3 x4
              by_cases hc : R < cf
              · have E := Lib.hid (pts_no (HNO.out hc) N3.out)
                have d0 : decide ((R : Int) + 6 - 5 < 1 + (cf : Int)) = true := decide_eq_true (by omega)
                clear HNO HC1 hc
                go_wp2
                go_ret2
                exact E.out
              · have d0 : decide ((R : Int) + 6 - 5 < 1 + (cf : Int)) = false := decide_eq_false (by omega)
                have HC2 := Lib.hid (HC1.out (by omega))
                clear HC1 HNO hc
                go_wp2
                go_roundw
                case rel => exact ⟨q + 1, by omega, by go_num, HC2, N3⟩
                case measure => simp [intOf]; omega
            · obtain rfl : q = k := by omega
              have HCA : Hid (∀ f ∈ fts es, costF f ≤ R) := by
                have := VA.out
                rwa [List.take_of_length_le (by rw [HL.out]; omega)] at this
              obtain ⟨y1, y2⟩ := HYE.out HCA.out
              have Y1 := Lib.hid y1
              have Y2 := Lib.hid y2
              clear VA HLI HYE hlt hq VN y1 y2
              go_wp2_with fail
              go_loopw [8, 9, 10, 11] (fun o p u i wv => ∃ (k : Nat) (oA : Option Addr) (oc m : Nat) (ts : List PtE) (pA : Option Addr) (pc mp : Nat) (pe : List FE), k ≤ q ∧ m ≤ k ∧ i = .int .i64 k ∧ o = .slice oA m oc ∧ p = .slice pA mp pc ∧ u = .int .i64 (1 + (sumC (ctK R (fts es) k).2 : Nat)) ∧ Hid (ts.length = m) ∧ Hid (pe.length = mp) ∧ Hid (ptf ts = (ctK R (fts es) k).1) ∧ Hid (fts pe = (ctK R (fts es) k).2) ∧ Hid (TsOwn wv w.heap.size oA oc ts es) ∧ Hid (PtOwn wv w.heap.size pA pc pe ts es) ∧ Hid (New w wv)) (fun _ _ _ i _ => q - (intOf i).toNat)
              case atStart => exact ⟨0, none, 0, 0, [], none, 0, 0, [], Nat.zero_le _, Nat.le_refl _, rfl, rfl, rfl, rfl, rfl, rfl, rfl, rfl, TsOwn.nil _ _ _, PtOwn.nil _ _ _ _, VN2⟩
              case round =>
                obtain ⟨k, oA, oc, m, ts, pA, pc, mp, pe, hk, hmk, rfl, rfl, rfl, rfl, HTM, HPM, HTF, HPF, VT, VP, VN3⟩ := hrel
                clear VN2
                by_cases hlt : k < q
                · obtain ⟨g, o, x, eA, hx, okx, _, _, _, _, _⟩ := (H.out.new VN3.out).at_ (i := k) hlt
                  subst eA
                  have S5 : Hid (∀ u, New w u → u.cell? ⟨g, o + k * 5, none⟩ = some (.int .i64 x.f.k.i) ∧ u.cell? ⟨g, o + k * 5 + 1, none⟩ = some (.int .u8 (x.f.k.t : Nat)) ∧ u.cell? ⟨g, o + k * 5 + 2, none⟩ = some (.string x.f.k.n) ∧ u.cell? ⟨g, o + k * 5 + 3, none⟩ = some (.int .i64 x.f.k.c) ∧ u.cell? ⟨g, o + k * 5 + 4, none⟩ = some (.slice x.A x.f.v.length x.c)) := fun u hu => by
                    obtain ⟨g', o', y', eA', hy', _, z0, z1, z2, z3, z4⟩ := (H.out.new hu).at_ (i := k) hlt
                    injection eA' with eA'
                    injection eA' with e1 e2
                    subst e1 e2
                    rw [hx] at hy'
                    injection hy' with hy'
                    subst hy'
                    exact ⟨z0, z1, z2, z3, z4⟩
                  have hfx : (fts es)[k]? = some x.f := by unfold fts; rw [List.getElem?_map, hx]; rfl
                  have HXM := Lib.hid (List.mem_of_getElem? hx)
                  have CC : Hid (∀ u, Calls Try.prog 13 #[.agg #[.int .i64 x.f.k.i, .int .u8 (x.f.k.t : Nat), .string x.f.k.n, .int .i64 x.f.k.c, .slice x.A x.f.v.length x.c]] u (NewNum u (costF x.f : Nat))) := fun u => rcost_any x.f x.A x.c u okx.2.2.2 okx.2.2.1
                  have hkl : k ≤ (fts es).length := by rw [HL.out]; omega
                  have htake : ∀ f ∈ (fts es).take k, costF f ≤ R := fun f hf => HCA.out f (List.mem_of_mem_take hf)
                  have hts := ctK_last (room := R) htake hkl
                  have htwo := ctK_two (room := R) HMA.out hkl
                  have hpl : (ctK R (fts es) k).2.length = mp := by rw [← HPF.out, fts_lenE, HPM.out]
                  rw [hpl] at htwo
                  have hcr := HCA.out x.f (List.mem_of_getElem? hfx)
                  have HZ : Hid (mp = 0 → sumC (ctK R (fts es) k).2 = 0) := fun h => by rw [List.eq_nil_of_length_eq_zero (hpl.trans h)]; rfl
                  have HNEW : Hid (R < sumC (ctK R (fts es) k).2 + costF x.f → ctK R (fts es) (k + 1) = ((ctK R (fts es) k).1 ++ [(ctK R (fts es) k).2], [x.f])) := ctK_new hfx
                  have HMORE : Hid (¬ R < sumC (ctK R (fts es) k).2 + costF x.f → ctK R (fts es) (k + 1) = ((ctK R (fts es) k).1, (ctK R (fts es) k).2 ++ [x.f])) := ctK_more hfx
                  have HSP : Hid (sumC (fts pe) = sumC (ctK R (fts es) k).2) := by rw [Hid, HPF.out]
                  clear hx okx hfx hkl htake hpl
                  obtain ⟨xf, Ax, cx⟩ := x
                  dsimp only at *
                  generalize hcf : costF xf = cf at *
                  have HCF := Lib.hid hcf
                  clear hcf
                  generalize hsm : sumC (ctK R (fts es) k).2 = sm at *
                  clear hsm
                  have ONE : Hid (∀ u ∈ [Value.int .i64 xf.k.i, .int .u8 (xf.k.t : Nat), .string xf.k.n, .int .i64 xf.k.c, .slice Ax xf.v.length cx], u.oneCell') := by intro u hu; simp at hu; rcases hu with rfl | rfl | rfl | rfl | rfl <;> rfl
                  obtain ⟨kx, vx⟩ := xf
                  dsimp only at *
                  generalize hvn : vx.length = vn at *
                  have HVN := Lib.hid hvn
                  clear hvn
                  have s1 : (0 : Int) ≤ (k : Int) := by omega
                  have s3 : (k : Int) < (q : Int) := by omega
                  go_upto_region 19 with fail
                  go_cut [91] (fun v wx => ∃ r : Bool, v = .bool r ∧ Hid (r = decide (R < sm + cf)) ∧ Hid (New wr wx))
                  case first =>
                    by_cases h0 : mp = 0
                    · have hz := HZ.out h0
                      have d0 : decide (0 < mp) = false := decide_eq_false (by omega)
                      have HRR : Hid (false = decide (R < sm + cf)) := (decide_eq_false (by omega)).symm
                      clear h0 hz
                      go_wp2
                      go_meet
                      case rel => exact ⟨false, rfl, HRR, Kept.refl _ _⟩
                    · have d0 : decide (0 < mp) = true := decide_eq_true (by omega)
                      have d3 : ((mp : Int) == 255) = false := beq_eq_false_iff_ne.2 (by omega)
                      obtain ⟨x0, x1, x2, x3, x4⟩ := S5.out _ VN3.out
                      go_wp2_with fail
                      refine (CC.out _).mono ?_
                      rintro e w3 ⟨rfl, k3⟩
                      have N3 := Lib.hid k3
                      clear k3 CC x0 x1 x2 x3 x4
                      by_cases h5 : R < sm + cf
                      · have d5 : decide ((R : Int) + 6 - 5 < 1 + (sm : Int) + (cf : Int)) = true := decide_eq_true (by omega)
                        have HRR : Hid (true = decide (R < sm + cf)) := (decide_eq_true h5).symm
                        go_wp2
                        go_meet
                        case rel => exact ⟨true, rfl, HRR, N3⟩
                      · have d5 : decide ((R : Int) + 6 - 5 < 1 + (sm : Int) + (cf : Int)) = false := decide_eq_false (by omega)
                        have HRR : Hid (false = decide (R < sm + cf)) := (decide_eq_false h5).symm
                        go_wp2
                        go_meet
                        case rel => exact ⟨false, rfl, HRR, N3⟩
                  case rest =>
                    obtain ⟨r, rfl, HRR, k3⟩ := hcut
                    have N3 := Lib.hid (VN3.out.new k3.out)
                    have T3 := Lib.hid (VT.out.new k3.out)
                    have P3 := Lib.hid (VP.out.new k3.out)
                    clear k3 VN3 VT VP HZ
                    have hq64 := HN.out
                    go_upto_if 91 with fail
                    go_cut [8, 9, 10] (fun o p u wx => ∃ (oA : Option Addr) (oc m : Nat) (ts : List PtE) (pA : Option Addr) (pc mp : Nat) (pe : List FE), m ≤ k + 1 ∧ mp ≤ 125 ∧ sumC (fts pe) ≤ R ∧ o = .slice oA m oc ∧ p = .slice pA mp pc ∧ u = .int .i64 (1 + (sumC (fts pe) : Nat)) ∧ Hid (ts.length = m) ∧ Hid (pe.length = mp) ∧ Hid (ptf ts = (ctK R (fts es) (k + 1)).1) ∧ Hid (fts pe ++ [⟨kx, vx⟩] = (ctK R (fts es) (k + 1)).2) ∧ Hid (TsOwn wx w.heap.size oA oc ts es) ∧ Hid (PtOwn wx w.heap.size pA pc pe ts es) ∧ Hid (New w wx))
                    case first =>
                      cases r with
                      | true =>
                        have e1 := HNEW.out (of_decide_eq_true HRR.out.symm)
                        have HTF2 : Hid (ptf (ts ++ [⟨pe, pA, pc⟩]) = (ctK R (fts es) (k + 1)).1) := by
                          rw [Hid, e1, ptf_append, HTF.out, ← HPF.out]; rfl
                        have HPF2 : Hid (fts [] ++ [⟨kx, vx⟩] = (ctK R (fts es) (k + 1)).2) := by rw [Hid, e1]; rfl
                        clear HNEW HMORE HRR e1
                        obtain ⟨w4, hw4⟩ : ∃ w4, w4 = wc.alloc (.cells #[.slice pA mp pc] 22) := ⟨_, rfl⟩
                        have m4 : New wc w4 := by rw [hw4]; exact (Kept.refl _ _).alloc _
                        have B4 : Hid (Blk w4 wc.heap.size 22 [.slice pA mp pc]) := by rw [hw4]; exact Blk.made wc _ _
                        have N4 := Lib.hid (N3.out.new m4)
                        have T4 := Lib.hid (T3.out.new m4)
                        have P4 := Lib.hid (P3.out.new m4)
                        have W4 : Hid (OwnV w4 22 1 w.heap.size oA m oc (ptes ts)) := by have := T4.out.1; rwa [HTM.out] at this
                        have HW4 := Lib.hid hw4
                        clear m4 hw4 N3 T3 P3
                        go_wp2_with (at_builtin; rw [← HW4.out]; refine wpList_append_facts2 rfl _ _ rfl w.heap.size oA m oc _ rfl W4.out wc.heap.size 1 (.slice pA mp pc) rfl rfl B4.out (by omega) N4.out.size ?_)
                        intro A5 c5 w5 O5 K5
                        have T5 : Hid (TsOwn w5 w.heap.size A5 c5 (ts ++ [⟨pe, pA, pc⟩]) es) := TsOwn.more T4.out P4.out HTM.out K5.out (by rw [HPM.out]; exact O5.out)
                        have N5 : Hid (New w w5) := new_row N4.out W4.out K5.out
                        have HTM2 : Hid ((ts ++ [(⟨pe, pA, pc⟩ : PtE)]).length = m + 1) := by rw [Hid, List.length_append, HTM.out]; rfl
                        clear O5 K5 W4 N4 T4 P4 B4 HW4
                        go_wp2
                        go_meet
                        case rel => exact ⟨A5, c5, m + 1, _, none, 0, 0, [], by omega, by omega, by simp [fts, sumC], rfl, rfl, by simp [fts, sumC], HTM2, rfl, HTF2, HPF2, T5, PtOwn.nil _ _ _ _, N5⟩
                      | false =>
                        have e1 := HMORE.out (of_decide_eq_false HRR.out.symm)
                        have HTF2 : Hid (ptf ts = (ctK R (fts es) (k + 1)).1) := by rw [Hid, e1]; exact HTF.out
                        have HPF2 : Hid (fts pe ++ [⟨kx, vx⟩] = (ctK R (fts es) (k + 1)).2) := by rw [Hid, e1, HPF.out]
                        have hsp := HSP.out
                        clear HNEW HMORE HRR e1
                        go_wp2
                        go_meet
                        case rel => exact ⟨oA, oc, m, ts, pA, pc, mp, pe, by omega, by omega, by omega, rfl, rfl, by rw [hsp], HTM, HPM, HTF2, HPF2, T3, P3, N3⟩
                    case rest =>
                      obtain ⟨oA, oc, m, ts, pA, pc, mp, pe, hm1, hmp1, hsp1, rfl, rfl, rfl, HTM, HPM, HTF, HPF, T4, P4, N4⟩ := hcut
                      clear T3 P3 N3 HNEW HMORE HRR HSP
                      have HSM : Hid (sumC (fts pe) + cf = sumC (ctK R (fts es) (k + 1)).2) := by
                        rw [Hid, ← HPF.out, sumC_append]
                        simp only [sumC, HCF.out]
                        omega
                      have hcf2 : cf ≤ 250 := by omega
                      obtain ⟨x0, x1, x2, x3, x4⟩ := S5.out _ N4.out
                      obtain ⟨w5, hw5⟩ : ∃ w5, w5 = wc.alloc (.cells #[.int .i64 kx.i, .int .u8 (kx.t : Nat), .string kx.n, .int .i64 kx.c, .slice Ax vn cx] 27) := ⟨_, rfl⟩
                      have m5 : New wc w5 := by rw [hw5]; exact (Kept.refl _ _).alloc _
                      have B5 : Hid (Blk w5 wc.heap.size 27 [.int .i64 kx.i, .int .u8 (kx.t : Nat), .string kx.n, .int .i64 kx.c, .slice Ax vn cx]) := by rw [hw5]; exact Blk.made wc _ _
                      have N5 := Lib.hid (N4.out.new m5)
                      have T5 := Lib.hid (T4.out.new m5)
                      have P5 := Lib.hid (P4.out.new m5)
                      have W5 : Hid (OwnV w5 27 5 w.heap.size pA mp pc (fes pe)) := by have := P5.out.1; rwa [HPM.out] at this
                      have HW5 := Lib.hid hw5
                      generalize hsf : sumC (fts pe) = sf at *
                      clear hsf
                      clear m5 hw5 N4 T4 P4
                      go_wp2_with (at_builtin; rw [← HW5.out]; refine wpList_append_fact (wb := w5) rfl _ _ rfl w.heap.size pA mp pc (fes pe) rfl W5.out (Kept.refl _ _) wc.heap.size 1 [.int .i64 kx.i, .int .u8 (kx.t : Nat), .string kx.n, .int .i64 kx.c, .slice Ax vn cx] rfl B5.out rfl ONE.out (by omega) N5.out.size ?_)
                      intro A6 c6 w6 O6 K6 D6
                      have N6 : Hid (New w w6) := new_row N5.out W5.out K6.out
                      have PT6 := PtOwn.more (x := ⟨⟨kx, vx⟩, Ax, cx⟩) P5.out T5.out HXM.out HPM.out K6.out D6.out (by have := O6.out; rw [← HVN.out] at this; exact this)
                      have P6 := Lib.hid PT6.1
                      have T6 := Lib.hid PT6.2
                      have HPM2 : Hid ((pe ++ [(⟨⟨kx, vx⟩, Ax, cx⟩ : FE)]).length = mp + 1) := by rw [Hid, List.length_append, HPM.out]; rfl
                      have HPF2 : Hid (fts (pe ++ [(⟨⟨kx, vx⟩, Ax, cx⟩ : FE)]) = (ctK R (fts es) (k + 1)).2) := by
                        rw [Hid, ← HPF.out]; unfold fts; rw [List.map_append]; rfl
                      clear PT6 O6 K6 D6 W5 N5 T5 P5 B5 HW5 HPM HPF x0 x1 x2 x3 x4
                      obtain ⟨x0, x1, x2, x3, x4⟩ := S5.out _ N6.out
                      go_wp2_with fail
                      refine (CC.out _).mono ?_
                      rintro e w7 ⟨rfl, k7⟩
                      have N7 := Lib.hid (N6.out.new k7)
                      have T7 := Lib.hid (T6.out.new k7)
                      have P7 := Lib.hid (P6.out.new k7)
                      clear k7 CC N6 T6 P6 x0 x1 x2 x3 x4 S5
                      go_wp2
                      go_roundw
                      case rel => exact ⟨k + 1, oA, oc, m, ts, A6, c6, mp + 1, _, by omega, by omega, by go_num, rfl, rfl, by rw [← HSM.out]; go_num, HTM, HPM2, HTF, HPF2, T7, P7, N7⟩
                      case measure => simp [intOf]; omega
                · obtain rfl : k = q := by omega
                  have hk24 := HN.out
                  by_cases h0 : mp = 0
                  · have hz : (ctK R (fts es) k).2 = [] := List.eq_nil_of_length_eq_zero (by rw [← HPF.out, fts_lenE, HPM.out]; exact h0)
                    have hk0 := ctK_zero2 (room := R) (fun f hf => HCA.out f (List.mem_of_mem_take hf)) (by rw [HL.out]; omega) hz
                    have hl0 : fts es = [] := List.eq_nil_of_length_eq_zero (by rw [HL.out]; exact hk0)
                    have d0 : decide (0 < mp) = false := decide_eq_false (by omega)
                    have E9 : Hid (PtsP w ((R : Int) + 6) es (.returned (.tuple #[.slice oA m oc, .int .i64 0])) wr) := by
                      refine ⟨oA, oc, ts, by rw [Y1.out, HTM.out], ?_, VT.out, VN3.out⟩
                      rw [HTF.out, Y2.out, hl0, parts_nil, hk0]
                      rfl
                    clear h0 hz hk0 hl0 VT VP VN3 HTM HPM HTF HPF Y1 Y2
                    go_wp2
                    go_ret2
                    exact E9.out
                  · have d0 : decide (0 < mp) = true := decide_eq_true (by omega)
                    have hl0 : fts es ≠ [] := fun e => by
                      have h1 := HPF.out
                      have h2 := HL.out
                      rw [e] at h2
                      have h3 : k = 0 := h2.symm
                      rw [h3] at h1
                      have h4 := congrArg List.length h1
                      rw [fts_lenE, HPM.out] at h4
                      exact h0 h4
                    have HEQ : Hid (ptf (ts ++ [⟨pe, pA, pc⟩]) = paP ((R : Int) + 6) (fts es)) := by
                      rw [Hid, Y2.out, parts_ne hl0, HL.out, ptf_append, HTF.out, ← HPF.out]; rfl
                    clear h0 hl0 Y2 HTF HPF
                    obtain ⟨w4, hw4⟩ : ∃ w4, w4 = wr.alloc (.cells #[.slice pA mp pc] 22) := ⟨_, rfl⟩
                    have m4 : New wr w4 := by rw [hw4]; exact (Kept.refl _ _).alloc _
                    have B4 : Hid (Blk w4 wr.heap.size 22 [.slice pA mp pc]) := by rw [hw4]; exact Blk.made wr _ _
                    have N4 := Lib.hid (VN3.out.new m4)
                    have T4 := Lib.hid (VT.out.new m4)
                    have P4 := Lib.hid (VP.out.new m4)
                    have W4 : Hid (OwnV w4 22 1 w.heap.size oA m oc (ptes ts)) := by have := T4.out.1; rwa [HTM.out] at this
                    have HW4 := Lib.hid hw4
                    clear m4 hw4 VN3 VT VP
                    go_wp2_with (at_builtin; rw [← HW4.out]; refine wpList_append_facts2 rfl _ _ rfl w.heap.size oA m oc _ rfl W4.out wr.heap.size 1 (.slice pA mp pc) rfl rfl B4.out (by omega) N4.out.size ?_)
                    intro A5 c5 w5 O5 K5
                    have T5 : Hid (TsOwn w5 w.heap.size A5 c5 (ts ++ [⟨pe, pA, pc⟩]) es) := TsOwn.more T4.out P4.out HTM.out K5.out (by rw [HPM.out]; exact O5.out)
                    have N5 : Hid (New w w5) := new_row N4.out W4.out K5.out
                    have E9 : Hid (PtsP w ((R : Int) + 6) es (.returned (.tuple #[.slice A5 (m + 1) c5, .int .i64 0])) w5) := by
                      exact ⟨A5, c5, _, by rw [Y1.out, List.length_append, HTM.out]; rfl, HEQ.out, T5.out, N5.out⟩
                    clear O5 K5 W4 N4 T4 P4 B4 HW4 HEQ T5 N5 Y1 HTM HPM
                    go_wp2
                    go_ret2
                    exact E9.out
  · have CS2 : Hid (∀ u, Calls Try.prog 47 #[.int .i64 z] u fun e w' => e = .returned (.bool false) ∧ u = w') := fun u => by have := CS.out u; rwa [decide_eq_false hp] at this
    have E := Lib.hid (pts_no (w := w) (u := w) (es := es) (paE_two (z := z) (l := fts es) (by rw [paOk_eq, decide_eq_false hp]; rfl)) (Kept.refl _ _))
    clear hp CS CO
    go_enter Try.func25, Try.ntmps25
    go_wp2_with fail
    refine (CS2.out _).mono ?_
    rintro e w1 ⟨rfl, rfl⟩
    clear CS2
    go_wp2
    go_ret2
    exact E.out

theorem rMany_any (z : Int) (A : Option Addr) (n c : Nat) (es : List FE) (w : World) (h : FIn w A n es) (hn : n * 64 ≤ 140737488355328) :
    Calls Try.prog 11 #[.int .i64 z, .slice A n c] w (ManyP w z (fts es)) := by
  have CP := Lib.hid (rParts_any z A n c es w h hn)
  clear h hn
  go_enter Try.func11, Try.ntmps11
  go_wp2_with fail
  refine CP.out.mono ?_
  rintro e w1 ⟨A1, c1, ts, rfl, ht, _, k1⟩
  have hl : ts.length = (paP z (fts es)).length := by rw [← ht]; unfold ptf; rw [List.length_map]
  rw [hl]
  have E : Hid (ManyP w z (fts es) (.returned (.tuple #[.int .i64 ((paP z (fts es)).length : Nat), .int .i64 (paE z (fts es))])) w1) := ⟨rfl, k1⟩
  clear k1 CP ht hl
  generalize paE z (fts es) = pe at *
  generalize (paP z (fts es)).length = m at *
  go_wp2
  go_ret2
  exact E.out

set_option maxHeartbeats 6400000 in
theorem rPages_any (z : Int) (A : Option Addr) (n c : Nat) (es : List FE) (w : World) (h : FIn w A n es) (hn : n * 64 ≤ 140737488355328) :
    Calls Try.prog 9 #[.int .i64 z, .slice A n c] w (PgsP ROwn w z (fts es)) := by
  have HL : Hid ((fts es).length = n) := by show _ = _; unfold fts; rw [List.length_map, h.len]
  have H := Lib.hid h
  have hnm : n ≤ 2199023255552 := by omega
  have CP := Lib.hid (rParts_any z A n c es w h hn)
  have HPL : Hid ((paP z (fts es)).length ≤ n) := by have := paP_len (z := z) (l := fts es); rwa [HL.out] at this
  clear h hn
  go_enter Try.func9, Try.ntmps9
  go_wp2_with fail
  refine CP.out.mono ?_
  rintro e w1 ⟨A1, c1, ts, rfl, ht, o1, k1⟩
  have T1 := Lib.hid o1
  have K1 := Lib.hid k1
  have HT := Lib.hid ht
  have HM : Hid (ts.length = (paP z (fts es)).length) := by rw [Hid, ← ht]; unfold ptf; rw [List.length_map]
  clear o1 k1 ht CP
  rw [HM.out]
  by_cases he : paE z (fts es) = 0
  · have HE := Lib.hid he
    have hm2 := HPL.out
    rw [he]
    clear he
    generalize hm : (paP z (fts es)).length = m at *
    have HMM := Lib.hid hm
    clear hm
    go_wp2_with fail
    go_loopw [8, 9] (fun o i wr => ∃ (j : Nat) (A' : Option Addr) (c' : Nat) (gs : List GE), j ≤ m ∧ i = .int .i64 j ∧ o = .slice A' j c' ∧ Hid (gs.length = j) ∧ Hid (gls gs = (pgL z (fts es)).take j) ∧ Hid (GOwn ROwn wr w1.heap.size A' c' gs) ∧ Hid (gs.Pairwise Dif) ∧ Hid (New w1 wr)) (fun _ i _ => m - (intOf i).toNat)
    case atStart => exact ⟨0, none, 0, [], Nat.zero_le _, rfl, rfl, rfl, rfl, GOwn.nil _ _ _, List.Pairwise.nil, Kept.refl _ _⟩
    case round =>
      obtain ⟨j, A', c', gs, hj, rfl, rfl, HGL, HGS, VO, HD, VN⟩ := hrel
      by_cases hlt : j < m
      · obtain ⟨p, hp⟩ : ∃ p, (paP z (fts es))[j]? = some p := ⟨_, List.getElem?_eq_getElem (by rw [HMM.out]; exact hlt)⟩
        obtain ⟨p0, pm, ps⟩ := paP_part HE.out (List.mem_of_getElem? hp)
        obtain ⟨N, hz, hN1, hN2, _, hpl, _, hpu, hpe, _⟩ := part_page (paE_ok HE.out).1 p0 pm ps
        obtain ⟨g1, t, rfl, hgt, x0, rt, ht⟩ := (T1.out.new VN.out).get (i := j) (by rw [HM.out]; exact hlt)
        have HFT : Hid (fts t.es = p) := by
          have h1 : (ptf ts)[j]? = some (fts t.es) := by unfold ptf; rw [List.getElem?_map, hgt]; rfl
          rw [HT.out, hp] at h1
          injection h1 with h1
          exact h1.symm
        have HF : Hid (FIn wr t.A t.es.length t.es) := ⟨rt, fun e he => ((H.out.new K1.out).new VN.out).2 e (ht e he)⟩
        have hpn : t.es.length ≤ 125 := by
          have := congrArg List.length HFT.out
          rw [fts_lenE] at this
          omega
        have HPG := Lib.hid (pgL_at hp)
        clear p0 pm ps hz hp hN1 hN2 hpu hgt rt ht hpl
        obtain ⟨sub, tA, tc⟩ := t
        dsimp only at *
        generalize hsn : sub.length = sn at *
        have HSN := Lib.hid hsn
        clear hsn
        have s1 : (0 : Int) ≤ (j : Int) := by omega
        have s3 : (j : Int) < (m : Int) := by omega
        have CC := Lib.hid (rputs_any tA sn tc sub wr HF.out (by omega))
        go_wp2_with fail
        refine CC.out.mono ?_
        rintro e w2 ⟨A2, c2, rfl, r2, k2⟩
        rw [HSN.out] at r2 ⊢
        have N2 := Lib.hid (VN.out.new k2)
        have V2 := Lib.hid (VO.out.new pr_own k2)
        have CI : Hid (CIn w2 A2 sn (fcs sub)) := by have := chg_in HF.out k2 (by rw [HSN.out]; exact r2); rwa [HSN.out] at this
        have CPU := Lib.hid (rrecPut_any z A2 sn c2 (fcs sub) w2 CI.out (by unfold maxLen; omega))
        have HCT : Hid (cts (fcs sub) = p.map toC) := by rw [Hid, fcs_cts, HFT.out]
        rw [HCT.out, hpe] at CPU
        clear r2 k2 CC VN VO CI HCT HF HFT hpe x0
        go_wp2_with fail
        refine CPU.out.mono ?_
        rintro e w3 ⟨A3, c3, rfl, p3, k3⟩
        have P3 : Hid (ROwn w3 w1.heap.size A3 c3 (puL z (p.map toC))) := pr_own.mono p3 N2.out.size
        have N3 := Lib.hid (N2.out.new k3)
        have V3 := Lib.hid (V2.out.new pr_own k3)
        have D5 := Lib.hid (dif_more pr_own HD.out V2.out (show ROwn w3 w2.heap.size A3 c3 _ from p3))
        clear p3 k3 CPU N2 V2 HD
        generalize puL z (p.map toC) = pg at *
        obtain ⟨w4, hw4⟩ : ∃ w4, w4 = w3.alloc (.cells #[.slice A3 pg.length c3] 25) := ⟨_, rfl⟩
        have m4 : New w3 w4 := by rw [hw4]; exact (Kept.refl _ _).alloc _
        have B4 : Hid (Blk w4 w3.heap.size 25 [.slice A3 pg.length c3]) := by rw [hw4]; exact Blk.made w3 _ _
        have P4 : Hid (ROwn w4 w1.heap.size A3 c3 pg) := pr_own.kept P3.out m4 fun _ _ f => f
        have N4 := Lib.hid (N3.out.new m4)
        have V4 := Lib.hid (V3.out.new pr_own m4)
        have W4 : Hid (OwnV w4 25 1 w1.heap.size A' j c' (ges gs)) := by have := V4.out.1; rwa [HGL.out] at this
        have HW4 := Lib.hid hw4
        clear m4 hw4 N3 V3 P3
        go_wp2_with (at_builtin; rw [← HW4.out]; refine wpList_append_bytes2 rfl _ _ rfl w1.heap.size A' j c' _ rfl W4.out w3.heap.size 1 (.slice A3 pg.length c3) rfl rfl B4.out (by omega) N4.out.size ?_)
        intro A5 c5 w5 O5 K5
        have V5 : Hid (GOwn ROwn w5 w1.heap.size A5 c5 (gs ++ [⟨pg, A3, c3⟩])) := GOwn.more pr_own V4.out P4.out HGL.out K5.out O5.out
        have N5 : Hid (New w1 w5) := new_row N4.out W4.out K5.out
        have HGL5 : Hid ((gs ++ [(⟨pg, A3, c3⟩ : GE)]).length = j + 1) := by rw [Hid, List.length_append, HGL.out]; rfl
        have HGS5 : Hid (gls (gs ++ [(⟨pg, A3, c3⟩ : GE)]) = (pgL z (fts es)).take (j + 1)) := by
          rw [Hid, List.take_add_one, HPG.out, ← HGS.out]
          unfold gls
          rw [List.map_append]
          rfl
        clear O5 K5 V4 P4 W4 B4 HW4 N4 HGL HGS HPG
        go_wp2
        go_roundw
        case rel => exact ⟨j + 1, A5, c5, _, by omega, by go_num, rfl, HGL5, HGS5, V5, D5, N5⟩
        case measure => simp [intOf]; omega
      · obtain rfl : j = m := by omega
        have E9 : Hid (PgsP ROwn w z (fts es) (.returned (.tuple #[.slice A' j c', .int .i64 0])) wr) := by
          have hg := HGS.out
          rw [List.take_of_length_le (by rw [pgL_len, HMM.out]; exact Nat.le_refl _)] at hg
          exact ⟨A', c', gs, by rw [HE.out, HGL.out], hg, ⟨VO.out.1.mono K1.out.size, fun e he => pr_own.mono (VO.out.2 e he) K1.out.size⟩, HD.out, K1.out.new VN.out⟩
        clear VO VN HGL HGS HD
        go_wp2
        go_ret2
        exact E9.out
  · have E := Lib.hid (pgs_no (R := ROwn) (w := w) (u := w1) rfl he K1.out)
    have d0 : (paE z (fts es) == 0) = false := beq_eq_false_iff_ne.2 he
    clear he HT
    generalize paE z (fts es) = pe at *
    generalize (paP z (fts es)).length = m at *
    clear T1 K1 HM
    go_wp2
    go_ret2
    exact E.out
end Go.Proofs.Ytbiihjdjbknibaa
