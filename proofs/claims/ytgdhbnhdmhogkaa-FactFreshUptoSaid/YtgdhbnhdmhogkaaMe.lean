/-
  Contracts over lists of facts: what is found.
-/
import Derived.Test.YtgdhbnhdmhogkaaMd
namespace Go.Proofs.Ytgdhbnhdmhogkaa
open Go.RowKit

theorem findF_at : ∀ {l : List FT} {k : KY} {i : Nat} {x : FT}, l[i]? = some x → x.k = k → (∀ j y, j < i → l[j]? = some y → y.k ≠ k) → findF l k = some x.v
  | [], _, _, _, h, _, _ => by simp at h
  | f :: r, k, 0, x, h, hk, _ => by
    simp at h
    subst h
    unfold findF
    rw [if_pos hk]
  | f :: r, k, i + 1, x, h, hk, hn => by
    unfold findF
    rw [if_neg (hn 0 f (by omega) rfl)]
    exact findF_at (by simpa using h) hk fun j y hj hy => hn (j + 1) y (by omega) (by simpa using hy)
theorem find_pl {l : List FT} (h : ordF l = true) (k : KY) : findF l k = if plB l k = true then (l[plN l k]?).map (·.v) else none := by
  by_cases hb : plB l k = true
  · rw [if_pos hb]
    unfold plB at hb
    cases hx : l[plN l k]? with
    | none => rw [hx] at hb; cases hb
    | some x =>
      rw [hx] at hb
      exact findF_at hx (of_decide_eq_true hb) fun j y hj hy e => by
        have := plN_iff h k hy
        rw [e, befK_irr] at this
        exact absurd (of_decide_eq_false this.symm) (by omega)
  · rw [if_neg hb]
    refine findF_none fun f hf e => hb ?_
    obtain ⟨i, hi⟩ := List.mem_iff_getElem?.1 hf
    have h1 := plN_iff h k hi
    rw [e, befK_irr] at h1
    have h2 : ¬ i < plN l k := of_decide_eq_false h1.symm
    unfold plB
    rcases Nat.lt_or_ge (plN l k) i with hlt | hge
    · have hpl : plN l k < l.length := by have := (List.getElem?_eq_some_iff.1 hi).1; omega
      have hx : l[plN l k]? = some l[plN l k] := List.getElem?_eq_getElem hpl
      have h3 := ord_at h hx hi hlt
      rw [e] at h3
      rw [plN_iff h k hx] at h3
      exact absurd (of_decide_eq_true h3) (by omega)
    · rw [show plN l k = i by omega, hi]
      exact decide_eq_true e

def findR (l : List FT) (k : KY) : Option (List Nat) := if ordF l = true then findF l k else none
/-- What Find answers, and leaves. -/
def FndP (w : World) (l : List FT) (k : KY) (e : Ending) (w' : World) : Prop :=
  ∃ A c, e = .returned (.tuple #[.slice A ((findR l k).getD []).length c, .bool (findR l k).isSome]) ∧ OwnB w' 5 w.heap.size A c ((findR l k).getD []) ∧ New w w'

set_option maxRecDepth 100000 in
set_option maxHeartbeats 3200000 in
theorem find_any (A : Option Addr) (n c : Nat) (es : List FE) (k : KY) (w : World) (h : FIn w A n es) (hn : n ≤ maxLen) :
    Calls Try.prog 7 #[.slice A n c, .agg #[.int .i64 k.i, .int .u8 (k.t : Nat), .string k.n, .int .i64 k.c]] w (FndP w (fts es) k) := by
  have HL : Hid ((fts es).length = n) := by show _ = _; unfold fts; rw [List.length_map, h.len]
  have NONE : Hid (findR (fts es) k = none → ∀ w', New w w' → FndP w (fts es) k (.returned (.tuple #[.slice none 0 0, .bool false])) w') := by
    intro hz w' hk
    unfold FndP
    rw [hz]
    exact ⟨none, 0, rfl, OwnB.nil _ _ _, hk⟩
  obtain ⟨w1, hw1⟩ : ∃ w1, w1 = w.alloc (.cells #[.int .i64 k.i, .int .u8 (k.t : Nat), .string k.n, .int .i64 k.c] 25) := ⟨_, rfl⟩
  have n1 : New w w1 := by rw [hw1]; exact (Kept.refl _ _).alloc _
  have BK : Hid (∀ u, New w1 u → Blk u w.heap.size 25 [.int .i64 k.i, .int .u8 (k.t : Nat), .string k.n, .int .i64 k.c]) := fun u hu => by rw [hw1] at hu; exact (Blk.made w _ _).kept hu id
  have H := Lib.hid (h.new n1)
  have N1 := Lib.hid n1
  have HW := Lib.hid hw1
  have HN := Lib.hid hn
  unfold maxLen at hn
  clear h n1 hw1
  have CO : Hid (∀ u, New w1 u → Calls Try.prog 17 #[.slice A n c] u (NewBool u (ordF (fts es)))) := fun u hu => inOrder_any A n c es u (H.out.new hu) HN.out
  cases ho : ordF (fts es) with
  | false =>
    have HZ := Lib.hid (NONE.out (by unfold findR; rw [ho]; rfl))
    rw [ho] at CO
    clear ho NONE
    go_enter Try.func7, Try.ntmps7
    go_wp2_with fail
    rw [← HW.out]
    refine (CO.out _ (Kept.refl _ _)).mono ?_
    rintro e w2 ⟨rfl, k2⟩
    have E9 := Lib.hid (HZ.out w2 (N1.out.new k2))
    clear k2
    go_wp2
    go_ret2
    exact E9.out
  | true =>
    rw [ho] at CO
    have HFP := Lib.hid (find_pl ho k)
    have HR : Hid (findR (fts es) k = findF (fts es) k) := by show _ = _; unfold findR; rw [if_pos ho]
    have CP : Hid (∀ u, New w1 u → Calls Try.prog 19 #[.slice A n c, .agg #[.int .i64 k.i, .int .u8 (k.t : Nat), .string k.n, .int .i64 k.c]] u (PlP u (fts es) k)) := fun u hu => place_any A n c es k u (H.out.new hu) ho HN.out
    clear ho
    go_enter Try.func7, Try.ntmps7
    go_wp2_with fail
    rw [← HW.out]
    clear HW
    refine (CO.out _ (Kept.refl _ _)).mono ?_
    rintro e w2 ⟨rfl, k2⟩
    have K2 := Lib.hid k2
    clear k2
    generalize w.heap.size = gk at *
    obtain ⟨b0, b1, b2, b3⟩ := cells4 (BK.out w2 K2.out)
    go_wp2_with fail
    refine (CP.out _ K2.out).mono ?_
    rintro e w3 ⟨rfl, k3⟩
    have K3 := Lib.hid (K2.out.new k3)
    clear k3 K2 b0 b1 b2 b3 CO CP
    cases hb : plB (fts es) k with
    | false =>
      have E9 := Lib.hid (NONE.out (by rw [HR.out, HFP.out, hb]; rfl) w3 (N1.out.new K3.out))
      clear hb NONE HR HFP
      go_wp2
      go_ret2
      exact E9.out
    | true =>
      have hpn : plN (fts es) k < n := by
        rcases Nat.lt_or_ge (plN (fts es) k) n with hh | hh
        · exact hh
        · unfold plB at hb
          rw [List.getElem?_eq_none (by rw [HL.out]; exact hh)] at hb
          cases hb
      obtain ⟨g, o, x, eA, hx, hok, _, _, _, _, x4⟩ := (H.out.new K3.out).at_ (i := plN (fts es) k) hpn
      subst eA
      have HX : Hid (findR (fts es) k = some x.f.v) := by
        rw [Hid, HR.out, HFP.out, hb, if_pos rfl]
        unfold fts
        rw [List.getElem?_map, show (es[plN (List.map (·.f) es) k]?) = some x from hx]
        rfl
      have HO : Hid (Bts w3 x.A x.f.v.length x.f.v ∧ (x.A = none → x.c = 0 ∧ x.f.v.length = 0) ∧ x.f.v.length ≤ 140737488351232) := ⟨hok.1, hok.2.1, hok.2.2.1⟩
      have FIN : Hid (∀ A4 c4 w4, OwnB w4 5 w3.heap.size A4 c4 x.f.v → New w3 w4 → FndP w (fts es) k (.returned (.tuple #[.slice A4 x.f.v.length c4, .bool true])) w4) := by
        intro A4 c4 w4 ho hk
        unfold FndP
        rw [HX.out]
        exact ⟨A4, c4, rfl, ho.mono (by have := (N1.out.new K3.out).size; omega), (N1.out.new K3.out).new hk⟩
      clear hb hx hok NONE HFP HR HX
      generalize plN (fts es) k = p at *
      generalize x.f.v = v at *
      go_wp2_with fail
      refine (clone_any x.A v.length x.c v _ HO.out.1 HO.out.2.2 HO.out.2.1).mono ?_
      rintro e w4 ⟨A4, c4, rfl, o4, k4⟩
      have E9 := Lib.hid (FIN.out A4 c4 w4 o4 k4)
      clear o4 k4 FIN
      go_wp2
      go_ret2
      exact E9.out
end Go.Proofs.Ytgdhbnhdmhogkaa
