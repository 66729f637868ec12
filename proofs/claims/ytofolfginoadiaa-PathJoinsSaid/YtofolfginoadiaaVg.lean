/-
  Contracts of layer 5: Join of both sides.
-/
import Derived.Test.YtofolfginoadiaaVf
namespace Go.Proofs.Ytofolfginoadiaa
open Go.RowKit

/-- A path, and an error. -/
def RetJ (w : World) (g : List (List UInt8)) (e : Ending) (w' : World) : Prop := e = .returned (.tuple #[.string ⟨(jS g).toArray⟩, .int .i64 ((jE g : Nat) : Int)]) ∧ New w w'

theorem jP_bad {g : List (List UInt8)} {x : Nat} (h : jE g = x) (hx : x ≠ 0) : jS g = [] := jS_bad (by rw [h]; exact hx)

theorem RetJ.err {w w' : World} {g : List (List UInt8)} {x : Nat} {y : Int} {e : Ending} (he : e = .returned (.tuple #[.string ⟨#[]⟩, .int .i64 y])) (h : jE g = x) (hx : x ≠ 0) (hy : y = x) (hk : New w w') : RetJ w g e w' := by
  refine ⟨?_, hk⟩
  rw [jP_bad h hx, h, he, hy]

theorem names_succ (g : List (List UInt8)) (k : Nat) (x : List UInt8) (h : g[k]? = some x) : (g.take (k + 1)).all nameL = ((g.take k).all nameL && nameL x) := by
  rw [List.take_add_one, h]
  simp

theorem names_bad (g : List (List UInt8)) (k : Nat) (x : List UInt8) (h : g[k]? = some x) (hx : nameL x = false) : jE g = 2 := by
  unfold jE
  rw [if_neg]
  intro e
  rw [List.all_eq_true.1 e x (List.mem_of_getElem? h)] at hx
  cases hx

theorem jE_many {g : List (List UInt8)} (h : g.all nameL = true) (h6 : 6 < g.length) : jE g = 3 := by unfold jE; rw [if_pos h, if_pos h6]
theorem jE_ok {g : List (List UInt8)} (h : g.all nameL = true) (h6 : ¬ 6 < g.length) : jE g = 0 ∧ jS g = 47 :: Lib.join g [47] := by
  have e : jE g = 0 := by unfold jE; rw [if_pos h, if_neg h6]
  exact ⟨e, by unfold jS; rw [if_pos e]⟩

theorem lens_le : ∀ (g : List (List UInt8)), (∀ x ∈ g, x.length ≤ 12) → Lib.lens g ≤ 12 * g.length
  | [], _ => by simp [Lib.lens]
  | x :: r, h => by
    have := lens_le r fun y hy => h y (by simp [hy])
    have := h x (by simp)
    simp only [Lib.lens, List.map_cons, List.sum_cons, List.length_cons] at *
    omega

theorem tail_le (g : List (List UInt8)) (h : g.all nameL = true) : (Lib.joinTail [47] g).length ≤ 13 * g.length := by
  rw [Lib.joinTail_length]
  have := lens_le g fun x hx => (name_ne (List.all_eq_true.1 h x hx)).2.1
  simp
  omega

theorem tail_join {g : List (List UInt8)} (h : g ≠ []) : Lib.joinTail [47] g = 47 :: Lib.join g [47] := by
  cases g with
  | nil => exact absurd rfl h
  | cons x r =>
    rw [Lib.join_cons]
    simp [Lib.joinTail]

theorem map_tx (g : List (List UInt8)) : (g.map (fun x => (⟨x.toArray⟩ : ByteArray))).map (·.data.toList) = g := by
  rw [List.map_map]
  conv => rhs; rw [← List.map_id g]
  apply List.map_congr_left
  intro x _
  rfl

set_option maxHeartbeats 2000000 in
theorem join_any (A : Option Addr) (n c : Nat) (g : List (List UInt8)) (w : World) (ha : Txs w A n g) (hn : n ≤ maxLen) (hnc : n ≤ c) (hx : ∀ x ∈ g, x.length ≤ maxLen) :
    Calls Try.prog 14 #[.slice A n c] w (RetJ w g) := by
  unfold maxLen at hn
  have hg := ha.len
  have HX := Lib.hid hx
  clear hx
  go_enter Try.func14, Try.ntmps14
  go_wp2_with fail
  go_loopw [8] (fun i wr => ∃ k : Nat, k ≤ n ∧ i = .int .i64 k ∧ wr = w ∧ Hid ((g.take k).all nameL = true)) (fun i _ => n - (intOf i).toNat)
  case atStart => exact ⟨0, Nat.zero_le _, rfl, rfl, rfl⟩
  case round =>
    obtain ⟨k, hk, rfl, rfl, hall⟩ := hrel
    by_cases hlt : k < n
    · obtain ⟨b, o, x, rfl, hx, hc⟩ := ha.at_ hlt
      have HG := Lib.hid hx
      have hxm : (⟨x.toArray⟩ : ByteArray).size ≤ maxLen := by rw [Lib.size_eq]; exact HX.out x (List.mem_of_getElem? hx)
      clear ha hx
      cases hname : nameL x with
      | true =>
        go_wp2_with (go_at_call 11; refine (name_any ⟨x.toArray⟩ _ hxm).mono ?_; rintro e w1 ⟨rfl, hw1⟩; subst w1; rw [hname])
        go_roundw
        case rel => exact ⟨k + 1, by omega, by go_num, by first | rfl | trivial, by rw [Hid, names_succ _ _ _ HG.out, hall.out, hname]; rfl⟩
        case measure => simp [intOf]; omega
      | false =>
        have H2 := Lib.hid (names_bad _ _ _ HG.out hname)
        go_wp2_with (go_at_call 11; refine (name_any ⟨x.toArray⟩ _ hxm).mono ?_; rintro e w1 ⟨rfl, hw1⟩; subst w1; rw [hname])
        go_ret2
        exact RetJ.err rfl H2.out (by omega) rfl (Kept.refl _ _)
    · have e : k = n := by omega
      have HA : Hid (g.all nameL = true) := by
        have := hall.out
        rwa [e, List.take_of_length_le (by omega)] at this
      clear hall
      by_cases h6 : 6 < n
      · have d6 : decide ((6 : Int) < (n : Int)) = true := decide_eq_true (by omega)
        have H3 := Lib.hid (jE_many HA.out (by omega))
        clear ha
        go_wp2
        go_ret2
        exact RetJ.err rfl H3.out (by omega) rfl (Kept.refl _ _)
      · have d6 : decide ((6 : Int) < (n : Int)) = false := decide_eq_false (by omega)
        obtain ⟨hj1, hj2⟩ := jE_ok HA.out (by omega)
        have HJ1 := Lib.hid hj1
        have HJ2 := Lib.hid hj2
        clear hj1 hj2
        by_cases h0 : n = 0
        · have hg0 : g = [] := List.eq_nil_of_length_eq_zero (by omega)
          subst h0
          subst hg0
          clear ha
          go_wp2_with (go_at_call 22; refine (shJoin_none _ _ _ _).mono ?_; rintro e w1 ⟨rfl, hw1⟩; subst w1)
          go_ret2
          refine ⟨?_, Kept.refl _ _⟩
          rw [HJ1.out, HJ2.out]
          rfl
        · obtain ⟨b, o, x, rfl, hx, hc⟩ := ha.at_ (j := 0) (by omega)
          have hcells : ∀ (j : Nat) u, (g.map (fun x => (⟨x.toArray⟩ : ByteArray)))[j]? = some u → wr.cell? ⟨b, o + j, none⟩ = some (.string u) := fun j u hu => by
            have hj : j < n := by
              have := (List.getElem?_eq_some_iff.1 hu).1
              rw [List.length_map] at this
              omega
            obtain ⟨b', o', y, e1, hy, hcy⟩ := ha.at_ hj
            injection e1 with e1
            injection e1 with e1 e2
            subst e1
            subst e2
            rw [List.getElem?_map, hy] at hu
            injection hu with hu
            rw [← hu]
            exact hcy
          have hb : b < wr.heap.size := World.block_lt_of_cell? wr ⟨b, o + 0, none⟩ hc
          have hJ : (Lib.join g [47]).length ≤ 78 := by
            have h1 := tail_le g HA.out
            rw [tail_join (by intro e; rw [e] at hx; simp at hx)] at h1
            simp at h1
            omega
          have hlm : (g.map (fun x => (⟨x.toArray⟩ : ByteArray))).length = n := by rw [List.length_map, hg]
          have HC : Calls Try.prog 22 #[.slice (some ⟨b, o, none⟩) n c, .string ⟨#[47]⟩] wr (fun e w' => e = .returned (.string ⟨(Lib.join g [47]).toArray⟩) ∧ New wr w') := by
            have := shJoin b o c (g.map (fun x => (⟨x.toArray⟩ : ByteArray))) ⟨#[47]⟩ wr hcells hb (by omega) (by omega) (by rw [map_tx]; exact Nat.le_trans hJ (by omega))
            rw [hlm, map_tx] at this
            exact this.mono fun e w' h => ⟨h.1, New.of_below h.2⟩
          have HC := Lib.hid HC
          have HJ3 : Hid (jS g = [47] ++ Lib.join g [47]) := HJ2.out
          clear hcells hlm ha hc hx HJ2
          generalize Lib.join g [47] = J at *
          go_wp2_with (go_at_call 22; refine HC.out.mono ?_; rintro e w1 ⟨rfl, hk1⟩)
          go_ret2
          refine ⟨?_, hk1⟩
          rw [HJ1.out, HJ3.out]
          rfl
end Go.Proofs.Ytofolfginoadiaa
