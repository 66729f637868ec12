/-
  PathUnder: what is under one that is under a third is under that, a path is under its directory's, and under no path that is under it; for every three texts of at most 1048576 letters together.
-/
import Derived.Test.YtofolfginoadiaaLu
import Derived.Test.YtofolfginoadiaaVi
namespace Go.Proofs.Ytofolfginoadiaa.pathUnder
open Go.ChangeShapes Go.WideShapes Go.ChangeAt Go.RowKit

theorem own : ownKnob Try.prog.godebug = none := by kernel_rfl
theorem laidOut : laidOutB Try.prog = true := by kernel_rfl

theorem tail_le6 {g : List (List UInt8)} (h : jE g = 0) : (jS g).length ≤ 79 := by
  have h' := h
  unfold jE at h'
  split at h'
  · rename_i hall
    split at h'
    · simp at h'
    · rename_i h6
      rw [(jE_ok hall h6).2]
      have h1 := tail_le g hall
      cases g with
      | nil => simp [Lib.join, List.intercalate]
      | cons x r =>
        rw [tail_join (by simp)] at h1
        simp only [List.length_cons] at *
        omega
  · simp at h'

theorem sD_each (l : List UInt8) : ∀ x ∈ sD l, x.length ≤ maxLen := fun x hx => by
  have : x ∈ pN l := by
    unfold sD at hx
    split at hx
    · exact List.dropLast_subset _ hx
    · cases hx
  have := (name_ne (List.all_eq_true.1 (pN_names (l := l)) x this)).2.1
  unfold maxLen
  omega

theorem sD_le (l : List UInt8) : (sD l).length ≤ 6 := by
  have := pN_le l
  unfold sD
  split
  · rw [List.length_dropLast]; omega
  · simp

set_option maxHeartbeats 4000000 in
theorem walk (a b c : ByteArray) (w : World) (_ : a.size ≤ maxLen) (_ : b.size ≤ maxLen) (_ : c.size ≤ maxLen) (h3 : a.size ≤ 1048576 ∧ b.size ≤ 1048576 ∧ c.size ≤ 1048576) :
    Calls Try.prog 7 #[.string a, .string b, .string c] w (True1 w) := by
  obtain ⟨ha, hb, hc⟩ := h3
  have T := Lib.hid (fun (h1 : uL a.data.toList b.data.toList = true) (h2 : uL b.data.toList c.data.toList = true) => uL_trans h1 h2)
  have N := Lib.hid (fun (h1 : uL a.data.toList b.data.toList = true) => uL_anti h1)
  have I := Lib.hid (uL_irr a.data.toList)
  have U : Hid (∀ (s t : ByteArray) (u : World) (v : Bool), s.size ≤ 1048576 → t.size ≤ 1048576 → uL s.data.toList t.data.toList = v → New w u → Calls Try.prog 18 #[.string s, .string t] u (fun e u' => e = .returned (.bool v) ∧ New w u')) := fun s t u v hs ht hv hu =>
    (under_any s t u hs ht).mono fun e u' hr => ⟨by rw [hr.1, hv], hu.new hr.2⟩
  go_enter Try.func7, Try.ntmps7
  have K0 : Hid (New w w) := Kept.refl _ _
  cases hx : uL a.data.toList b.data.toList with
  | false =>
    go_wp2_with fail
    refine (U.out a b _ false ha hb hx K0.out).mono ?_
    rintro e w1 ⟨rfl, k1⟩
    have K1 := Lib.hid k1
    clear k1
    go_wp2_with fail
    refine (U.out a b _ false ha hb hx K1.out).mono ?_
    rintro e w2 ⟨rfl, k2⟩
    have K2 := Lib.hid k2
    clear k2 K1
    go_wp2_with fail
    refine (U.out a a _ false ha ha I.out K2.out).mono ?_
    rintro e w3 ⟨rfl, k3⟩
    have KK := Lib.hid k3
    clear k3 K2
    clear T N I K0
    go_wp2_with fail
    refine (split_any a _ ha).mono ?_
    rintro e v1 ⟨D, d, rfl, x1, hd, k1⟩
    have X1 := Lib.hid x1
    have L1 := Lib.hid (KK.out.new k1)
    clear x1 k1 KK
    rcases sE_cases a.data.toList with h | h | h
    · obtain ⟨j1, j2⟩ := split_back h
      have hl6 := sD_le a.data.toList
      have J1 := Lib.hid j1
      have J2 := Lib.hid j2
      have J3 : Hid ((⟨(jS (sD a.data.toList)).toArray⟩ : ByteArray).size ≤ 1048576) := by
        have := tail_le6 j1
        rw [Hid, Lib.size_eq]
        exact Nat.le_trans this (by omega)
      rw [h]
      clear h j1 j2
      go_wp2_with fail
      refine (join_any D _ d (sD a.data.toList) _ X1.out (by unfold maxLen; omega) hd (sD_each _)).mono ?_
      rintro e v2 ⟨rfl, k2⟩
      have L2 := Lib.hid (L1.out.new k2)
      clear k2 L1 X1
      rw [J1.out]
      go_wp2_with fail
      refine (U.out a ⟨(jS (sD a.data.toList)).toArray⟩ _ true ha J3.out J2.out L2.out).mono ?_
      rintro e v3 ⟨rfl, k3⟩
      have L3 := Lib.hid k3
      clear k3 L2
      go_wp2_with fail
      refine (lives_any _).mono ?_
      rintro e v4 ⟨rfl, k4⟩
      go_wp2
      go_ret
      exact ⟨rfl, L3.out.new k4⟩
    · rw [h]
      clear h X1
      go_wp2_with fail
      refine (lives_any _).mono ?_
      rintro e v4 ⟨rfl, k4⟩
      go_wp2
      go_ret
      exact ⟨rfl, L1.out.new k4⟩
    · rw [h]
      clear h X1
      go_wp2_with fail
      refine (lives_any _).mono ?_
      rintro e v4 ⟨rfl, k4⟩
      go_wp2
      go_ret
      exact ⟨rfl, L1.out.new k4⟩
  | true =>
    have hba := N.out hx
    cases hy : uL b.data.toList c.data.toList with
    | false =>
      go_wp2_with fail
      refine (U.out a b _ true ha hb hx K0.out).mono ?_
      rintro e w1 ⟨rfl, k1⟩
      have K1 := Lib.hid k1
      clear k1
      go_wp2_with fail
      refine (U.out b c _ false hb hc hy K1.out).mono ?_
      rintro e w2 ⟨rfl, k2⟩
      have K2 := Lib.hid k2
      clear k2 K1
      go_wp2_with fail
      refine (U.out a b _ true ha hb hx K2.out).mono ?_
      rintro e w3 ⟨rfl, k3⟩
      have K3 := Lib.hid k3
      clear k3 K2
      go_wp2_with fail
      refine (U.out b a _ false hb ha hba K3.out).mono ?_
      rintro e w4 ⟨rfl, k4⟩
      have K4 := Lib.hid k4
      clear k4 K3
      go_wp2_with fail
      refine (U.out a a _ false ha ha I.out K4.out).mono ?_
      rintro e w5 ⟨rfl, k5⟩
      have KK := Lib.hid k5
      clear k5 K4
      clear T N I K0
      go_wp2_with fail
      refine (split_any a _ ha).mono ?_
      rintro e v1 ⟨D, d, rfl, x1, hd, k1⟩
      have X1 := Lib.hid x1
      have L1 := Lib.hid (KK.out.new k1)
      clear x1 k1 KK
      rcases sE_cases a.data.toList with h | h | h
      · obtain ⟨j1, j2⟩ := split_back h
        have hl6 := sD_le a.data.toList
        have J1 := Lib.hid j1
        have J2 := Lib.hid j2
        have J3 : Hid ((⟨(jS (sD a.data.toList)).toArray⟩ : ByteArray).size ≤ 1048576) := by
          have := tail_le6 j1
          rw [Hid, Lib.size_eq]
          exact Nat.le_trans this (by omega)
        rw [h]
        clear h j1 j2
        go_wp2_with fail
        refine (join_any D _ d (sD a.data.toList) _ X1.out (by unfold maxLen; omega) hd (sD_each _)).mono ?_
        rintro e v2 ⟨rfl, k2⟩
        have L2 := Lib.hid (L1.out.new k2)
        clear k2 L1 X1
        rw [J1.out]
        go_wp2_with fail
        refine (U.out a ⟨(jS (sD a.data.toList)).toArray⟩ _ true ha J3.out J2.out L2.out).mono ?_
        rintro e v3 ⟨rfl, k3⟩
        have L3 := Lib.hid k3
        clear k3 L2
        go_wp2_with fail
        refine (lives_any _).mono ?_
        rintro e v4 ⟨rfl, k4⟩
        go_wp2
        go_ret
        exact ⟨rfl, L3.out.new k4⟩
      · rw [h]
        clear h X1
        go_wp2_with fail
        refine (lives_any _).mono ?_
        rintro e v4 ⟨rfl, k4⟩
        go_wp2
        go_ret
        exact ⟨rfl, L1.out.new k4⟩
      · rw [h]
        clear h X1
        go_wp2_with fail
        refine (lives_any _).mono ?_
        rintro e v4 ⟨rfl, k4⟩
        go_wp2
        go_ret
        exact ⟨rfl, L1.out.new k4⟩
    | true =>
      have hac := T.out hx hy
      go_wp2_with fail
      refine (U.out a b _ true ha hb hx K0.out).mono ?_
      rintro e w1 ⟨rfl, k1⟩
      have K1 := Lib.hid k1
      clear k1
      go_wp2_with fail
      refine (U.out b c _ true hb hc hy K1.out).mono ?_
      rintro e w2 ⟨rfl, k2⟩
      have K2 := Lib.hid k2
      clear k2 K1
      go_wp2_with fail
      refine (U.out a c _ true ha hc hac K2.out).mono ?_
      rintro e w3 ⟨rfl, k3⟩
      have K3 := Lib.hid k3
      clear k3 K2
      go_wp2_with fail
      refine (U.out a b _ true ha hb hx K3.out).mono ?_
      rintro e w4 ⟨rfl, k4⟩
      have K4 := Lib.hid k4
      clear k4 K3
      go_wp2_with fail
      refine (U.out b a _ false hb ha hba K4.out).mono ?_
      rintro e w5 ⟨rfl, k5⟩
      have K5 := Lib.hid k5
      clear k5 K4
      go_wp2_with fail
      refine (U.out a a _ false ha ha I.out K5.out).mono ?_
      rintro e w6 ⟨rfl, k6⟩
      have KK := Lib.hid k6
      clear k6 K5
      clear T N I K0
      go_wp2_with fail
      refine (split_any a _ ha).mono ?_
      rintro e v1 ⟨D, d, rfl, x1, hd, k1⟩
      have X1 := Lib.hid x1
      have L1 := Lib.hid (KK.out.new k1)
      clear x1 k1 KK
      rcases sE_cases a.data.toList with h | h | h
      · obtain ⟨j1, j2⟩ := split_back h
        have hl6 := sD_le a.data.toList
        have J1 := Lib.hid j1
        have J2 := Lib.hid j2
        have J3 : Hid ((⟨(jS (sD a.data.toList)).toArray⟩ : ByteArray).size ≤ 1048576) := by
          have := tail_le6 j1
          rw [Hid, Lib.size_eq]
          exact Nat.le_trans this (by omega)
        rw [h]
        clear h j1 j2
        go_wp2_with fail
        refine (join_any D _ d (sD a.data.toList) _ X1.out (by unfold maxLen; omega) hd (sD_each _)).mono ?_
        rintro e v2 ⟨rfl, k2⟩
        have L2 := Lib.hid (L1.out.new k2)
        clear k2 L1 X1
        rw [J1.out]
        go_wp2_with fail
        refine (U.out a ⟨(jS (sD a.data.toList)).toArray⟩ _ true ha J3.out J2.out L2.out).mono ?_
        rintro e v3 ⟨rfl, k3⟩
        have L3 := Lib.hid k3
        clear k3 L2
        go_wp2_with fail
        refine (lives_any _).mono ?_
        rintro e v4 ⟨rfl, k4⟩
        go_wp2
        go_ret
        exact ⟨rfl, L3.out.new k4⟩
      · rw [h]
        clear h X1
        go_wp2_with fail
        refine (lives_any _).mono ?_
        rintro e v4 ⟨rfl, k4⟩
        go_wp2
        go_ret
        exact ⟨rfl, L1.out.new k4⟩
      · rw [h]
        clear h X1
        go_wp2_with fail
        refine (lives_any _).mono ?_
        rintro e v4 ⟨rfl, k4⟩
        go_wp2
        go_ret
        exact ⟨rfl, L1.out.new k4⟩

set_option maxRecDepth 100000 in
theorem lifted (os : Os) (started : os.Started) (H : Type) (enc : TypeId × Value → H) (F : Stop.Interp) :
    ReturnsInHanded {} Try.checked os 7 .any ((Rows.OpenSpec.upto Rows.pathUnderSpec).pre6 enc Try.prog Try.f7 Rows.pathUnderUptoRow.domain false) (((Rows.OpenSpec.upto Rows.pathUnderSpec).at F).post enc Try.prog Try.f7 false true false false) := by
  refine lift_upto (C := Try.checked) (s := Rows.pathUnderSpec) (tb := 4) own started (by kernel_rfl) Try.func7
    (OpenSpec.witness (enc := enc) (C := Try.checked) (s := Rows.OpenSpec.upto Rows.pathUnderSpec) (k := Rows.uptoSmall) rfl false ⟨#[], #[.string .empty, .string .empty, .string .empty], []⟩ 8 (by kernel_rfl) (by kernel_rfl) (by kernel_rfl)
      (x := ([.lit (.string []), .lit (.string []), .lit (.string [])], [], [])) (by kernel_rfl) rfl (by kernel_rfl))
    rfl (by kernel_rfl) Try.underlying4 ?_ laidOut (of_decide_eq_true (by kernel_rfl)) ?_
  · intro ds hd
    match ds, hd with
    | [d0, d1, d2], _ => exact ⟨rfl, rfl, rfl⟩
  · intro W base args ds hA hk
    have hA : Args enc Try.prog W base Try.f7.params.toList args.toList ds := hA
    rw [Try.params7] at hA
    obtain ⟨v0, vs0, d0, ds0, p0, hargs, rfl, a0, hA⟩ := hA.cons_
    obtain ⟨v1, vs1, d1, ds1, p1, rfl, rfl, a1, hA⟩ := hA.cons_
    obtain ⟨v2, vs2, d2, ds2, p2, rfl, rfl, a2, hA⟩ := hA.cons_
    obtain ⟨rfl, rfl⟩ := hA.nil_
    obtain rfl : args = #[v0, v1, v2] := by cases args; simp_all
    obtain ⟨x0, rfl, rfl, b0⟩ := a0.string_ Try.underlying9
    obtain ⟨x1, rfl, rfl, b1⟩ := a1.string_ Try.underlying9
    obtain ⟨x2, rfl, rfl, b2⟩ := a2.string_ Try.underlying9
    exact walk x0 x1 x2 W b0 b1 b2 (small3 hk)

theorem proved : Rows.PathUnderUptoSaid :=
  OpenClaim.holds_of_cond 7 Try.f7 rfl rfl rfl rfl rfl rfl rfl ⟨rfl, rfl, rfl, rfl, rfl⟩ rfl rfl rfl rfl rfl (by kernel_rfl) Try.func7 (by kernel_rfl)
    (of_decide_eq_true (by kernel_rfl)) (by unfold Func.isWrapper; first | (rw [if_pos (by decide +kernel)]; kernel_rfl) | (rw [if_neg (by decide +kernel)]; exact ⟨rfl, rfl⟩))
    (fun os started H enc _ F => lifted os started H enc F)
end Go.Proofs.Ytofolfginoadiaa.pathUnder
