/-
  PathBack: names come back of their path, a path of its names; for every text of at most 1048576 letters and every list of texts (both together at most that many values and letters).
-/
import Derived.Test.YtofolfginoadiaaLu
import Derived.Test.YtofolfginoadiaaVi
namespace Go.Proofs.Ytofolfginoadiaa.pathBack
open Go.ChangeShapes Go.WideShapes Go.ChangeAt Go.RowKit

theorem own : ownKnob Try.prog.godebug = none := by kernel_rfl
theorem laidOut : laidOutB Try.prog = true := by kernel_rfl

theorem jS_le (g : List (List UInt8)) : (jS g).length ≤ 79 := by
  rcases jE_cases g with h | h | h
  · have h' := h
    unfold jE at h'
    split at h'
    · rename_i hall
      split at h'
      · simp at h'
      · rename_i h6
        rw [(jE_ok hall h6).2]
        have h1 := tail_le g hall
        cases g with
        | nil => simp [Lib.join, List.intercalate]
        | cons x r =>
          rw [tail_join (by simp)] at h1
          simp only [List.length_cons] at *
          omega
    · simp at h'
  · rw [jP_bad h (by omega)]; simp
  · rw [jP_bad h (by omega)]; simp

theorem pN_each (l : List UInt8) : ∀ x ∈ pN l, x.length ≤ maxLen := fun x hx => by
  have := (name_ne (List.all_eq_true.1 (pN_names (l := l)) x hx)).2.1
  unfold maxLen
  omega

set_option maxHeartbeats 4000000 in
theorem walk (s : ByteArray) (B : Option Addr) (n c : Nat) (g : List (List UInt8)) (w : World) (_ : s.size ≤ maxLen) (h : IsX w (.slice B n c) B n c g) (hs : s.size ≤ 1048576) :
    Calls Try.prog 6 #[.string s, .slice B n c] w (True1 w) := by
  have hle := h.le
  have hcap := h.cap
  have hn : n ≤ maxLen := by unfold maxLen; omega
  have HT := Lib.hid h.txs
  have HX := Lib.hid h.each
  have hg := Lib.hid h.txs.len
  clear h
  go_enter Try.func6, Try.ntmps6
  go_wp2_with fail
  refine (parse_any s _ hs).mono ?_
  rintro e w1 ⟨A1, c1, rfl, o1, k1⟩
  have O1 := Lib.hid o1
  have K1 := Lib.hid k1
  have HT1 := Lib.hid (HT.out.new k1)
  clear o1 k1 HT
  have hl6 := pN_le s.data.toList
  have REST : Hid (∀ u : World, New w u → Txs u B n g → Calls Try.prog 14 #[.slice B n c] u (fun e u' => RetJ u g e u' ∧ New w u' ∧ Txs u' B n g)) := fun u hu ht =>
    (join_any B n c g u ht hn hle HX.out).mono fun e u' hr => ⟨hr, hu.new hr.2, ht.new hr.2⟩
  have K0 : Hid (∃ w2 : World, New w w2 ∧ Txs w2 B n g) := ⟨w1, K1.out, HT1.out⟩
  clear K0
  rcases pE_cases s.data.toList with h | h | h
  · obtain ⟨b1, b2⟩ := path_back h
    have hle1 := O1.out.le
    have C : Hid (Calls Try.prog 14 #[.slice A1 (pN s.data.toList).length c1] w1 (fun e w2 => e = .returned (.tuple #[.string s, .int .i64 0]) ∧ New w1 w2)) := by
      refine (join_any A1 _ c1 (pN s.data.toList) w1 O1.out.txs (by unfold maxLen; omega) hle1.1 (pN_each _)).mono fun e w2 hr => ⟨?_, hr.2⟩
      rw [hr.1, b1, b2, Lib.mk_data]
      rfl
    rw [h]
    clear h b1 b2 O1 hle1
    go_wp2_with fail
    refine C.out.mono ?_
    rintro e w2 ⟨rfl, k2⟩
    have K2 := Lib.hid (K1.out.new k2)
    have HT2 := Lib.hid (HT1.out.new k2)
    clear k2 K1 HT1 C
    go_wp2_with fail
    refine (REST.out _ K2.out HT2.out).mono ?_
    rintro e w3 ⟨⟨rfl, _⟩, k3, t3⟩
    have K3 := Lib.hid k3
    have HT3 := Lib.hid t3
    clear k3 t3 K2 HT2 REST
    rcases jE_cases g with h | h | h
    · obtain ⟨n1, n2⟩ := names_back h
      have C : Hid (Calls Try.prog 8 #[.string ⟨(jS g).toArray⟩] w3 (RetP w3 g 0)) := by
        have hj := jS_le g
        have := parse_any ⟨(jS g).toArray⟩ w3 (by rw [Lib.size_eq]; exact Nat.le_trans hj (by omega))
        rwa [n1, n2] at this
      rw [h]
      clear h n1 n2
      go_wp2_with fail
      refine C.out.mono ?_
      rintro e w4 ⟨A4, c4, rfl, o4, k4⟩
      have O4 := Lib.hid o4
      have K4 := Lib.hid (K3.out.new k4)
      have HT4 := Lib.hid (HT3.out.new k4)
      clear o4 k4 K3 HT3 C
      go_wp2_with (first
        | (go_at_call 10; refine (texts_any A4 B _ n c4 c g g _ O4.out.txs HT4.out (by rw [hg.out]; exact hn)).mono ?_; rintro e w5 ⟨q, rfl, hw5⟩; have K5 : Hid (New w w5) := (by rw [hw5]; exact K4.out.drewN q); clear hw5)
        | (go_at_call 13; refine (lives_any _).mono ?_; rintro e w6 ⟨rfl, hk6⟩))
      go_ret
      exact ⟨rfl, K5.out.new hk6⟩
    · rw [jP_bad h (by omega), h]
      clear h
      go_wp2_with (go_at_call 13; refine (lives_any _).mono ?_; rintro e w6 ⟨rfl, hk6⟩)
      go_ret
      exact ⟨rfl, K3.out.new hk6⟩
    · rw [jP_bad h (by omega), h]
      clear h
      go_wp2_with (go_at_call 13; refine (lives_any _).mono ?_; rintro e w6 ⟨rfl, hk6⟩)
      go_ret
      exact ⟨rfl, K3.out.new hk6⟩
  all_goals
    rw [h]
    clear h O1
    go_wp2_with fail
    refine (REST.out _ K1.out HT1.out).mono ?_
    rintro e w3 ⟨⟨rfl, _⟩, k3, t3⟩
    have K3 := Lib.hid k3
    have HT3 := Lib.hid t3
    clear k3 t3 K1 HT1 REST
    rcases jE_cases g with h | h | h
    · obtain ⟨n1, n2⟩ := names_back h
      have C : Hid (Calls Try.prog 8 #[.string ⟨(jS g).toArray⟩] w3 (RetP w3 g 0)) := by
        have hj := jS_le g
        have := parse_any ⟨(jS g).toArray⟩ w3 (by rw [Lib.size_eq]; exact Nat.le_trans hj (by omega))
        rwa [n1, n2] at this
      rw [h]
      clear h n1 n2
      go_wp2_with fail
      refine C.out.mono ?_
      rintro e w4 ⟨A4, c4, rfl, o4, k4⟩
      have O4 := Lib.hid o4
      have K4 := Lib.hid (K3.out.new k4)
      have HT4 := Lib.hid (HT3.out.new k4)
      clear o4 k4 K3 HT3 C
      go_wp2_with (first
        | (go_at_call 10; refine (texts_any A4 B _ n c4 c g g _ O4.out.txs HT4.out (by rw [hg.out]; exact hn)).mono ?_; rintro e w5 ⟨q, rfl, hw5⟩; have K5 : Hid (New w w5) := (by rw [hw5]; exact K4.out.drewN q); clear hw5)
        | (go_at_call 13; refine (lives_any _).mono ?_; rintro e w6 ⟨rfl, hk6⟩))
      go_ret
      exact ⟨rfl, K5.out.new hk6⟩
    · rw [jP_bad h (by omega), h]
      clear h
      go_wp2_with (go_at_call 13; refine (lives_any _).mono ?_; rintro e w6 ⟨rfl, hk6⟩)
      go_ret
      exact ⟨rfl, K3.out.new hk6⟩
    · rw [jP_bad h (by omega), h]
      clear h
      go_wp2_with (go_at_call 13; refine (lives_any _).mono ?_; rintro e w6 ⟨rfl, hk6⟩)
      go_ret
      exact ⟨rfl, K3.out.new hk6⟩

set_option maxRecDepth 100000 in
theorem lifted (os : Os) (started : os.Started) (H : Type) (enc : TypeId × Value → H) (F : Stop.Interp) :
    ReturnsInHanded {} Try.checked os 6 .any ((Rows.OpenSpec.upto Rows.pathBackSpec).pre6 enc Try.prog Try.f6 Rows.pathBackUptoRow.domain false) (((Rows.OpenSpec.upto Rows.pathBackSpec).at F).post enc Try.prog Try.f6 false true false false) := by
  refine lift_upto (C := Try.checked) (s := Rows.pathBackSpec) (tb := 4) own started (by kernel_rfl) Try.func6
    (OpenSpec.witness (enc := enc) (C := Try.checked) (s := Rows.OpenSpec.upto Rows.pathBackSpec) (k := Rows.uptoSmall) rfl false ⟨#[], #[.string .empty, .slice none 0 0], []⟩ 8 (by kernel_rfl) (by kernel_rfl) (by kernel_rfl)
      (x := ([.lit (.string []), .nil], [], [])) (by kernel_rfl) rfl (by kernel_rfl))
    rfl (by kernel_rfl) Try.underlying4 ?_ laidOut (of_decide_eq_true (by kernel_rfl)) ?_
  · intro ds hd
    match ds, hd with
    | [d0, d1], _ => exact ⟨rfl, rfl, rfl⟩
  · intro W base args ds hA hk
    have hA : Args enc Try.prog W base Try.f6.params.toList args.toList ds := hA
    rw [Try.params6] at hA
    obtain ⟨v0, vs0, d0, ds0, p0, hargs, rfl, a0, hA⟩ := hA.cons_
    obtain ⟨v1, vs1, d1, ds1, p1, rfl, rfl, a1, hA⟩ := hA.cons_
    obtain ⟨rfl, rfl⟩ := hA.nil_
    obtain rfl : args = #[v0, v1] := by cases args; simp_all
    obtain ⟨x0, rfl, rfl, b0⟩ := a0.string_ Try.underlying9
    obtain ⟨A1, n1, c1, l1, b1⟩ := a1.texts_ Try.underlying22 Try.underlying9 (by kernel_rfl) (by kernel_rfl)
    obtain rfl := b1.val
    exact walk x0 A1 n1 c1 l1 W b0 b1 (small1x hk)

theorem proved : Rows.PathBackUptoSaid :=
  OpenClaim.holds_of_cond 6 Try.f6 rfl rfl rfl rfl rfl rfl rfl ⟨rfl, rfl, rfl, rfl, rfl⟩ rfl rfl rfl rfl rfl (by kernel_rfl) Try.func6 (by kernel_rfl)
    (of_decide_eq_true (by kernel_rfl)) (by unfold Func.isWrapper; first | (rw [if_pos (by decide +kernel)]; kernel_rfl) | (rw [if_neg (by decide +kernel)]; exact ⟨rfl, rfl⟩))
    (fun os started H enc _ F => lifted os started H enc F)
end Go.Proofs.Ytofolfginoadiaa.pathBack
