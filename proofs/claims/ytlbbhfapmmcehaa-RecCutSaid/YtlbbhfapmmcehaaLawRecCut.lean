/-
  RecCut: of a body that says changes nothing shorter says any; for every list of changes and every place of a cut.
-/
import Derived.Test.YtlbbhfapmmcehaaJm
import Derived.Test.YtlbbhfapmmcehaaJw
namespace Go.Proofs.Ytlbbhfapmmcehaa.recCut
open Go.ChangeShapes Go.WideShapes Go.ChangeAt Go.RowKit

theorem own : ownKnob Try.prog.godebug = none := by kernel_rfl
theorem laidOut : laidOutB Try.prog = true := by kernel_rfl

theorem pu_ok {z : Int} {l : List CT} (h : puE z l = 0) : ∃ N : Nat, z = N ∧ N ≤ 256 ∧ tlOk l = true ∧ puL z l = page N 2 (bdK l l.length) ∧ (page N 2 (bdK l l.length)).length = N ∧
    sGetE (page N 2 (bdK l l.length)) = 0 ∧ sGetK (page N 2 (bdK l l.length)) = 2 ∧ sGetL (page N 2 (bdK l l.length)) = bdK l l.length := by
  have ht : tlOk l = true := by
    cases hb : tlOk l
    · rw [(pu_no hb).2] at h; omega
    · rfl
  obtain ⟨e1, e2⟩ := pu_yes2 (z := z) ht
  rw [e2] at h
  obtain ⟨N, rfl, hp, hk, hl, he⟩ := put_yes h
  obtain ⟨g1, g2, g3⟩ := get_page N 2 (bdK l l.length) hp hk hl
  refine ⟨N, rfl, ?_, ht, by rw [e1, he], page_length _ _ _ hl, g1, g2, g3⟩
  unfold isPg at hp
  omega

theorem own_some {w : World} {B : Nat} {A : Option Addr} {c : Nat} {l : List Nat} (h : OwnB w 5 B A c l) (hl : l ≠ []) : ∃ g, A = some ⟨g, 0, none⟩ := by
  rcases h.2 with ⟨_, _, e2⟩ | ⟨g, sp, e1, _⟩
  · exact absurd e2 hl
  · exact ⟨g, e1⟩

/-- What is cut off of a body is none. -/
theorem cut_get {l : List CT} {b : List Nat} {k : Nat} (ht : tlOk l = true) (hb : bdK l l.length = b) (hB : ∀ x ∈ b, x < 256) (hk : k < b.length) : geE (b.take k) ≠ 0 :=
  cut_geE (q := b.drop k) ht (fun x hx => hB x (List.mem_of_mem_take hx)) (by rw [hb, List.take_append_drop]) fun h => by
    have := congrArg List.length h
    rw [List.length_drop] at this
    simp at this
    omega

set_option maxRecDepth 100000 in
set_option maxHeartbeats 6400000 in
theorem walk (A : Option Addr) (n c : Nat) (es : List CE) (x1 : Nat) (w : World)
    (b0 : CsIn w A n c es) (b1 : x1 < 256) :
    Calls Try.prog 7 #[.slice A n c, .int .u8 x1] w (True1 w) := by
  have hn : n ≤ maxLen := Nat.le_trans b0.2.2.1 b0.2.2.2.1
  have C1 := fun u hu => Lib.hid (recPut_any 256 A n c es u (b0.1.new hu) hn)
  clear b0 hn
  go_enter Try.func7, Try.ntmps7
  go_wp2_with fail
  refine (C1 _ (Kept.refl _ _)).out.mono ?_
  rintro e w1 ⟨A1, c1, rfl, p1, k1⟩
  have P1 := Lib.hid p1
  have K1 := Lib.hid k1
  clear p1 k1 C1
  by_cases hp : puE 256 (cts es) = 0
  · obtain ⟨N, hz, hN, ht, e1, e2, e3, e4, e5⟩ := pu_ok hp
    obtain rfl : N = 256 := by omega
    rw [hp]
    rw [e1] at P1 ⊢
    have hc1 : c1 = 256 := by have := P1.out.cap; rw [e2] at this; exact this
    have T1 : Hid (Bts w1 A1 256 (page 256 2 (bdK (cts es) (cts es).length))) := by have := P1.out.bts; rwa [e2] at this
    have G3 := Lib.hid e3
    have G4 := Lib.hid e4
    have G5 := Lib.hid e5
    have HCUT := Lib.hid (fun (b : List Nat) (k : Nat) (h : bdK (cts es) (cts es).length = b) => cut_get (k := k) ht h)
    have hbl := tl_body ht
    have hbp : 0 < (bdK (cts es) (cts es).length).length := by unfold bdK; simp
    rw [e2]
    subst hc1
    clear P1 e1 e2 e3 e4 e5 hp hz hN ht
    generalize page 256 2 (bdK (cts es) (cts es).length) = P at *
    generalize hbd : bdK (cts es) (cts es).length = bd at *
    have HBD := Lib.hid hbd
    clear hbd
    go_wp2_with fail
    refine (sGet_any A1 256 256 P _ T1.out (Nat.le_refl _) (by omega)).mono ?_
    rintro e w2 ⟨A2, c2, rfl, o2, k2⟩
    rw [G3.out, G4.out, G5.out]
    have o2 : OwnB w2 5 w1.heap.size A2 c2 bd := by rw [G5.out] at o2; exact o2
    have K2 := Lib.hid (K1.out.new k2)
    have O2 := Lib.hid o2
    have HIS := Lib.hid o2.1
    obtain ⟨g, rfl⟩ := own_some o2 (by intro h; rw [h] at hbp; simp at hbp)
    have hle := o2.le.1
    have hcm := o2.le.2
    unfold maxLen at hcm
    clear o2 k2 T1 K1 G3 G4 G5
    generalize hbl2 : bd.length = bl at *
    have HBL := Lib.hid hbl2
    clear hbl2
    have d0 : ((bl : Int) == 0) = false := beq_eq_false_iff_ne.2 (by omega)
    have hmod : x1 % bl < bl := Nat.mod_lt _ hbp
    have emod : (x1 : Int) % (bl : Int) = ((x1 % bl : Nat) : Int) := by omega
    generalize x1 % bl = k at *
    have TK : Hid (Bts w2 (some ⟨g, 0, none⟩) k (bd.take k)) := by have := O2.out.bts.take (k := k) (by rw [HBL.out]; omega); exact this
    have HG : Hid (geE (bd.take k) ≠ 0) := HCUT.out bd k rfl HIS.out (by rw [HBL.out]; exact hmod)
    have CG := Lib.hid (recGet_any (some ⟨g, 0, none⟩) k k (bd.take k) w2 TK.out (by omega) (fun h => by cases h))
    clear O2 HIS HCUT HBD TK
    go_wp2_with fail
    refine CG.out.mono ?_
    rintro e w4 ⟨A4, c4, es4, rfl, _, _, k4⟩
    have K4 := Lib.hid (K2.out.new k4)
    have b0 : (geE (bd.take k) != 0) = true := bne_iff_ne.2 HG.out
    clear k4 CG HG K2
    generalize geE (bd.take k) = ge at *
    generalize es4.length = m4 at *
    go_wp2_with fail
    refine (works11_k K4).mono ?_
    rintro e w9 ⟨rfl, Kl⟩
    go_wp2
    go_ret
    exact ⟨rfl, Kl⟩
  · have d0 : (puE 256 (cts es) != 0) = true := bne_iff_ne.2 hp
    clear hp P1
    generalize puE 256 (cts es) = pe at *
    generalize (puL 256 (cts es)).length = pn at *
    go_wp2_with fail
    refine (works11_k K1).mono ?_
    rintro e w9 ⟨rfl, Kl⟩
    go_wp2
    go_ret
    exact ⟨rfl, Kl⟩

set_option maxRecDepth 100000 in
theorem lifted (os : Os) (started : os.Started) (H : Type) (enc : TypeId × Value → H) :
    ReturnsInHanded {} Try.checked os 7 .any (Rows.recCutSpec.pre6 enc Try.prog Try.f7 Rows.recCutRow.domain false) (Rows.recCutSpec.post enc Try.prog Try.f7 false true false false) := by
  refine lift_new (C := Try.checked) (s := Rows.recCutSpec) (tb := 4) own started (by kernel_rfl) Try.func7
    (ChangeSpec.witness6 (enc := enc) (C := Try.checked) false ⟨#[], #[.slice none 0 0, .int .u8 0], []⟩ 8 (by kernel_rfl) (by kernel_rfl) (by kernel_rfl) (by kernel_rfl))
    rfl (by kernel_rfl) Try.underlying4 ?_ laidOut (of_decide_eq_true (by kernel_rfl)) ?_
  · intro ds hd
    match ds, hd with
    | [d0, d1], _ => exact ⟨rfl, rfl, rfl⟩
  · intro W base args ds hA
    have hA : Args enc Try.prog W base Try.f7.params.toList args.toList ds := hA
    rw [Try.params7] at hA
    obtain ⟨v0, vs0, d0, ds0, p0, hargs, rfl, a0, hA⟩ := hA.cons_
    obtain ⟨v1, vs1, d1, ds1, p1, rfl, rfl, a1, hA⟩ := hA.cons_
    obtain ⟨rfl, rfl⟩ := hA.nil_
    obtain rfl : args = #[v0, v1] := by cases args; simp_all
    obtain ⟨A0, n0, c0, l0, rfl, b0⟩ := a0.changes_
    obtain ⟨y1, rfl, w1⟩ := a1.int_ Try.underlying5
    obtain ⟨x1, rfl, h1⟩ := u8_nat w1
    exact walk A0 n0 c0 l0 x1 W b0 h1

theorem over : Rows.recCutRow.holds Try.pinned (OpenSpec.ofChange Rows.recCutSpec) :=
  OpenClaim.holds_of_wide 7 Try.f7 rfl rfl rfl rfl rfl rfl rfl ⟨rfl, rfl, rfl, rfl, rfl⟩ rfl rfl rfl rfl rfl (by kernel_rfl) Try.func7 (by kernel_rfl)
    (of_decide_eq_true (by kernel_rfl)) (by unfold Func.isWrapper; first | (rw [if_pos (by decide +kernel)]; kernel_rfl) | (rw [if_neg (by decide +kernel)]; exact ⟨rfl, rfl⟩))
    (fun os started H enc _ => lifted os started H enc)

theorem proved : Rows.RecCutSaid := over
end Go.Proofs.Ytlbbhfapmmcehaa.recCut
