/-
  PoolFresh: what is answered is new memory, and Scan writes nothing: for every number of pages and every list of acts (the first 40).
-/
import Derived.Test.YtgfdiboaiifdnaaGreatIb
namespace Go.Proofs.YtgfdiboaiifdnaaGreat.poolFresh
open Go.ChangeShapes Go.WideShapes Go.ChangeAt Go.RowKit

theorem own : ownKnob Tryz.prog.godebug = none := by kernel_rfl
theorem laidOut : laidOutB Tryz.prog = true := by kernel_rfl

set_option maxRecDepth 100000 in
set_option maxHeartbeats 6400000 in
theorem walk (pages : Nat) (A : Option Addr) (n c : Nat) (al : List Act4) (w : World) (hpg : pages < 256) (hA : Acts4 w A n al) (hn : n ≤ c ∧ c ≤ maxLen) :
    Calls Tryz.prog 3 #[.int .u8 (pages : Nat), .slice A n c] w (True1 w) := by
  have HW := Lib.hid (played_any pages none 0 0 [] A n c al w hpg ⟨rfl, by simp, [], RowV.nil _ _ _, by simp, by simp⟩ (fun _ => ⟨rfl, rfl⟩) (by decide) hA hn)
  clear hpg hA hn
  go_enter Tryz.func3, Tryz.ntmps3
  go_wp2_with fail
  refine HW.out.mono ?_
  rintro e w1 ⟨g, gp, rfl, Q, gb, s, p, h1, h2, h3, h4⟩
  have P1 := Lib.hid h1
  have HQ1 : Hid (∀ b, PoolQ Q gp gb b → w.heap.size ≤ b) := h2
  have N1 := Lib.hid h3
  have S1 := Lib.hid h4
  have HG : Hid (Good s p) := h4.live (h4.calm (by first | rfl | trivial)).2
  have H19 : Hid (s.nb ≤ 19) := by have := h4.nb; show _ ≤ _; omega
  clear h1 h2 h3 h4 HW
  go_wp2_with fail
  refine (nBytes_any _ _ _ _ P1.out.chip).mono ?_
  rintro e2 w2 ⟨Aw, cw, rfl, h1, h2⟩
  have W2 := Lib.hid h1.bts
  have HWL : Hid (∀ a, Aw = some a → a.block < w2.heap.size) := fun a ha => (h1.at_ a ha).1.lt
  have P2 := Lib.hid (P1.out.new h2)
  have N2 := Lib.hid (N1.out.new h2)
  have HSZ : Hid (s.by_.length ≤ maxLen) := Nat.le_trans h1.le.1 h1.le.2
  clear h1 h2 P1 N1
  go_wp2_with fail
  refine (pTaken_any _ _ _ _ _ _ _ P2.out H19.out).mono ?_
  rintro e3 w3 ⟨At, ct, rfl, h1, h2⟩
  have V3 := Lib.hid h1
  have W3 := Lib.hid (W2.out.new h2)
  have P3 := Lib.hid (P2.out.new h2)
  have N3 := Lib.hid (N2.out.new h2)
  have HQW : Hid (∀ b, PoolQ Q gp gb b → b < w2.heap.size) := P2.out.lowq
  have HW2 : Hid (w.heap.size ≤ w2.heap.size) := N2.out.size
  clear h1 h2 W2 P2 N2
  have hcap : (tknL s p).length ≤ maxLen := Nat.le_trans V3.out.2.1 V3.out.2.2.1
  unfold maxLen at hcap
  generalize (tknL s p).length = N at *
  go_wp2_with fail
  go_loopw [10] (fun ti wr => ∃ i : Nat, i ≤ N ∧ ti = .int .i64 i ∧ Hid (∃ cs, OwnV wr 36 5 w2.heap.size At N ct cs) ∧ Hid (Kept (fun b => ∃ a, At = some a ∧ a.block = b) w3 wr)) (fun i _ => N - (intOf i).toNat)
  case atStart => exact ⟨0, Nat.zero_le _, rfl, ⟨_, V3.out⟩, Kept.refl _ _⟩
  case round =>
    obtain ⟨i, hi, rfl, VO, VK⟩ := hrel
    by_cases hlt : i < N
    · obtain ⟨cs, o1, o2, o3, o4⟩ := VO.out
      rcases o4 with ⟨_, rfl⟩ | ⟨gA, sp, rfl, q1, q2, q3⟩
      · omega
      · have hic : i * 5 < cs.length := by omega
        have hget : (cs ++ sp)[i * 5]? = some (cs[i * 5]) := by rw [List.getElem?_append_left hic, List.getElem?_eq_getElem hic]
        have hcl : wr.cell? ⟨gA, i * 5, none⟩ = some (cs[i * 5]) := by rw [q2.cell, hget]
        have hfr := q2.free (i * 5)
        have hga := q2.lt
        have hli : (i : Int) < (N : Int) := by omega
        have VO2 : Hid (∃ cs, OwnV (wr.setCell ⟨gA, i * 5, none⟩ (.int .i64 (-1))) 36 5 w2.heap.size (some ⟨gA, 0, none⟩) N ct cs) := by
          refine ⟨cs.set (i * 5) (.int .i64 (-1)), by rw [List.length_set]; exact o1, o2, o3, .inr ⟨gA, sp, rfl, q1, ?_, by rw [List.length_set]; exact q3⟩⟩
          have := q2.put (i * 5) (.int .i64 (-1))
          rwa [List.set_append_left _ _ hic] at this
        have VK2 : Hid (Kept (fun b => ∃ a, (some ⟨gA, 0, none⟩ : Option Addr) = some a ∧ a.block = b) w3 (wr.setCell ⟨gA, i * 5, none⟩ (.int .i64 (-1)))) := VK.out.setCell (p := ⟨gA, i * 5, none⟩) (fun _ => ⟨⟨gA, 0, none⟩, rfl, rfl⟩) _
        generalize cs[i * 5] = v at *
        clear VO VK q1 q2 q3 hget o1
        go_wp2
        go_roundw
        case rel => exact ⟨i + 1, by omega, by go_num, VO2, VK2⟩
        case measure => simp [intOf]; omega
    · obtain rfl : i = N := by omega
      have HAT : Hid (∀ a, At = some a → w2.heap.size ≤ a.block) := fun a ha => (V3.out.at_ a ha).2
      have P4 : Hid (PRep Q wr gp gb g s p) := P3.out.kept VK.out fun b hb => by
        obtain ⟨a, ha, rfl⟩ := hb
        have h1 := HAT.out a ha
        exact ⟨fun q => by have := HQW.out _ (.inl q); omega, fun q => by have := HQW.out _ (.inr (.inl q)); omega, fun q => by have := HQW.out _ (.inr (.inr q)); omega⟩
      have W4 : Hid (Bts wr Aw s.by_.length s.by_) := W3.out.kept VK.out fun a ha hb => by
        obtain ⟨a', ha', e⟩ := hb
        have h1 := HAT.out a' ha'
        have h2 := HWL.out a ha
        omega
      have N4 : Hid (New w wr) := new_of_kept N3.out VK.out fun b hb => by
        obtain ⟨a, ha, rfl⟩ := hb
        have h1 := HAT.out a ha
        have h2 := HW2.out
        omega
      clear V3 W3 P3 N3 VO VK HAT HQW HWL HW2
      go_wp2_with fail
      refine (pScan_ok Q g s _ P4.out.chip HG.out.live H19.out).mono ?_
      rintro e5 w5 ⟨gp3, gb3, rfl, h1, h2, h3, h4⟩
      have P5 := Lib.hid (P4.out.new h4)
      have Q5 := Lib.hid h1
      have W5 := Lib.hid (W4.out.new h4)
      have N5 := Lib.hid (N4.out.new h4)
      have HG5 : Hid (Good s (scanS s)) := (scan_good P4.out.chip.ok HG.out.live HG.out.inv).1
      clear h1 h2 h3 h4 P4 W4 N4
      generalize scanS s = p3 at *
      go_wp2_with fail
      refine (same_ok _ _ _ _ _ _ _ P5.out HG.out H19.out).mono ?_
      rintro e6 w6 ⟨rfl, k6⟩
      have P6 := Lib.hid (Q5.out.new k6)
      have W6 := Lib.hid (W5.out.new k6)
      have N6 := Lib.hid (N5.out.new k6)
      clear k6 P5 Q5 W5 N5
      go_wp2_with fail
      refine (same_ok _ _ _ _ _ _ _ P6.out HG5.out H19.out).mono ?_
      rintro e7 w7 ⟨rfl, k7⟩
      have P7 := Lib.hid (P6.out.new k7)
      have W7 := Lib.hid (W6.out.new k7)
      have N7 := Lib.hid (N6.out.new k7)
      clear k7 P6 W6 N6
      go_wp2_with fail
      refine (nBytes_any _ _ _ _ P7.out.chip).mono ?_
      rintro e8 w8 ⟨A8, c8, rfl, h1, h2⟩
      have X8 := Lib.hid h1.bts
      have W8 := Lib.hid (W7.out.new h2)
      have N8 := Lib.hid (N7.out.new h2)
      clear h1 h2 P7 W7 N7
      go_wp2_with fail
      refine (same_eq _ _ _ _ _ s.by_ _ X8.out W8.out HSZ.out).mono ?_
      rintro e9 w9 ⟨q9, rfl, k9⟩
      have N9 : Hid (New w w9) := by rw [k9]; exact N8.out.drewN q9
      clear k9 X8 W8 N8
      go_wp2_with fail
      refine (pWorks_any _).mono ?_
      rintro e10 w10 ⟨rfl, k10⟩
      have N10 := Lib.hid (N9.out.new k10)
      clear k10 N9
      go_wp2
      go_ret
      exact ⟨rfl, N10.out⟩

set_option maxRecDepth 100000 in
theorem lifted (os : Os) (started : os.Started) (H : Type) (enc : TypeId × Value → H) :
    ReturnsInHanded {} Tryz.checked os 3 .any (Rows.poolFreshSpec.pre6 enc Tryz.prog Tryz.f3 Rows.poolFreshRow.domain false) (Rows.poolFreshSpec.post enc Tryz.prog Tryz.f3 false true false false) := by
  refine lift_new (C := Tryz.checked) (s := Rows.poolFreshSpec) (tb := 4) own started (by kernel_rfl) Tryz.func3
    (ChangeSpec.witness6 (enc := enc) (C := Tryz.checked) false ⟨#[], #[.int .u8 0, .slice none 0 0], []⟩ 8 (by kernel_rfl) (by kernel_rfl) (by kernel_rfl) (by kernel_rfl))
    rfl (by kernel_rfl) Tryz.underlying4 ?_ laidOut (of_decide_eq_true (by kernel_rfl)) ?_
  · intro ds hd
    match ds, hd with
    | [d0, d1], _ => exact ⟨rfl, rfl, rfl⟩
  · intro W base args ds hA
    have hA : Args enc Tryz.prog W base Tryz.f3.params.toList args.toList ds := hA
    rw [Tryz.params3] at hA
    obtain ⟨v0, vs0, d0, ds0, p0, hargs, rfl, a0, hA⟩ := hA.cons_
    obtain ⟨v1, vs1, d1, ds1, p1, rfl, rfl, a1, hA⟩ := hA.cons_
    obtain ⟨rfl, rfl⟩ := hA.nil_
    obtain rfl : args = #[v0, v1] := by cases args; simp_all
    obtain ⟨y0, rfl, w0⟩ := a0.int_ Tryz.underlying5
    obtain ⟨x0, rfl, h0⟩ := u8_nat w0
    obtain ⟨A1, n1, c1, l1, rfl, b1, k1, m1⟩ := a1.acts4_
    exact walk x0 A1 n1 c1 l1 W h0 b1 ⟨k1, m1⟩

theorem over : Rows.poolFreshRow.holds Tryz.pinned (OpenSpec.ofChange Rows.poolFreshSpec) :=
  OpenClaim.holds_of_wide 3 Tryz.f3 rfl rfl rfl rfl rfl rfl rfl ⟨rfl, rfl, rfl, rfl, rfl⟩ rfl rfl rfl rfl rfl (by kernel_rfl) Tryz.func3 (by kernel_rfl)
    (of_decide_eq_true (by kernel_rfl)) (by unfold Func.isWrapper; first | (rw [if_pos (by decide +kernel)]; kernel_rfl) | (rw [if_neg (by decide +kernel)]; exact ⟨rfl, rfl⟩))
    (fun os started H enc _ => lifted os started H enc)

theorem proved : Rows.PoolFreshSaid := over
end Go.Proofs.YtgfdiboaiifdnaaGreat.poolFresh
