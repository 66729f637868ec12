/-
  FactChanges: what was changed is found, or is not there; nothing else has changed; the same change twice changes no more; all stands in order; for every list of facts, change and key.
-/
import Derived.Test.YtgjipcoobadipaaMn
namespace Go.Proofs.Ytgjipcoobadipaa.factChanges
open Go.ChangeShapes Go.WideShapes Go.ChangeAt Go.RowKit

theorem own : ownKnob Try.prog.godebug = none := by kernel_rfl
theorem laidOut : laidOutB Try.prog = true := by kernel_rfl

set_option maxRecDepth 100000 in
set_option maxHeartbeats 6400000 in
theorem walk (A : Option Addr) (n c : Nat) (es : List FE) (x : CE) (k : KY) (w : World) (h : FsIn w A n c es) (hx : COk w x ∧ KyIn x.f.k) (_hk : KyIn k) :
    Calls Try.prog 9 #[.slice A n c, .agg #[.int .i64 x.f.k.i, .int .u8 (x.f.k.t : Nat), .string x.f.k.n, .int .i64 x.f.k.c, .slice x.A x.f.v.length x.c, .bool x.f.g], .agg #[.int .i64 k.i, .int .u8 (k.t : Nat), .string k.n, .int .i64 k.c]] w (True1 w) := by
  obtain ⟨wb, hwb⟩ : ∃ wb, wb = (w.alloc (.cells #[.int .i64 x.f.k.i, .int .u8 (x.f.k.t : Nat), .string x.f.k.n, .int .i64 x.f.k.c, .slice x.A x.f.v.length x.c, .bool x.f.g] 62)).alloc (.cells #[.int .i64 k.i, .int .u8 (k.t : Nat), .string k.n, .int .i64 k.c] 23) := ⟨_, rfl⟩
  have K0 : Hid (New w wb) := by rw [hwb]; exact ((Kept.refl _ _).alloc _).alloc _
  have BX : Hid (∀ u, New wb u → Blk u w.heap.size 62 [.int .i64 x.f.k.i, .int .u8 (x.f.k.t : Nat), .string x.f.k.n, .int .i64 x.f.k.c, .slice x.A x.f.v.length x.c, .bool x.f.g]) := fun u hu => by rw [hwb] at hu; exact ((Blk.made w _ _).alloc _).kept hu id
  have BK : Hid (∀ u, New wb u → Blk u (w.heap.size + 1) 23 [.int .i64 k.i, .int .u8 (k.t : Nat), .string k.n, .int .i64 k.c]) := fun u hu => by
    rw [hwb] at hu
    have := Blk.made (w.alloc (.cells #[.int .i64 x.f.k.i, .int .u8 (x.f.k.t : Nat), .string x.f.k.n, .int .i64 x.f.k.c, .slice x.A x.f.v.length x.c, .bool x.f.g] 62)) 23 #[.int .i64 k.i, .int .u8 (k.t : Nat), .string k.n, .int .i64 k.c]
    rw [World.size_alloc] at this
    exact this.kept hu id
  have HW := Lib.hid hwb
  have HX := Lib.hid (hx.1.new K0.out)
  have HF := Lib.hid (h.1.new K0.out)
  have hn : n * 64 ≤ 140737488351232 := h.2.2.2.2.1
  clear hwb h hx
  go_enter Try.func9, Try.ntmps9
  go_wp2_with fail
  rw [← HW.out]
  clear HW
  refine (apply0_any _).mono ?_
  rintro e w1 ⟨A1, n1, c1, rfl, ls1, k1⟩
  have n1z : n1 = 0 := by have := ls1.len; simpa using this.symm
  subst n1z
  have L1 := Lib.hid ls1
  have K1 := Lib.hid k1
  clear ls1 k1
  go_upto_block 0 with fail
  go_cut [7] (fun b wx => ∃ (Ab : Option Addr) (nb cb : Nat) (l0 : List FT), b = .slice Ab nb cb ∧ nb ≤ 100 ∧ Hid (LsA wx Ab nb cb l0) ∧ Hid (ordF l0 = true) ∧ Hid (New wb wx))
  case first =>
    go_wp2_with fail
    go_loopw [7, 8] (fun b i wr => ∃ (j : Nat) (Ab : Option Addr) (nb cb : Nat) (l0 : List FT), i = .int .i64 j ∧ j ≤ n ∧ j ≤ 100 ∧ b = .slice Ab nb cb ∧ nb ≤ j ∧ Hid (LsA wr Ab nb cb l0) ∧ Hid (ordF l0 = true) ∧ Hid (New wb wr)) (fun _ i _ => n - (intOf i).toNat)
    case atStart => exact ⟨0, A1, 0, c1, [], rfl, Nat.zero_le _, by omega, rfl, Nat.le_refl _, L1, rfl, K1⟩
    case round =>
      obtain ⟨j, Ab, nb, cb, l0, rfl, hj1, hj2, rfl, hnb, VL, VO, VK⟩ := hrel
      by_cases hlt : j < n
      · have d1 : decide ((j : Int) < (n : Int)) = true := decide_eq_true (by omega)
        by_cases hlt2 : j < 100
        · have d2 : decide ((j : Int) < 100) = true := decide_eq_true (by omega)
          obtain ⟨g, o, y, eA, _, hok, y0, y1, y2, y3, y4⟩ := (HF.out.new VK.out).at_ (i := j) hlt
          subst eA
          have CL : Hid (∀ u, New wr u → ∀ g', Blk u g' 62 [.int .i64 y.f.k.i, .int .u8 (y.f.k.t : Nat), .string y.f.k.n, .int .i64 y.f.k.c, .slice y.A y.f.v.length y.c, .bool false] →
              Calls Try.prog 34 #[.slice Ab nb cb, .slice (some ⟨g', 0, none⟩) 1 1] u (Ap1 u (apF l0 [⟨y.f.k, y.f.v, false⟩]))) := fun u hu g' hg =>
            apply1_any Ab nb cb l0 g' ⟨⟨y.f.k, y.f.v, false⟩, y.A, y.c⟩ u (VL.out.new hu) VO.out (by omega) hg ⟨(hok.1.new hu), hok.2⟩
          have HLN : Hid (∀ m, m = (apF l0 [⟨y.f.k, y.f.v, false⟩]).length → m ≤ j + 1) := fun m hm => by
            have h1 := ap1_len VO.out ⟨y.f.k, y.f.v, false⟩
            have h2 := VL.out.len
            omega
          have HOR := Lib.hid (ord_ap [⟨y.f.k, y.f.v, false⟩] VO.out)
          have HMK : Hid (∀ W' : World, Blk (W'.alloc (.cells #[.int .i64 y.f.k.i, .int .u8 (y.f.k.t : Nat), .string y.f.k.n, .int .i64 y.f.k.c, .slice y.A y.f.v.length y.c, .bool false] 62)) W'.heap.size 62 [.int .i64 y.f.k.i, .int .u8 (y.f.k.t : Nat), .string y.f.k.n, .int .i64 y.f.k.c, .slice y.A y.f.v.length y.c, .bool false]) := fun W' => Blk.made W' _ _
          clear hok L1 K1 VL VO
          go_wp2_with fail
          go_region_with (go_at_call 34; refine (CL.out _ (by first | exact (Kept.refl _ _).drew.alloc _ | exact ((Kept.refl _ _).alloc _).drew | exact (Kept.refl _ _).alloc _) _ (by first | exact HMK.out _ | exact (HMK.out _).drew)).mono ?_; rintro e w3 ⟨A3, n3, c3, rfl, ls3, k3⟩)
          all_goals
            have HL3 := Lib.hid ls3
            have HK3 : Hid (New wb w3) := VK.out.new (by first | exact ((Kept.refl _ _).drew.alloc _).new k3 | exact (((Kept.refl _ _).alloc _).drew).new k3)
            have hn3 : n3 ≤ j + 1 := HLN.out _ ls3.len.symm
            clear ls3 k3
            go_wp2
            go_roundw
            case rel => exact ⟨j + 1, A3, n3, c3, _, by go_num, by omega, by omega, rfl, hn3, HL3, HOR, HK3⟩
            case measure => simp [intOf]; omega
        · have d2 : decide ((j : Int) < 100) = false := decide_eq_false (by omega)
          go_wp2
          go_meet
          case rel => exact ⟨Ab, nb, cb, l0, rfl, by omega, VL, VO, VK⟩
      · have d1 : decide ((j : Int) < (n : Int)) = false := decide_eq_false (by omega)
        go_wp2
        go_meet
        case rel => exact ⟨Ab, nb, cb, l0, rfl, by omega, VL, VO, VK⟩
  case rest =>
    obtain ⟨Ab, nb, cb, l0, rfl, hnb, VL, VO, VK⟩ := hcut
    obtain ⟨k0, k1, k2, k3⟩ := cells4 (BK.out wc VK.out)
    clear L1 K1 HF hn
    go_wp2_with fail
    refine (find1_any Ab nb cb l0 k _ VL.out VO.out).mono ?_
    obtain ⟨r0, hr0⟩ : ∃ r, findF l0 k = r := ⟨_, rfl⟩
    rw [hr0]
    rintro e w2 ⟨A2, c2, rfl, o2, m2, q2⟩
    have K2 := Lib.hid (VK.out.new m2)
    have L2 := Lib.hid (VL.out.new m2)
    have O2 := Lib.hid o2
    have R0 := Lib.hid hr0
    have HR0 : Hid ((r0.getD []).length ≤ maxLen) := q2
    clear q2 o2 m2 VL VK k0 k1 k2 k3 hr0
    have XC : Hid (∀ u, New wb u → u.cell? ⟨w.heap.size, 0, none⟩ = some (.int .i64 x.f.k.i) ∧ u.cell? ⟨w.heap.size, 1, none⟩ = some (.int .u8 (x.f.k.t : Nat)) ∧ u.cell? ⟨w.heap.size, 2, none⟩ = some (.string x.f.k.n) ∧ u.cell? ⟨w.heap.size, 3, none⟩ = some (.int .i64 x.f.k.c) ∧ u.cell? ⟨w.heap.size, 4, none⟩ = some (.slice x.A x.f.v.length x.c) ∧ u.cell? ⟨w.heap.size, 5, none⟩ = some (.bool x.f.g)) := fun u hu =>
      ⟨(BX.out u hu).cell 0, (BX.out u hu).cell 1, (BX.out u hu).cell 2, (BX.out u hu).cell 3, (BX.out u hu).cell 4, (BX.out u hu).cell 5⟩
    obtain ⟨x0, x1, x2, x3, x4, x5⟩ := XC.out w2 K2.out
    go_wp2_with fail
    refine (apply1_any Ab nb cb l0 _ x _ (L2.out.new ((Kept.refl _ _).alloc _)) VO.out (by omega) (Blk.made _ _ _) (HX.out.new (K2.out.alloc _))).mono ?_
    rintro e w3 ⟨A3, n3, c3, rfl, ls3, m3⟩
    have K3 := Lib.hid (K2.out.new (((Kept.refl _ _).alloc _).new m3))
    have L3 := Lib.hid ls3
    have O3 := Lib.hid (O2.out.new (((Kept.refl _ _).alloc _).new m3))
    have hn3 : n3 ≤ 101 := by
      have h1 := ap1_len VO.out x.f
      have h2 := L2.out.len
      have h3 := ls3.len
      omega
    have HTW := Lib.hid (ap_twice VO.out x.f)
    have HOA := Lib.hid (ord_ap [x.f] VO.out)
    have HFO := Lib.hid (find_own (l := l0) x.f)
    have HFT : Hid (¬ x.f.k = k → findF (apF l0 [x.f]) k = findF l0 k) := fun hk => find_other x.f hk
    rw [R0.out] at HFT
    clear ls3 m3 K2 L2 O2 x0 x1 x2 x3 x4 x5 R0 VO
    generalize apF l0 [x.f] = la at *
    obtain ⟨x0, x1, x2, x3, x4, x5⟩ := XC.out w3 K3.out
    go_wp2_with fail
    refine (apply1_any A3 n3 c3 la _ x _ (L3.out.new ((Kept.refl _ _).alloc _)) HOA.out (by omega) (Blk.made _ _ _) (HX.out.new (K3.out.alloc _))).mono ?_
    rw [HTW.out]
    rintro e w4 ⟨A4, n4, c4, rfl, ls4, m4⟩
    have K4 := Lib.hid (K3.out.new (((Kept.refl _ _).alloc _).new m4))
    have L4 := Lib.hid ls4
    have P3 := Lib.hid (L3.out.new (((Kept.refl _ _).alloc _).new m4))
    have O4 := Lib.hid (O3.out.new (((Kept.refl _ _).alloc _).new m4))
    clear ls4 m4 K3 L3 O3 x0 x1 x2 x3 x4 x5 HTW
    obtain ⟨x0, x1, x2, x3, _, _⟩ := XC.out w4 K4.out
    go_wp2_with fail
    refine (find1_any A3 n3 c3 la x.f.k _ P3.out HOA.out).mono ?_
    obtain ⟨r1, hr1⟩ : ∃ r, findF la x.f.k = r := ⟨_, rfl⟩
    rw [hr1]
    rw [hr1] at HFO
    rintro e w5 ⟨A5, c5, rfl, o5, m5, _⟩
    have K5 := Lib.hid (K4.out.new m5)
    have L5 := Lib.hid (L4.out.new m5)
    have P5 := Lib.hid (P3.out.new m5)
    have O5 := Lib.hid (O4.out.new m5)
    have Q5 := Lib.hid o5
    clear o5 m5 K4 L4 P3 O4 x0 x1 x2 x3 hr1
    obtain ⟨k0, k1, k2, k3⟩ := cells4 (BK.out w5 K5.out)
    go_wp2_with fail
    refine (find1_any A3 n3 c3 la k _ P5.out HOA.out).mono ?_
    obtain ⟨r2, hr2⟩ : ∃ r, findF la k = r := ⟨_, rfl⟩
    rw [hr2]
    rw [hr2] at HFT
    rintro e w6 ⟨A6, c6, rfl, o6, m6, _⟩
    have K6 := Lib.hid (K5.out.new m6)
    have L6 := Lib.hid (L5.out.new m6)
    have P6 := Lib.hid (P5.out.new m6)
    have O6 := Lib.hid (O5.out.new m6)
    have Q6 := Lib.hid (Q5.out.new m6)
    have S6 := Lib.hid o6
    clear o6 m6 K5 L5 P5 O5 Q5 k0 k1 k2 k3 hr2
    have HVL : Hid (x.f.v.length ≤ maxLen) := by
      have := HX.out.2.2.1
      unfold maxLen
      show _ ≤ _
      omega
    go_upto_region 11 with fail
    go_cut [89] (fun v wx => v = .bool false ∧ Hid (New w6 wx))
    case first =>
      go_wp2_with fail
      refine (sameF_yes A3 A4 n3 n4 c3 c4 la _ P6.out L6.out).mono ?_
      rintro e w7 ⟨rfl, m7⟩
      have M7 := Lib.hid m7
      clear m7
      obtain ⟨_, _, _, _, x4, x5⟩ := XC.out w7 (K6.out.new M7.out)
      obtain ⟨gg, hgg⟩ : ∃ b, x.f.g = b := ⟨_, rfl⟩
      rw [hgg] at HFO x5
      clear hgg
      cases gg
      · have h1 : r1 = some x.f.v := HFO.out
        subst h1
        have T1 : Hid (Bts w7 A5 x.f.v.length x.f.v) := Q6.out.new M7.out
        have T2 : Hid (Bts w7 x.A x.f.v.length x.f.v) := (HX.out.1.new K6.out).new M7.out
        go_wp2_with fail
        refine (same_yes A5 x.A x.f.v.length x.f.v.length c5 x.c x.f.v _ T1.out T2.out HVL.out).mono ?_
        rintro e w8 ⟨rfl, m8⟩
        have M8 := Lib.hid (M7.out.new m8)
        clear m8
        go_wp2
        go_meet
        case rel => exact ⟨rfl, M8⟩
      · have h1 : r1 = none := HFO.out
        subst h1
        go_wp2
        go_meet
        case rel => exact ⟨rfl, M7⟩
    case rest =>
      obtain ⟨rfl, M9⟩ := hcut
      go_upto_region 13 with fail
      obtain ⟨k0, k1, k2, k3⟩ := cells4 (BK.out wc (K6.out.new M9.out))
      obtain ⟨x0, x1, x2, x3, _, _⟩ := XC.out wc (K6.out.new M9.out)
      go_cut [104] (fun v wx => v = .bool false ∧ Hid (New w6 wx))
      case first =>
        by_cases hkk : k = x.f.k
        · have HNQ : ∀ u, Sem.run Try.prog (binOp .neq 23 (.agg #[.int .i64 k.i, .int .u8 (k.t : Nat), .string k.n, .int .i64 k.c]) (.agg #[.int .i64 x.f.k.i, .int .u8 (x.f.k.t : Nat), .string x.f.k.n, .int .i64 x.f.k.c])) u = .ok (.bool false) u := fun u => by rw [key_neq, decide_eq_true hkk]; rfl
          clear hkk
          go_wp2
          go_meet
          case rel => exact ⟨rfl, M9⟩
        · have HNQ : ∀ u, Sem.run Try.prog (binOp .neq 23 (.agg #[.int .i64 k.i, .int .u8 (k.t : Nat), .string k.n, .int .i64 k.c]) (.agg #[.int .i64 x.f.k.i, .int .u8 (x.f.k.t : Nat), .string x.f.k.n, .int .i64 x.f.k.c])) u = .ok (.bool true) u := fun u => by rw [key_neq, decide_eq_false hkk]; rfl
          have h2 : r2 = r0 := HFT.out fun e => hkk e.symm
          subst h2
          clear hkk
          have T1 := Lib.hid (O6.out.new M9.out)
          have T2 := Lib.hid (S6.out.new M9.out)
          go_wp2_with fail
          refine (same_yes A2 A6 _ _ c2 c6 _ _ T1.out T2.out HR0.out).mono ?_
          rintro e w8 ⟨rfl, m8⟩
          have M8 := Lib.hid (M9.out.new m8)
          clear m8
          go_wp2
          go_meet
          case rel => exact ⟨rfl, M8⟩
      case rest =>
        obtain ⟨rfl, M10⟩ := hcut
        have K10 := Lib.hid (K6.out.new M10.out)
        have P10 := Lib.hid (P6.out.new M10.out)
        clear k0 k1 k2 k3 x0 x1 x2 x3 M9 M10 K6 L6 P6 O6 Q6 S6 HFO HFT
        go_wp2_with fail
        go_loopw [17] (fun i wr => ∃ j : Nat, (j + 1 ≤ n3 ∨ j = 0) ∧ i = .int .i64 ((j : Int) + 1) ∧ Hid (New wc wr)) (fun i _ => n3 - (intOf i).toNat)
        case atStart => exact ⟨0, .inr rfl, rfl, Kept.refl _ _⟩
        case round =>
          obtain ⟨j, hj, rfl, HN⟩ := hrel
          by_cases hlt : j + 1 < n3
          · obtain ⟨g, o, p, eA, hp, x0, x1, x2, x3⟩ := (P10.out.new HN.out).at_ (i := j) (by omega)
            obtain ⟨g', o', q, eA', hq, y0, y1, y2, y3⟩ := (P10.out.new HN.out).at_ (i := j + 1) hlt
            subst eA
            injection eA' with eA'
            injection eA' with e1 e2
            subst e1 e2
            have hb : befK p.k q.k = true := ord_at HOA.out hp hq (by omega)
            have s0 : IntKind.i64.wrap (j : Int) = (j : Int) := by rw [IntKind.wrap_i64]; omega
            have s1 : (0 : Int) ≤ (j : Int) + 1 := by omega
            have s2 : ((j : Int) + 1).toNat = j + 1 := by omega
            have s3 : (j : Int) < (n3 : Int) := by omega
            have s4 : (j : Int) + 1 < (n3 : Int) := by omega
            have p0 := fun d os => cell_regrown x0 d os
            have p1 := fun d os => cell_regrown x1 d os
            have p2 := fun d os => cell_regrown x2 d os
            have p3 := fun d os => cell_regrown x3 d os
            have r0 := fun d os => cell_regrown y0 d os
            have r1 := fun d os => cell_regrown y1 d os
            have r2 := fun d os => cell_regrown y2 d os
            have r3 := fun d os => cell_regrown y3 d os
            have cB := Lib.hid (fun (d : Nat) (os : Array Obj) => Calls.regrown_of (d := d) (os := os) (before_new p.k q.k _ hb (Go.Sort.grow (redrawn wr d) os)))
            clear x0 x1 x2 x3 y0 y1 y2 y3 hp hq hb
            go_wp2_with fail
            refine wp_region_quiet_below (by kernel_rfl) (by kernel_rfl) ?_
            repeat (quiet_step (first
              | (go_at_call 16; exact cB.out _ _)))
            refine wpQuiet_nil ?_
            intro _ hw'
            obtain ⟨⟨dq, osq⟩, hw''⟩ := hw'
            subst hw''
            have K9 : Hid (New wc (Go.Sort.grow (redrawn wr dq) osq)) := new_regrown HN.out dq osq
            clear cB p0 p1 p2 p3 r0 r1 r2 r3
            go_wp2
            go_roundw
            case rel => exact ⟨j + 1, .inl (by omega), by go_num, K9⟩
            case measure => simp [intOf]; omega
          · have K11 := Lib.hid (K0.out.new (K10.out.new HN.out))
            go_wp2_with fail
            refine (works6_any _).mono ?_
            rintro e w9 ⟨rfl, m9⟩
            go_wp2
            go_ret
            exact ⟨rfl, K11.out.new m9⟩

set_option maxRecDepth 100000 in
theorem lifted (os : Os) (started : os.Started) (H : Type) (enc : TypeId × Value → H) :
    ReturnsInHanded {} Try.checked os 9 .any (Rows.factChangesSpec.pre6 enc Try.prog Try.f9 Rows.factChangesRow.domain false) (Rows.factChangesSpec.post enc Try.prog Try.f9 false true false false) := by
  refine lift_new (C := Try.checked) (s := Rows.factChangesSpec) (tb := 4) own started (by kernel_rfl) Try.func9
    (ChangeSpec.witness6 (enc := enc) (C := Try.checked) false ⟨#[], #[.slice none 0 0, .agg #[.int .i64 0, .int .u8 0, .string .empty, .int .i64 0, .slice none 0 0, .bool false], .agg #[.int .i64 0, .int .u8 0, .string .empty, .int .i64 0]], []⟩ 8 (by kernel_rfl) (by kernel_rfl) (by kernel_rfl) (by kernel_rfl))
    rfl (by kernel_rfl) Try.underlying4 ?_ laidOut (of_decide_eq_true (by kernel_rfl)) ?_
  · intro ds hd
    match ds, hd with
    | [d0, d1, d2], _ => exact ⟨rfl, rfl, rfl⟩
  · intro W base args ds hA
    have hA : Args enc Try.prog W base Try.f9.params.toList args.toList ds := hA
    rw [Try.params9] at hA
    obtain ⟨v0, vs0, d0, ds0, p0, hargs, rfl, a0, hA⟩ := hA.cons_
    obtain ⟨v1, vs1, d1, ds1, p1, rfl, rfl, a1, hA⟩ := hA.cons_
    obtain ⟨v2, vs2, d2, ds2, p2, rfl, rfl, a2, hA⟩ := hA.cons_
    obtain ⟨rfl, rfl⟩ := hA.nil_
    obtain rfl : args = #[v0, v1, v2] := by cases args; simp_all
    obtain ⟨A0, n0, c0, l0, rfl, b0⟩ := a0.facts_
    obtain ⟨x1, rfl, b1⟩ := a1.change_
    obtain ⟨k2, rfl, b2⟩ := a2.key_
    exact walk A0 n0 c0 l0 x1 k2 W b0 b1 b2

theorem over : Rows.factChangesRow.holds Try.pinned (OpenSpec.ofChange Rows.factChangesSpec) :=
  OpenClaim.holds_of_wide 9 Try.f9 rfl rfl rfl rfl rfl rfl rfl ⟨rfl, rfl, rfl, rfl, rfl⟩ rfl rfl rfl rfl rfl (by kernel_rfl) Try.func9 (by kernel_rfl)
    (of_decide_eq_true (by kernel_rfl)) (by unfold Func.isWrapper; first | (rw [if_pos (by decide +kernel)]; kernel_rfl) | (rw [if_neg (by decide +kernel)]; exact ⟨rfl, rfl⟩))
    (fun os started H enc _ => lifted os started H enc)

theorem proved : Rows.FactChangesSaid := over
end Go.Proofs.Ytgjipcoobadipaa.factChanges
