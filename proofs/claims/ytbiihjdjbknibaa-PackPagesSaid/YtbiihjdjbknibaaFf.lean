/-
  Contracts: the reference's bytes of a key.
-/
import Derived.Test.YtbiihjdjbknibaaFe
namespace Go.Proofs.Ytbiihjdjbknibaa
set_option maxRecDepth 100000
open Go.RowKit

theorem Kept.of_grown {w w' : World} {row : Option Nat} (hg : w.grownBy w' row) : Kept (fun k => row = some k) w w' := (Kept.refl _ _).grown hg fun _ _ h => h
theorem Blk.grownO {w w' : World} {g : Nat} {t : TypeId} {cs : List Value} {A : Option Addr} {c B : Nat} {l : List Nat} (h : Blk w g t cs) (ho : OwnB w 5 B A c l) (hg : w.grownBy w' (A.map (·.block))) (hne : t ≠ 5) : Blk w' g t cs :=
  h.kept (Kept.of_grown hg) (by
    intro e
    obtain ⟨a, rfl, rfl⟩ := Option.map_eq_some_iff.1 e
    exact (ho.at_ a rfl).1.ne_of h.at_ (fun e => hne e.symm) rfl)

set_option maxRecDepth 100000 in
set_option maxHeartbeats 3200000 in
theorem rputKey_any (k : KY) (w : World) (hn : k.n.size ≤ maxLen) :
    Calls Try.prog 29 #[.agg #[.int .i64 k.i, .int .u8 (k.t : Nat), .string k.n, .int .i64 k.c]] w (RetB w (pkL k) (pkE k)) := by
  obtain ⟨i0, hi, hz0, hz1, hz2⟩ := info_parts info_u8
  by_cases hm : mayK k = true
  · have HP := Lib.hid (may_parts hm)
    have HNM := Lib.hid (may_name hm)
    have HR : Hid (pkL k = [k.i.toNat % 256, k.i.toNat / 256 % 256, k.t] ++ restK k) := by show _ = _; unfold pkL; rw [if_pos hm]; rfl
    have HE : Hid (pkE k = 0) := by show _ = _; unfold pkE; rw [if_pos hm]
    have HM2 := fun u => Lib.hid (show Calls Try.prog _ _ u (NewBool u true) from hm ▸ rmay_any k u hn)
    clear hm
    have HK : Hid (restK k = if k.t = 2 then k.n.size :: nB k.n else if k.t = 3 then [k.c.toNat] else []) := rfl
    generalize pkL k = pl at *
    generalize pkE k = pe at *
    generalize restK k = rk at *
    obtain ⟨i, t, s, c⟩ := k
    dsimp only at *
    have ht := HP.out.2.2.1
    have hi1 := HP.out.1
    have hi2 := HP.out.2.1
    obtain ⟨m, rfl⟩ : ∃ m : Nat, i = m := ⟨i.toNat, by omega⟩
    have hm2 : m ≤ 65535 := by omega
    have hm1 : 1 ≤ m := by omega
    simp only [Int.toNat_natCast] at HR
    clear hi1 hi2
    go_enter Try.func29, Try.ntmps29
    go_wp2_with fail
    refine (HM2 _).out.mono ?_
    rintro e w1 ⟨rfl, k1⟩
    have K1 : Hid (New w w1) := ((Kept.refl _ _).alloc _).new k1
    have B1 : Hid (Blk w1 w.heap.size 24 [.int .i64 (m : Nat), .int .u8 (t : Nat), .string s, .int .i64 c]) := (Blk.made w _ _).kept k1 id
    clear k1 HM2
    have a0 : w1.cell? ⟨w.heap.size, 0, none⟩ = some (.int .i64 (m : Nat)) := B1.out.cell 0
    have a1 : w1.cell? ⟨w.heap.size, 1, none⟩ = some (.int .u8 (t : Nat)) := B1.out.cell 1
    have q1 : (0 : Int) ≤ (m : Int) / 256 := by omega
    have q2 : (m : Int) / 256 ≤ 255 := by omega
    have hlt := B1.out.lt
    have hcells : Hid (#[Value.int IntKind.u8 ((m : Int) % 256), Value.int IntKind.u8 ((m : Int) / 256), Value.int IntKind.u8 (t : Nat)] = ([m % 256, m / 256 % 256, t].map byt).toArray) := by
      have e1 : (m : Int) / 256 = ((m / 256 % 256 : Nat) : Int) := by omega
      have e2 : (m : Int) % 256 = ((m % 256 : Nat) : Int) := by omega
      show _ = _
      rw [e1, e2]
      rfl
    have HB3 : Hid (∀ u : World, New w u → OwnB (u.alloc (.cells #[Value.int IntKind.u8 ((m : Int) % 256), Value.int IntKind.u8 ((m : Int) / 256), Value.int IntKind.u8 (t : Nat)] 5)) 5 w.heap.size (some ⟨u.heap.size, 0, none⟩) 3 [m % 256, m / 256 % 256, t]) := by
      intro u hu
      refine OwnB.of_blk (sp := []) ?_ hu.size (by intro x hx; simp only [List.append_nil, List.mem_cons, List.not_mem_nil, or_false] at hx; omega) rfl (by unfold maxLen; omega)
      have := Blk.made u 5 #[Value.int IntKind.u8 ((m : Int) % 256), Value.int IntKind.u8 ((m : Int) / 256), Value.int IntKind.u8 (t : Nat)]
      rw [hcells.out] at this
      rw [hcells.out]
      exact this
    clear hcells
    by_cases t2 : t = 2
    · have HK2 : Hid (rk = s.size :: nB s) := HK.out.trans (if_pos t2)
      subst t2
      clear HK
      have a2 : w1.cell? ⟨w.heap.size, 2, none⟩ = some (.string s) := B1.out.cell 2
      have hs12 := HNM.out
      have u8s : IntKind.u8.wrap (s.size : Int) = (s.size : Int) := by rw [IntKind.wrap_u8]; omega
      go_wp2_with (at_builtin; refine wpList_append_bytes _ rfl _ _ _ rfl 5 i0 Try.underlying25 hi hz0 hz1 hz2 w.heap.size (some ⟨w1.heap.size, 0, none⟩) 3 3 [m % 256, m / 256 % 256, 2] rfl ((HB3.out w1 K1.out).new ((Kept.refl _ _).alloc _)) rfl (some ⟨w1.heap.size + 1, 0, none⟩) 1 1 [s.size] rfl (Bts.one _ _ _ _ (by omega) (by simp)) ?_ ?_ ?_)
      · simp
      · have := K1.out.size
        simp
        omega
      intro A2 c2 w2 o2 g2 _
      have k12 : New w1 w2 := (((Kept.refl _ _).alloc _).alloc _).grown g2 (by simp; omega)
      have K2 : Hid (New w w2) := K1.out.new k12
      have B2 : Hid (Blk w2 w.heap.size 24 [.int .i64 (m : Nat), .int .u8 (2 : Nat), .string s, .int .i64 c]) := B1.out.kept k12 id
      have O2 := Lib.hid o2
      have HNL := Lib.hid (nB_len s)
      clear k12 o2 g2 K1 B1 a0 a1 a2 hlt HB3 u8s q1 q2 hm1 hm2
      go_wp2_with fail
      go_loopw [4, 5] (fun o i wr => ∃ (k : Nat) (A : Option Addr) (c' : Nat), k ≤ s.size ∧ i = .int .i64 k ∧ o = .slice A (4 + k) c' ∧ Hid (OwnB wr 5 w.heap.size A c' ([m % 256, m / 256 % 256, 2] ++ [s.size] ++ (nB s).take k)) ∧ Hid (New w wr) ∧ Hid (Blk wr w.heap.size 24 [.int .i64 (m : Nat), .int .u8 (2 : Nat), .string s, .int .i64 c])) (fun _ i _ => s.size - (intOf i).toNat)
      case atStart => exact ⟨0, A2, c2, Nat.zero_le _, rfl, rfl, by simpa using O2, K2, B2⟩
      case round =>
        obtain ⟨k, A, cc, hk, rfl, rfl, HO, HN, HB⟩ := hrel
        clear O2 K2 B2
        have a2 : wr.cell? ⟨w.heap.size, 2, none⟩ = some (.string s) := HB.out.cell 2
        have hlt := HB.out.lt
        by_cases hks : k < s.size
        · have HX := Lib.hid (at_list s k hks)
          have hx : (s[k].toNat) < 256 := s[k].toNat_lt
          have HT : Hid ([m % 256, m / 256 % 256, 2] ++ [s.size] ++ (nB s).take (k + 1) = [m % 256, m / 256 % 256, 2] ++ [s.size] ++ (nB s).take k ++ [s[k].toNat]) := by
            show _ = _
            have : (nB s)[k]? = some s[k].toNat := by unfold nB; rw [List.getElem?_map, HX.out]; rfl
            rw [List.take_add_one, this]
            simp
          have HTL : Hid (([m % 256, m / 256 % 256, 2] ++ [s.size] ++ (nB s).take k).length = 4 + k) := by
            show _ = _
            have := HNL.out
            simp only [List.length_append, List.length_cons, List.length_nil, List.length_take]
            omega
          go_wp2_with (at_builtin; refine wpList_append_bytes _ rfl _ _ _ rfl 5 i0 Try.underlying25 hi hz0 hz1 hz2 w.heap.size A _ cc ([m % 256, m / 256 % 256, 2] ++ [s.size] ++ (nB s).take k) rfl (HO.out.new ((Kept.refl _ _).alloc _)) HTL.out.symm (some ⟨wr.heap.size, 0, none⟩) 1 1 [s[k].toNat] rfl (Bts.one _ _ _ _ hx rfl) ?_ ?_ ?_)
          · have := HTL.out
            omega
          · have := HN.out.size
            simp
            omega
          intro A3 c3 w3 o3 g3 _
          have HO3 : Hid (OwnB w3 5 w.heap.size A3 c3 ([m % 256, m / 256 % 256, 2] ++ [s.size] ++ (nB s).take (k + 1))) := by rw [HT.out]; exact o3
          have HO' := Lib.hid (HO.out.new ((Kept.refl (fun _ => False) wr).alloc (.cells #[.int .u8 (s[k].toNat : Nat)] 5)))
          have HN3 : Hid (New w w3) := Kept.of_own (HN.out.alloc _) HO'.out g3
          have HB3 : Hid (Blk w3 w.heap.size 24 [.int .i64 (m : Nat), .int .u8 (2 : Nat), .string s, .int .i64 c]) := (HB.out.alloc _).grownO HO'.out g3 (by decide)
          clear o3 g3 HO HO' HN HB HT HTL HX hx
          go_wp2
          go_roundw
          case rel => exact ⟨k + 1, A3, c3, by omega, by go_num, by first | rfl | (congr 1), HO3, HN3, HB3⟩
          case measure => simp [intOf]; omega
        · have EL : Hid (RetB w pl pe (.returned (.tuple #[.slice A (4 + k) cc, .int .i64 0])) wr) := by
            have hks' : k = s.size := by omega
            have ho := HO.out
            have hnl := HNL.out
            rw [List.take_of_length_le (by omega)] at ho
            have e1 : [m % 256, m / 256 % 256, 2] ++ [s.size] ++ nB s = pl := by rw [HR.out, HK2.out]; simp
            rw [e1] at ho
            refine ⟨A, cc, ?_, ho, HN.out⟩
            have : pl.length = 4 + k := by
              rw [← e1]
              simp only [List.length_append, List.length_cons, List.length_nil]
              omega
            rw [this, HE.out]
          clear HO HN HNL HR HK2 HE
          go_wp2
          go_ret2
          exact EL.out
    · have d2 : ((t : Int) == 2) = false := beq_eq_false_iff_ne.2 (by omega)
      by_cases t3 : t = 3
      · have HK2 : Hid (rk = [c.toNat]) := HK.out.trans (by rw [if_neg t2, if_pos t3])
        have a3 : w1.cell? ⟨w.heap.size, 3, none⟩ = some (.int .i64 c) := B1.out.cell 3
        have hc : 0 ≤ c ∧ c < 8 := by rcases HP.out.2.2.2 with h | h | h <;> omega
        obtain ⟨x, rfl⟩ : ∃ x : Nat, c = x := ⟨c.toNat, by omega⟩
        have hx8 : x < 8 := by omega
        simp only [Int.toNat_natCast] at HK2
        subst t3
        clear HK t2 hc
        go_wp2_with (at_builtin; refine wpList_append_bytes _ rfl _ _ _ rfl 5 i0 Try.underlying25 hi hz0 hz1 hz2 w.heap.size (some ⟨w1.heap.size, 0, none⟩) 3 3 [m % 256, m / 256 % 256, 3] rfl ((HB3.out w1 K1.out).new ((Kept.refl _ _).alloc _)) rfl (some ⟨w1.heap.size + 1, 0, none⟩) 1 1 [x] rfl (Bts.one _ _ _ _ (by omega) (by simp)) ?_ ?_ ?_)
        · simp
        · have := K1.out.size
          simp
          omega
        intro A2 c2 w2 o2 g2 _
        have EL : Hid (RetB w pl pe (.returned (.tuple #[.slice A2 (3 + 1) c2, .int .i64 0])) w2) := by
          refine ⟨A2, c2, by rw [HR.out, HK2.out, HE.out]; rfl, by rw [HR.out, HK2.out]; exact o2, ?_⟩
          have hs := K1.out.size
          exact ((K1.out.alloc _).alloc _).grown g2 (by simp; omega)
        clear o2 g2 K1 HR HK2 HE HB3
        go_wp2
        go_ret2
        exact EL.out
      · have HK2 : Hid (rk = []) := HK.out.trans (by rw [if_neg t2, if_neg t3])
        have d3 : ((t : Int) == 3) = false := beq_eq_false_iff_ne.2 (by omega)
        have EL : Hid (RetB w pl pe (.returned (.tuple #[.slice (some ⟨w1.heap.size, 0, none⟩) 3 3, .int .i64 0])) (w1.alloc (.cells #[Value.int IntKind.u8 ((m : Int) % 256), Value.int IntKind.u8 ((m : Int) / 256), Value.int IntKind.u8 (t : Nat)] 5))) := by
          refine ⟨_, 3, by rw [HR.out, HK2.out, HE.out]; rfl, ?_, K1.out.alloc _⟩
          rw [HR.out, HK2.out]
          exact HB3.out w1 K1.out
        clear t2 t3 HK K1 HR HK2 HE HB3
        go_wp2
        go_ret2
        exact EL.out
  · have HR : Hid (pkL k = []) := by show _ = _; unfold pkL; rw [if_neg hm]
    have HE : Hid (pkE k = 2) := by show _ = _; unfold pkE; rw [if_neg hm]
    have HM2 := fun u => Lib.hid (show Calls Try.prog _ _ u (NewBool u false) from (Bool.not_eq_true _ ▸ hm : mayK k = false) ▸ rmay_any k u hn)
    clear hm
    rw [HR.out, HE.out]
    obtain ⟨i, t, s, c⟩ := k
    dsimp only at *
    go_enter Try.func29, Try.ntmps29
    go_wp2_with fail
    refine (HM2 _).out.mono ?_
    rintro e w1 ⟨rfl, k1⟩
    have K1 : Hid (New w w1) := ((Kept.refl _ _).alloc _).new k1
    clear k1 HM2
    go_wp2
    go_ret2
    exact RetB.nil _ _ _ K1.out
end Go.Proofs.Ytbiihjdjbknibaa
