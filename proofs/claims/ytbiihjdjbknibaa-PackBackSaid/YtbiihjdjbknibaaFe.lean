/-
  Contracts: a key's bytes, on both sides; texts and bytes turned into one another.
-/
import Derived.Test.YtbiihjdjbknibaaFd
import Derived.Lib.ConvBytes
import Derived.Laws.BytesArg
import Derived.Lib.BufferRead
namespace Go.Proofs.Ytbiihjdjbknibaa
set_option maxRecDepth 100000
open Go.RowKit

theorem new_bw (w : World) (s : ByteArray) : New w (Lib.bytesWorld w 5 s) :=
  ⟨rfl, rfl, rfl, by rw [Lib.bytesWorld_size]; omega, fun k hk _ => Lib.bytesWorld_at_old w _ s k hk⟩
theorem bts_bw (w : World) (s : ByteArray) : Bts (Lib.bytesWorld w 5 s) (some ⟨w.heap.size, 0, none⟩) s.size (nB s) := by
  refine ⟨nB_len s, nB_lt s, fun _ => ⟨_, 0, rfl, fun j x hx => ?_⟩⟩
  unfold nB at hx
  rw [List.getElem?_map] at hx
  obtain ⟨y, hy, rfl⟩ := Option.map_eq_some_iff.1 hx
  have hj : j < s.size := by rw [Lib.size_eq]; exact (List.getElem?_eq_some_iff.1 hy).1
  rw [Nat.zero_add, Lib.bytesWorld_cell w _ s j hj, List.getD_eq_getElem?_getD, hy]
  rfl

/-- The text of bytes. -/
def strN (l : List Nat) : ByteArray := ⟨(l.map UInt8.ofNat).toArray⟩
theorem strN_data (l : List Nat) : (strN l).data.toList = l.map UInt8.ofNat := rfl
theorem strN_size (l : List Nat) : (strN l).size = l.length := by rw [Lib.size_eq, strN_data, List.length_map]
theorem strN_nB (s : ByteArray) : strN (nB s) = s := by
  refine ba_ext ?_
  rw [strN_data, nB, List.map_map]
  conv => rhs; rw [← List.map_id s.data.toList]
  exact List.map_congr_left fun x _ => by simp
theorem nB_strN {l : List Nat} (h : ∀ x ∈ l, x < 256) : nB (strN l) = l := by
  unfold nB
  rw [strN_data, List.map_map]
  conv => rhs; rw [← List.map_id l]
  refine List.map_congr_left fun x hx => ?_
  have := h x hx
  simp
  omega

theorem run_bs (A : Option Addr) (n c : Nat) (l : List Nat) (w : World) (h : Bts w A n l) :
    (convert 25 9 (.slice A n c)).run Try.prog w = .ok (.string (strN l)) w := by
  obtain ⟨hl, hb, hc⟩ := h
  rcases Nat.eq_zero_or_pos n with h0 | h0
  · subst h0
    obtain rfl : l = [] := List.eq_nil_of_length_eq_zero hl
    rw [run_convert_bytes_string w _ _ 5 A 0 c Try.underlying25 Try.underlying5 Try.underlying9]
    rcases A with _ | a
    · simp [Conv.bytesToString, strN]
      rfl
    · have hz : (loadCells a 0).run Try.prog w = .ok (([] : List Int).map (Value.int .u8)).toArray w := by simp [loadCells, loadCellsFrom]
      rw [run_bytesToString w a 0 c [] hz]
      rfl
  · obtain ⟨g, o, rfl, hcell⟩ := hc h0
    rw [run_convert_bytes_arg w 25 5 Try.underlying25 Try.underlying5 g o n c (l.map (fun (x : Nat) => ((x : Nat) : Int))) (by rw [List.length_map]; exact hl) ?_ 9 Try.underlying9]
    · congr 2
      refine ba_ext ?_
      rw [strOfNums_data, strN_data, List.map_map]
      rfl
    · intro i hi
      have hi2 : i < l.length := by omega
      rw [hcell i l[i] (List.getElem?_eq_getElem hi2), List.getD_eq_getElem?_getD, List.getElem?_map, List.getElem?_eq_getElem hi2]
      rfl

theorem lay_it {k : KY} (h : mayK k = true) : layL [(k.i, 2), ((k.t : Nat), 1)] = [k.i.toNat % 256, k.i.toNat / 256 % 256, k.t] := by
  obtain ⟨h1, h2, h3, _⟩ := may_parts h
  have u1 : uN k.i = k.i.toNat := by unfold uN; rw [IntKind.wrap_u64]; omega
  have u2 : uN ((k.t : Nat) : Int) = k.t := by unfold uN; rw [IntKind.wrap_u64]; omega
  have f1 : fOk (k.i, 2) = true := by unfold fOk fitB; rw [decide_eq_true_eq]; show uN k.i < 256 ^ 2; rw [u1]; omega
  have f2 : fOk (((k.t : Nat) : Int), 1) = true := by unfold fOk fitB; rw [decide_eq_true_eq]; show uN ((k.t : Nat) : Int) < 256 ^ 1; rw [u2]; omega
  unfold layL
  rw [if_pos (by simp only [List.all_cons, List.all_nil, f1, f2]; rfl)]
  simp only [layB, List.flatMap_cons, List.flatMap_nil, u1, u2, leB, List.range_succ, List.range_zero]
  simp
  omega
theorem lay_c {c : Int} (h0 : 0 ≤ c) (h8 : c < 8) : layL [(c, 1)] = [c.toNat] := by
  have u1 : uN c = c.toNat := by unfold uN; rw [IntKind.wrap_u64]; omega
  have f1 : fOk (c, 1) = true := by unfold fOk fitB; rw [decide_eq_true_eq]; show uN c < 256 ^ 1; rw [u1]; omega
  unfold layL
  rw [if_pos (by simp only [List.all_cons, List.all_nil, f1]; rfl)]
  simp only [layB, List.flatMap_cons, List.flatMap_nil, u1, leB, List.range_succ, List.range_zero]
  simp
  omega

set_option maxRecDepth 100000 in
set_option maxHeartbeats 3200000 in
theorem putKey_any (k : KY) (w : World) (hn : k.n.size ≤ maxLen) :
    Calls Try.prog 28 #[.agg #[.int .i64 k.i, .int .u8 (k.t : Nat), .string k.n, .int .i64 k.c]] w (RetB w (pkL k) (pkE k)) := by
  obtain ⟨i0, hi, hz0, hz1, hz2⟩ := info_parts info_u8
  have HM := Lib.hid (may_any k)
  by_cases hm : mayK k = true
  · have HP := Lib.hid (may_parts hm)
    have HNM := Lib.hid (may_name hm)
    have HL := Lib.hid (lay_it hm)
    have HR : Hid (pkL k = [k.i.toNat % 256, k.i.toNat / 256 % 256, k.t] ++ restK k) := by show _ = _; unfold pkL; rw [if_pos hm]; rfl
    have HE : Hid (pkE k = 0) := by show _ = _; unfold pkE; rw [if_pos hm]
    have HM2 := fun u => Lib.hid (show Calls Try.prog _ _ u (NewBool u true) from hm ▸ may_any k u hn)
    clear hm HM
    have HK : Hid (restK k = if k.t = 2 then k.n.size :: nB k.n else if k.t = 3 then [k.c.toNat] else []) := rfl
    generalize pkL k = pl at *
    generalize pkE k = pe at *
    generalize restK k = rk at *
    obtain ⟨i, t, s, c⟩ := k
    dsimp only at *
    have hcv := fun u => Lib.run_convert_string_bytes (P := Try.prog) u 9 25 5 s Try.underlying9 Try.underlying25 Try.underlying5
    have ht := HP.out.2.2.1
    go_enter Try.func28, Try.ntmps28
    go_wp2_with fail
    refine (HM2 _).out.mono ?_
    rintro e w1 ⟨rfl, k1⟩
    have K1 : Hid (New w w1) := ((Kept.refl _ _).alloc _).new k1
    have B1 : Hid (Blk w1 w.heap.size 24 [.int .i64 i, .int .u8 (t : Nat), .string s, .int .i64 c]) := (Blk.made w _ _).kept k1 id
    clear k1 HM2
    have a0 : w1.cell? ⟨w.heap.size, 0, none⟩ = some (.int .i64 i) := B1.out.cell 0
    have a1 : w1.cell? ⟨w.heap.size, 1, none⟩ = some (.int .u8 (t : Nat)) := B1.out.cell 1
    go_wp2_with fail
    refine (lay_any w1.heap.size 2 [(i, 2), ((t : Nat), 1)] _ (Blk.made w1 86 #[.int .i64 i, .int .i64 2, .int .i64 (t : Nat), .int .i64 1]) rfl (by omega) (by intro f hf; simp only [List.mem_cons, List.not_mem_nil, or_false] at hf; rcases hf with rfl | rfl <;> simp [isSz])).mono ?_
    rw [HL.out]
    rintro e w2 ⟨A2, c2, rfl, o2, k2⟩
    have K12 : Hid (New w1 w2) := ((Kept.refl _ w1).alloc _).new k2
    have K2 : Hid (New w w2) := K1.out.new K12.out
    have B2 := Lib.hid (B1.out.kept K12.out id)
    have O2 := Lib.hid (o2.mono (B' := w.heap.size) (K1.out.alloc _).size)
    clear o2 k2 K1 B1 K12 a0 a1 HL
    generalize layE [(i, 2), ((t : Nat), 1)] = le at *
    have a1 : w2.cell? ⟨w.heap.size, 1, none⟩ = some (.int .u8 (t : Nat)) := B2.out.cell 1
    have a2 : w2.cell? ⟨w.heap.size, 2, none⟩ = some (.string s) := B2.out.cell 2
    have a3 : w2.cell? ⟨w.heap.size, 3, none⟩ = some (.int .i64 c) := B2.out.cell 3
    have FIN : Hid (∀ (A3 : Option Addr) (m3 c3 : Nat) (r3 : List Nat) (u : World), New w u → OwnB u 5 w.heap.size A2 c2 [i.toNat % 256, i.toNat / 256 % 256, t] → Bts u A3 m3 r3 → r3 = rk → ∀ A4 c4 u4, OwnB u4 5 w.heap.size A4 c4 ([i.toNat % 256, i.toNat / 256 % 256, t] ++ r3) → u.grownBy u4 (A2.map (·.block)) →
        RetB w pl pe (.returned (.tuple #[.slice A4 (3 + m3) c4, .int .i64 0])) u4) := by
      intro A3 m3 c3 r3 u ku ou br hr A4 c4 u4 o4 g4
      rw [hr] at o4
      have hlen : r3.length = m3 := br.1
      refine ⟨A4, c4, ?_, by rw [HR.out]; exact o4, Kept.of_own ku ou g4⟩
      rw [HR.out, HE.out, List.length_append, ← hr, hlen]
      rfl
    by_cases t2 : t = 2
    · have HK2 : Hid (rk = s.size :: nB s) := HK.out.trans (if_pos t2)
      subst t2
      clear HK
      go_wp2_with fail
      refine (erow_any _ s.size _ (nB s) _ (bts_bw w2 s) hn).mono ?_
      rintro e w3 ⟨A3, c3, rfl, o3, k3⟩
      have hle : (nB s).length ≤ 255 := by have := HNM.out; rw [nB_len]; omega
      have E1 : rowL (nB s) = s.size :: nB s := by unfold rowL; rw [if_pos hle, nB_len]
      rw [E1] at o3 ⊢
      have HLN : Hid ((s.size :: nB s).length = s.size + 1) := by show _ = _; rw [List.length_cons, nB_len]
      have K3 : Hid (New w w3) := (K2.out.new (new_bw w2 s)).new k3
      have O3 : Hid (Bts w3 A3 (s.size :: nB s).length (s.size :: nB s)) := o3.bts
      have O2' := Lib.hid (O2.out.new ((new_bw w2 s).new k3))
      have hs12 := HNM.out
      clear o3 k3 K2 O2 B2 a1 a2 a3 hle E1
      go_wp2_with (at_builtin; refine wpList_append_bytes _ rfl _ _ _ rfl 5 i0 Try.underlying25 hi hz0 hz1 hz2 w.heap.size A2 _ c2 [i.toNat % 256, i.toNat / 256 % 256, 2] rfl O2'.out rfl A3 _ c3 (s.size :: nB s) rfl O3.out ?_ K3.out.size ?_)
      · have := HLN.out
        rw [List.length_cons] at this
        simp only [List.length_cons, List.length_nil]
        omega
      intro A4 c4 w4 o4 g4 _
      have R := Lib.hid (FIN.out A3 _ c3 _ w3 K3.out O2'.out O3.out HK2.out.symm A4 c4 w4 o4 g4)
      clear o4 g4 FIN
      go_wp2
      go_ret2
      exact R.out
    · by_cases t3 : t = 3
      · have HK2 : Hid (rk = [c.toNat]) := HK.out.trans (by rw [if_neg t2, if_pos t3])
        subst t3
        have hc : 0 ≤ c ∧ c < 8 := by rcases HP.out.2.2.2 with h | h | h <;> omega
        have HL2 := Lib.hid (lay_c hc.1 hc.2)
        clear HK t2
        go_wp2_with fail
        refine (lay_any w2.heap.size 1 [(c, 1)] _ (Blk.made w2 86 #[.int .i64 c, .int .i64 1]) rfl (by omega) (by intro f hf; simp only [List.mem_cons, List.not_mem_nil, or_false] at hf; subst hf; simp [isSz])).mono ?_
        rw [HL2.out]
        rintro e w3 ⟨A3, c3, rfl, o3, k3⟩
        generalize layE [(c, 1)] = le2 at *
        have K3 : Hid (New w w3) := (K2.out.alloc _).new k3
        have O3 : Hid (Bts w3 A3 [c.toNat].length [c.toNat]) := o3.bts
        have O2' := Lib.hid (O2.out.new (((Kept.refl _ w2).alloc _).new k3))
        clear o3 k3 K2 O2 B2 a1 a2 a3
        go_wp2_with (at_builtin; refine wpList_append_bytes _ rfl _ _ _ rfl 5 i0 Try.underlying25 hi hz0 hz1 hz2 w.heap.size A2 _ c2 [i.toNat % 256, i.toNat / 256 % 256, 3] rfl O2'.out rfl A3 _ c3 [c.toNat] rfl O3.out ?_ K3.out.size ?_)
        · simp
        intro A4 c4 w4 o4 g4 _
        have R := Lib.hid (FIN.out A3 _ c3 _ w3 K3.out O2'.out O3.out HK2.out.symm A4 c4 w4 o4 g4)
        clear o4 g4 FIN
        go_wp2
        go_ret2
        exact R.out
      · have HK2 : Hid (rk = []) := HK.out.trans (by rw [if_neg t2, if_neg t3])
        have d2 : ((t : Int) == 2) = false := beq_eq_false_iff_ne.2 (by omega)
        have d3 : ((t : Int) == 3) = false := beq_eq_false_iff_ne.2 (by omega)
        clear t2 t3 HK a2 a3 B2
        go_wp2_with (at_builtin; refine wpList_append_bytes _ rfl _ _ _ rfl 5 i0 Try.underlying25 hi hz0 hz1 hz2 w.heap.size A2 _ c2 [i.toNat % 256, i.toNat / 256 % 256, t] rfl O2.out rfl none 0 0 [] rfl (Bts.nil _ _) ?_ K2.out.size ?_)
        · simp
        intro A4 c4 w4 o4 g4 _
        have R := Lib.hid (FIN.out none 0 0 _ w2 K2.out O2.out (Bts.nil _ _) HK2.out.symm A4 c4 w4 o4 g4)
        clear o4 g4 FIN
        go_wp2
        go_ret2
        exact R.out
  · have HR : Hid (pkL k = []) := by show _ = _; unfold pkL; rw [if_neg hm]
    have HE : Hid (pkE k = 2) := by show _ = _; unfold pkE; rw [if_neg hm]
    have HM2 := fun u => Lib.hid (show Calls Try.prog _ _ u (NewBool u false) from (Bool.not_eq_true _ ▸ hm : mayK k = false) ▸ may_any k u hn)
    clear hm HM
    rw [HR.out, HE.out]
    obtain ⟨i, t, s, c⟩ := k
    dsimp only at *
    go_enter Try.func28, Try.ntmps28
    go_wp2_with fail
    refine (HM2 _).out.mono ?_
    rintro e w1 ⟨rfl, k1⟩
    have K1 : Hid (New w w1) := ((Kept.refl _ _).alloc _).new k1
    clear k1 HM2
    go_wp2
    go_ret2
    exact RetB.nil _ _ _ K1.out
end Go.Proofs.Ytbiihjdjbknibaa
