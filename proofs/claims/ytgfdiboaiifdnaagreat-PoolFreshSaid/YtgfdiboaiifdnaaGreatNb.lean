/-
  The contract of bytes.Repeat of one byte ff.
-/
import Derived.Test.YtgfdiboaiifdnaaGreatNa
namespace Go.Proofs.YtgfdiboaiifdnaaGreat
open Go.ChangeShapes Go.WideShapes Go.ChangeAt Go.RowKit

set_option maxRecDepth 100000 in
set_option maxHeartbeats 400000 in
theorem repeat_low (A : Option Addr) (n : Nat) (w : World) (ha : Bts w A 1 [255]) (h1 : 2 ≤ n) (h2 : n ≤ 8192) :
    Calls Tryz.prog 58 #[.slice A 1 1, .int .i64 n] w (OnesP w n) := by
  obtain ⟨cs, hrunM, hle, hmax⟩ := Lib.run_makeNoZero (P := Tryz.prog) w #[3] 27 5 Tryz.underlying27 n (by omega)
  have hcall : (callFunc 73 #[.int .i64 (n : Int)]).run Tryz.prog w = .ok (.value (.slice (some ⟨w.heap.size, 0, none⟩) n cs.size)) ((w.alloc (.cells cs 5)).drewN 2) := by
    rw [run_callFunc_extern Tryz.func73 (by kernel_rfl) (by kernel_rfl) (by kernel_rfl) (e := Extern.BytealgMakeNoZero.makeNoZero #[3] #[27]) (by kernel_rfl), hrunM]
    rfl
  clear hrunM
  have i1 : (n : Int) ≤ (cs.size : Int) := by omega
  have Ha := Lib.hid ha
  clear ha hmax
  go_enter Tryz.func58, Tryz.ntmps58
  go_wp2_with (first
    | (go_at_call 72; refine (mul_big n _ (by omega)).mono ?_; rintro e w' ⟨rfl, rfl⟩)
    | (with_reducible refine wpList_copy_blk (o := ⟨some 60, _, _, _, _, _⟩) rfl (.tmp 58) (.tmp 59) rfl (some ⟨w.heap.size, 0, none⟩) n n rfl A 1 1 rfl w.heap.size 0 cs.toList ?_ [255] ?_ 1 ?_ (fun _ => rfl) ?_ [255] rfl ?_))
  · exact (Blk.made w 5 cs).drewN 2
  · exact (Ha.out.new ((Kept.refl _ _).alloc _)).drewN 2
  · exact (Nat.min_eq_left (by omega)).symm
  · simp; omega
  intro w2 HB HK
  clear hcall
  have HB2 : Hid (Blk w2 w.heap.size 5 ((List.replicate 1 255).map byt ++ cs.toList.drop 1)) := by
    have := HB.out
    unfold lay at this
    simpa [Hid] using this
  have HN2 : Hid (New w w2) := (((Kept.refl _ _).alloc _).drewN 2).trans HK.out (fun i hi h => by omega)
  have hcl : Hid (n ≤ cs.toList.length) := by simpa [Hid] using hle
  clear HB HK i1 hle Ha
  go_wp2
  go_loopw [10] (fun bp wr => ∃ j : Nat, 1 ≤ j ∧ j ≤ n ∧ bp = .int .i64 j ∧ Blk wr w.heap.size 5 ((List.replicate j 255).map byt ++ cs.toList.drop j) ∧ New w wr) (fun bp _ => n - (intOf bp).toNat)
  case atStart => exact ⟨1, by omega, by omega, rfl, HB2.out, HN2.out⟩
  case round =>
    obtain ⟨j, hj1, hj2, rfl, hblk, hnew⟩ := hrel
    have HB := Lib.hid hblk
    have HN := Lib.hid hnew
    clear hblk hnew HB2 HN2
    by_cases hlt : j < n
    · have hm : Nat.min j (n - j) ≤ n - j := Nat.min_le_right _ _
      have hm1 : Nat.min j (n - j) ≤ j := Nat.min_le_left _ _
      have hm2 : 1 ≤ Nat.min j (n - j) := Nat.le_min.2 ⟨hj1, by omega⟩
      generalize hmm : Nat.min j (n - j) = m at hm hm1 hm2
      have HM := Lib.hid hmm.symm
      clear hmm
      have hsrc : Hid (Bts wr (some ⟨w.heap.size, 0, none⟩) j (List.replicate j 255)) := by
        refine ⟨by simp, fun x hx => by have := List.eq_of_mem_replicate hx; omega, fun _ => ⟨_, 0, rfl, fun i x hx => ?_⟩⟩
        have hi : i < j := by have := (List.getElem?_eq_some_iff.1 hx).1; simpa using this
        rw [Nat.zero_add, HB.out.cell, List.getElem?_append_left (by simpa using hi), List.getElem?_map, hx]
        rfl
      have hlen : Hid (j + m ≤ ((List.replicate j 255).map byt ++ cs.toList.drop j).length) := by
        have := hcl.out
        show _ ≤ _
        rw [List.length_append, List.length_map, List.length_replicate, List.length_drop]
        omega
      have htk : Hid (List.replicate m 255 = (List.replicate j 255).take m) := by
        show _ = _
        rw [List.take_replicate, Nat.min_eq_left hm1]
      have hwr : IntKind.i64.wrap ((j : Int) + (m : Int)) = ((j + m : Nat) : Int) := by
        rw [IntKind.wrap_i64]
        omega
      have hnj : ¬ n = j := fun h => by omega
      go_wp2
      go_region_law (with_reducible refine step_copy_blk (o := ⟨some 74, _, _, _, _, _⟩) rfl (.tmp 70) (.tmp 73) rfl (some ⟨w.heap.size, j, none⟩) (n - j) (n - j) ?hd (some ⟨w.heap.size, 0, none⟩) j n ?hs w.heap.size j _ HB.out.drew (List.replicate j 255) hsrc.out.drew m HM.out (fun _ => rfl) hlen.out (List.replicate m 255) htk.out ?hh; (case hd => go_simp); (case hs => go_simp); intro w3 HB3 HK3)
      go_simp
      go_wp2
      go_roundw
      case rel =>
        refine ⟨j + m, by omega, by omega, by go_num, ?_, HN.out.trans (S' := (· = w.heap.size)) ⟨HK3.out.os, HK3.out.tape, HK3.out.output, HK3.out.size, HK3.out.block⟩ (fun i hi h => by omega)⟩
        have := HB3.out
        unfold lay at this
        rw [List.take_left' (by simp), List.length_map, List.length_replicate, List.drop_append, List.drop_of_length_le (by simp)] at this
        rw [← List.replicate_append_replicate, List.map_append, List.append_assoc]
        rw [show j + m - (List.map byt (List.replicate j 255)).length = m from by simp] at this
        simpa using this
      case measure => simp [intOf]; omega
    · go_wp2
      go_ret
      obtain rfl : j = n := by omega
      exact ⟨w.heap.size, cs.toList.drop j, rfl, HB.out, Nat.le_refl _, HN.out⟩
set_option maxRecDepth 100000 in
set_option maxHeartbeats 1600000 in
theorem repeat_high (A : Option Addr) (n : Nat) (w : World) (ha : Bts w A 1 [255]) (h1 : 8192 < n) (h2 : n ≤ 524288) :
    Calls Tryz.prog 58 #[.slice A 1 1, .int .i64 n] w (OnesP w n) := by
  obtain ⟨cs, hrunM, hle, hmax⟩ := Lib.run_makeNoZero (P := Tryz.prog) w #[3] 27 5 Tryz.underlying27 n (by omega)
  have hcall : (callFunc 73 #[.int .i64 (n : Int)]).run Tryz.prog w = .ok (.value (.slice (some ⟨w.heap.size, 0, none⟩) n cs.size)) ((w.alloc (.cells cs 5)).drewN 2) := by
    rw [run_callFunc_extern Tryz.func73 (by kernel_rfl) (by kernel_rfl) (by kernel_rfl) (e := Extern.BytealgMakeNoZero.makeNoZero #[3] #[27]) (by kernel_rfl), hrunM]
    rfl
  clear hrunM
  have i1 : (n : Int) ≤ (cs.size : Int) := by omega
  have Ha := Lib.hid ha
  clear ha hmax
  go_enter Tryz.func58, Tryz.ntmps58
  go_wp2_with (first
    | (go_at_call 72; refine (mul_big n _ (by omega)).mono ?_; rintro e w' ⟨rfl, rfl⟩)
    | (with_reducible refine wpList_copy_blk (o := ⟨some 60, _, _, _, _, _⟩) rfl (.tmp 58) (.tmp 59) rfl (some ⟨w.heap.size, 0, none⟩) n n rfl A 1 1 rfl w.heap.size 0 cs.toList ?_ [255] ?_ 1 ?_ (fun _ => rfl) ?_ [255] rfl ?_))
  · exact (Blk.made w 5 cs).drewN 2
  · exact (Ha.out.new ((Kept.refl _ _).alloc _)).drewN 2
  · exact (Nat.min_eq_left (by omega)).symm
  · simp; omega
  intro w2 HB HK
  clear hcall
  have HB2 : Hid (Blk w2 w.heap.size 5 ((List.replicate 1 255).map byt ++ cs.toList.drop 1)) := by
    have := HB.out
    unfold lay at this
    simpa [Hid] using this
  have HN2 : Hid (New w w2) := (((Kept.refl _ _).alloc _).drewN 2).trans HK.out (fun i hi h => by omega)
  have hcl : Hid (n ≤ cs.toList.length) := by simpa [Hid] using hle
  clear HB HK i1 hle Ha
  go_wp2
  go_loopw [10] (fun bp wr => ∃ j : Nat, 1 ≤ j ∧ j ≤ n ∧ bp = .int .i64 j ∧ Blk wr w.heap.size 5 ((List.replicate j 255).map byt ++ cs.toList.drop j) ∧ New w wr) (fun bp _ => n - (intOf bp).toNat)
  case atStart => exact ⟨1, by omega, by omega, rfl, HB2.out, HN2.out⟩
  case round =>
    obtain ⟨j, hj1, hj2, rfl, hblk, hnew⟩ := hrel
    have HB := Lib.hid hblk
    have HN := Lib.hid hnew
    clear hblk hnew HB2 HN2
    by_cases hlt : j < n
    · rcases Nat.lt_or_ge 8192 j with hj8 | hj8
      · obtain ⟨q, hq⟩ : ∃ q : Nat, q = 8192 := ⟨_, rfl⟩
        have HQ := Lib.hid hq
        clear hq
        have h8n : (8192 : Int) ≤ (n : Int) := by omega
        have h8n2 : 8192 ≤ n := by omega
        have h8j : (8192 : Int) < (j : Int) := by omega
        have hm : Nat.min 8192 (n - j) ≤ n - j := Nat.min_le_right _ _
        have hm1 : Nat.min 8192 (n - j) ≤ 8192 := Nat.min_le_left _ _
        have hm2 : 1 ≤ Nat.min 8192 (n - j) := Nat.le_min.2 ⟨by omega, by omega⟩
        generalize hmm : Nat.min 8192 (n - j) = m at hm hm1 hm2
        have HM := Lib.hid hmm.symm
        clear hmm
        have hsrc : Hid (Bts wr (some ⟨w.heap.size, 0, none⟩) 8192 (List.replicate q 255)) := by
          refine ⟨by rw [List.length_replicate]; exact HQ.out, fun x hx => by have := List.eq_of_mem_replicate hx; omega, fun _ => ⟨_, 0, rfl, fun i x hx => ?_⟩⟩
          have hi : i < q := by have := (List.getElem?_eq_some_iff.1 hx).1; rw [List.length_replicate] at this; exact this
          have hx2 : (List.replicate j 255)[i]? = some 255 := by rw [List.getElem?_replicate, if_pos (by have := HQ.out; omega)]
          have hx3 : x = 255 := List.eq_of_mem_replicate (List.mem_of_getElem? hx)
          rw [Nat.zero_add, HB.out.cell, List.getElem?_append_left (by rw [List.length_map, List.length_replicate]; have := HQ.out; omega), List.getElem?_map, hx2, hx3]
          rfl
        have hlen : Hid (j + m ≤ ((List.replicate j 255).map byt ++ cs.toList.drop j).length) := by
          have := hcl.out
          show _ ≤ _
          rw [List.length_append, List.length_map, List.length_replicate, List.length_drop]
          omega
        have htk : Hid (List.replicate m 255 = (List.replicate q 255).take m) := by
          show _ = _
          rw [List.take_replicate, Nat.min_eq_left (by have := HQ.out; omega)]
        have hwr : IntKind.i64.wrap ((j : Int) + (m : Int)) = ((j + m : Nat) : Int) := by
          rw [IntKind.wrap_i64]
          omega
        have hnj : ¬ n = j := fun h => by omega
        go_wp2
        go_region_law (with_reducible refine step_copy_blk (o := ⟨some 74, _, _, _, _, _⟩) rfl (.tmp 70) (.tmp 73) rfl (some ⟨w.heap.size, j, none⟩) (n - j) (n - j) ?hd (some ⟨w.heap.size, 0, none⟩) 8192 n ?hs w.heap.size j _ HB.out.drew (List.replicate q 255) hsrc.out.drew m HM.out (fun _ => rfl) hlen.out (List.replicate m 255) htk.out ?hh; (case hd => go_simp); (case hs => go_simp); intro w3 HB3 HK3)
        go_simp
        go_wp2
        go_roundw
        case rel =>
          refine ⟨j + m, by omega, by omega, by go_num, ?_, HN.out.trans (S' := (· = w.heap.size)) ⟨HK3.out.os, HK3.out.tape, HK3.out.output, HK3.out.size, HK3.out.block⟩ (fun i hi h => by omega)⟩
          have := HB3.out
          unfold lay at this
          rw [List.take_left' (by simp), List.length_map, List.length_replicate, List.drop_append, List.drop_of_length_le (by simp)] at this
          rw [← List.replicate_append_replicate, List.map_append, List.append_assoc]
          rw [show j + m - (List.map byt (List.replicate j 255)).length = m from by simp] at this
          simpa using this
        case measure => simp [intOf]; omega
      · have hj9 : ¬ (8192 : Int) < (j : Int) := by omega
        have hjn : (j : Int) ≤ (n : Int) := by omega
        have hm : Nat.min j (n - j) ≤ n - j := Nat.min_le_right _ _
        have hm1 : Nat.min j (n - j) ≤ j := Nat.min_le_left _ _
        have hm2 : 1 ≤ Nat.min j (n - j) := Nat.le_min.2 ⟨by omega, by omega⟩
        generalize hmm : Nat.min j (n - j) = m at hm hm1 hm2
        have HM := Lib.hid hmm.symm
        clear hmm
        have hsrc : Hid (Bts wr (some ⟨w.heap.size, 0, none⟩) j (List.replicate j 255)) := by
          refine ⟨by simp, fun x hx => by have := List.eq_of_mem_replicate hx; omega, fun _ => ⟨_, 0, rfl, fun i x hx => ?_⟩⟩
          have hi : i < j := by have := (List.getElem?_eq_some_iff.1 hx).1; rw [List.length_replicate] at this; exact this
          have hx2 : (List.replicate j 255)[i]? = some 255 := by rw [List.getElem?_replicate, if_pos (by omega)]
          have hx3 : x = 255 := List.eq_of_mem_replicate (List.mem_of_getElem? hx)
          rw [Nat.zero_add, HB.out.cell, List.getElem?_append_left (by rw [List.length_map, List.length_replicate]; omega), List.getElem?_map, hx2, hx3]
          rfl
        have hlen : Hid (j + m ≤ ((List.replicate j 255).map byt ++ cs.toList.drop j).length) := by
          have := hcl.out
          show _ ≤ _
          rw [List.length_append, List.length_map, List.length_replicate, List.length_drop]
          omega
        have htk : Hid (List.replicate m 255 = (List.replicate j 255).take m) := by
          show _ = _
          rw [List.take_replicate, Nat.min_eq_left hm1]
        have hwr : IntKind.i64.wrap ((j : Int) + (m : Int)) = ((j + m : Nat) : Int) := by
          rw [IntKind.wrap_i64]
          omega
        have hnj : ¬ n = j := fun h => by omega
        go_wp2
        go_region_law (with_reducible refine step_copy_blk (o := ⟨some 74, _, _, _, _, _⟩) rfl (.tmp 70) (.tmp 73) rfl (some ⟨w.heap.size, j, none⟩) (n - j) (n - j) ?hd2 (some ⟨w.heap.size, 0, none⟩) j n ?hs2 w.heap.size j _ HB.out.drew (List.replicate j 255) hsrc.out.drew m HM.out (fun _ => rfl) hlen.out (List.replicate m 255) htk.out ?hh2; (case hd2 => go_simp); (case hs2 => go_simp); intro w3 HB3 HK3)
        go_simp
        go_wp2
        go_roundw
        case rel =>
          refine ⟨j + m, by omega, by omega, by go_num, ?_, HN.out.trans (S' := (· = w.heap.size)) ⟨HK3.out.os, HK3.out.tape, HK3.out.output, HK3.out.size, HK3.out.block⟩ (fun i hi h => by omega)⟩
          have := HB3.out
          unfold lay at this
          rw [List.take_left' (by simp), List.length_map, List.length_replicate, List.drop_append, List.drop_of_length_le (by simp)] at this
          rw [← List.replicate_append_replicate, List.map_append, List.append_assoc]
          rw [show j + m - (List.map byt (List.replicate j 255)).length = m from by simp] at this
          simpa using this
        case measure => simp [intOf]; omega
    · go_wp2
      go_ret
      obtain rfl : j = n := by omega
      exact ⟨w.heap.size, cs.toList.drop j, rfl, HB.out, Nat.le_refl _, HN.out⟩
theorem repeat_ones (A : Option Addr) (n : Nat) (w : World) (ha : Bts w A 1 [255]) (h1 : 2 ≤ n) (h2 : n ≤ 524288) :
    Calls Tryz.prog 58 #[.slice A 1 1, .int .i64 n] w (OnesP w n) := by
  rcases Nat.lt_or_ge 8192 n with h | h
  · exact repeat_high A n w ha h h2
  · exact repeat_low A n w ha h1 h

theorem erased_any (n : Nat) (w : World) (h1 : 2 ≤ n) (h2 : n ≤ 524288) :
    Calls Tryz.prog 38 #[.int .i64 n] w (OnesP w n) := by
  have H1 := Lib.hid h1
  have H2 := Lib.hid h2
  clear h1 h2
  go_enter Tryz.func38, Tryz.ntmps38
  go_wp2_with fail
  refine (repeat_ones _ n _ (Bts.one w 5 255 _ (by omega) rfl) H1.out H2.out).mono ?_
  rintro e w1 ⟨g, junk, rfl, hblk, hg, hkp⟩
  have HG : Hid (w.heap.size ≤ g) := by have := hg; simp at this; exact Nat.le_of_lt this
  have K1 : Hid (New w w1) := ((Kept.refl _ _).alloc _).new hkp
  have B1 := Lib.hid hblk
  clear hblk hg hkp
  go_wp2
  go_ret
  exact ⟨g, junk, rfl, B1.out, HG.out, K1.out⟩
end Go.Proofs.YtgfdiboaiifdnaaGreat
