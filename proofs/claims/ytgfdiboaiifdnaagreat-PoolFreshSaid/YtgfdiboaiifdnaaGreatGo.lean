/-
  A pool's Taken.
-/
import Derived.Test.YtgfdiboaiifdnaaGreatGn
import Derived.Deep.RegionLaw
namespace Go.Proofs.YtgfdiboaiifdnaaGreat
open Go.ChangeShapes Go.WideShapes Go.ChangeAt Go.RowKit

theorem info_taken : (Tryz.prog.info? 36).map (fun i => (i.zero, i.size, i.bytes)) = some (some (.agg #[.int .i64 0, .int .u8 0, .int .u32 0, .int .u64 0, .bool false]), 5, 32) := by kernel_rfl

/-- One taken block more behind a row of the call's own, at a step of a region that draws. -/
theorem step_append_tk {w wb : World} {ops : Array Oper} {o : Oper} {a : Act} {K : Act → World → Prop} {Q : Exit → Act → World → Prop} {E : Prop} (hgd : o.guard = none) (s x : Operand)
    (ho : o.op = .call { callee := .builtin .append, args := #[s, x], argTypes := #[29, 29] })
    (lo : Nat) (Ah : Option Addr) (k ch : Nat) (vs : List Value) (hsv : a.eval s = .slice Ah k ch) (hown : OwnV wb 36 5 lo Ah k ch vs) (hk : New wb w)
    (B c' : Nat) (us : List Value) (hx : a.eval x = .slice (some ⟨B, 0, none⟩) 1 c') (hb : Blk w B 36 us) (hul : us.length = 5) (h1 : ∀ u ∈ us, u.oneCell' = true) (hn : k + 1 ≤ 65) (hbase : lo ≤ wb.heap.size)
    (h : ∀ A2 c2 w', Hid (OwnV w' 36 5 lo A2 (k + 1) c2 (vs ++ us)) → Hid (Kept (InRow Ah) wb w') → K (a.put o.dst (.slice A2 (k + 1) c2)) w') :
    if Region.wanted o (yielded ops a.tmps) = true then Oper.wp Tryz.prog o a w K Q else E := by
  obtain ⟨i0, hi, hz0, hz1, hz2⟩ := info_parts info_taken
  have hr : RowV w (some ⟨B, 0, none⟩) 1 i0.size us := by
    rw [hz1]
    exact ⟨by rw [hul], fun _ => ⟨B, 0, rfl, fun j v hj => by rw [Nat.zero_add, hb.cell]; exact hj⟩⟩
  have ho' : OwnV w 36 i0.size lo Ah k ch vs := by rw [hz1]; exact hown.new hk
  refine step_append_rowV w hgd s x 29 ho 36 i0 (.agg #[.int .i64 0, .int .u8 0, .int .u32 0, .int .u64 0, .bool false]) Tryz.underlying29 hi hz0 (by rw [hz1]; rfl) (by rw [hz1]; omega) lo Ah k ch vs hsv ho' (some ⟨B, 0, none⟩) 1 c' us hx hr h1 (by rw [hz2]; omega) (by omega) (Nat.le_trans hbase hk.size) ?_
  intro A2 c2 w' h3 h4 _
  refine h A2 c2 w' (by have := h3.out; rw [hz1] at this; exact this) ?_
  refine (hk.mono (S' := InRow Ah) fun _ _ f => f.elim).grown h4.out fun q _ hA => ?_
  obtain ⟨a, ha, e⟩ := Option.map_eq_some_iff.1 hA
  exact ⟨a, ha, e⟩

theorem tRow_junk (junk : List Value) : ∀ l : List TK, tRow l junk = tRow l [] ++ junk := by
  intro l
  induction l with
  | nil => rfl
  | cons t l ih => simp only [tRow, List.append_assoc]; rw [ih]
theorem tRow_snoc (t : TK) : ∀ l : List TK, tRow (l ++ [t]) [] = tRow l [] ++ t.cells := by
  intro l
  induction l with
  | nil => simp [tRow]
  | cons c l ih => simp only [List.cons_append, tRow, List.append_assoc]; rw [ih]
theorem tRow_len (l : List TK) : (tRow l []).length = l.length * 5 := by
  induction l with
  | nil => rfl
  | cons c l ih => simp only [tRow, List.length_append, ih, TK.cells, List.length_cons, List.length_nil]; omega

/-- The taken blocks below k, as they lie. -/
def tkUpto (s : CSt) (p : PSt) : Nat → List TK
  | 0 => []
  | k + 1 => tkUpto s p k ++ (match p.bl[k]? with | some b => if b.w = 1 then [⟨k, b.k, b.e, b.s, badAt s k⟩] else [] | none => [])
theorem tkUpto_len (s : CSt) (p : PSt) : ∀ k, (tkUpto s p k).length ≤ k := by
  intro k
  induction k with
  | zero => exact Nat.le_refl _
  | succ k ih =>
    simp only [tkUpto, List.length_append]
    split
    · split <;> simp <;> omega
    · simp; omega
/-- What Taken tells. -/
def tknL (s : CSt) (p : PSt) : List TK := insG (tkUpto s p s.nb) ((tkUpto s p s.nb).length - 1)
def TknP (w : World) (l : List TK) (e : Ending) (w' : World) : Prop := ∃ A c, e = .returned (.slice A l.length c) ∧ OwnV w' 36 5 w.heap.size A l.length c (tRow l []) ∧ New w w'

set_option maxRecDepth 100000 in
set_option maxHeartbeats 3200000 in
theorem pTaken_any (Qc : Nat → Prop) (gp gb g : Nat) (s : CSt) (p : PSt) (w : World) (h : PRep Qc w gp gb g s p) (hn19 : s.nb ≤ 19) :
    Calls Tryz.prog 6 #[.pointer (some ⟨gp, 0, none⟩)] w (TknP w (tknL s p)) := by
  have HP := Lib.hid h
  have c1 : w.cell? ⟨gp, 1, none⟩ = some (.slice (some ⟨gb, 0, none⟩) s.nb s.nb) := h.pool.cell 1
  have hgbl := h.blks.lt
  have H19 := Lib.hid hn19
  clear h
  go_enter Tryz.func6, Tryz.ntmps6
  go_wp2_with fail
  refine (pNone_no _ _ _ _ _ _ _ HP.out).mono ?_
  rintro e w' ⟨rfl, rfl⟩
  go_wp2_with fail
  go_loopw [3, 4, 5, 13] (fun ta _ _ tk wr => ∃ (k : Nat) (A : Option Addr) (m c : Nat), k ≤ s.nb ∧ m ≤ k ∧ tk = .int .i64 k ∧ ta = .slice A m c ∧ Hid (m = (tkUpto s p k).length) ∧ Hid (m = 0 → A = none ∧ c = 0) ∧ Hid (OwnV wr 36 5 w.heap.size A m c (tRow (tkUpto s p k) [])) ∧ Hid (New w wr)) (fun _ _ _ tk _ => s.nb - (intOf tk).toNat)
  case atStart => exact ⟨0, none, 0, 0, Nat.zero_le _, Nat.le_refl _, rfl, rfl, rfl, fun _ => ⟨rfl, rfl⟩, OwnV.nil _ _ _ _, Kept.refl _ _⟩
  case round =>
    obtain ⟨k, A, m, c, hk, hm, rfl, rfl, VM, VA, VO, VN⟩ := hrel
    clear c1
    by_cases hlt : k < s.nb
    · have HK := Lib.hid hlt
      have PR := Lib.hid (HP.out.new VN.out)
      obtain ⟨b, hb⟩ := HP.out.get hlt
      have HB := Lib.hid hb
      have d0 : wr.cell? ⟨gb, k * 4, none⟩ = some (.int .u8 (b.w : Nat)) := PR.out.bcell (j := 0) hb (by omega) rfl
      have d1 : wr.cell? ⟨gb, k * 4 + 1, none⟩ = some (.int .u8 (b.k : Nat)) := PR.out.bcell (j := 1) hb (by omega) rfl
      have d2 : wr.cell? ⟨gb, k * 4 + 2, none⟩ = some (.int .u32 (b.e : Nat)) := PR.out.bcell (j := 2) hb (by omega) rfl
      have d3 : wr.cell? ⟨gb, k * 4 + 3, none⟩ = some (.int .u64 (b.s : Nat)) := PR.out.bcell (j := 3) hb (by omega) rfl
      have hbw := (HP.out.okb b (List.mem_of_getElem? hb)).w
      clear hb
      by_cases hw1 : b.w = 1
      · have hw1 := Lib.hid hw1
        have hw2 : ((b.w : Int) == 1) = true := beq_iff_eq.2 (by have := hw1.out; omega)
        have ET : Hid (tkUpto s p (k + 1) = tkUpto s p k ++ [⟨k, b.k, b.e, b.s, badAt s k⟩]) := by
          show _ = _
          simp only [tkUpto, HB.out]
          rw [if_pos hw1.out]
        obtain ⟨wB, hwB⟩ : ∃ wB, wB = wr.alloc (.cells #[.int .u8 1, .int .u8 (b.k : Nat), .int .u32 (b.e : Nat), .int .u64 (b.s : Nat)] 67) := ⟨_, rfl⟩
        have BX : Hid (Blk wB wr.heap.size 67 [.int .u8 1, .int .u8 (b.k : Nat), .int .u32 (b.e : Nat), .int .u64 (b.s : Nat)]) := by rw [hwB]; exact Blk.made wr _ _
        have NBX : Hid (New wr wB) := by rw [hwB]; exact (Kept.refl _ _).alloc _
        have HWB := Lib.hid hwB
        clear hwB
        go_wp2_with fail
        rw [← HWB.out]
        clear HWB d0 d1 d2 d3 hw2
        have PB := Lib.hid (PR.out.new NBX.out)
        have VB := Lib.hid (VO.out.new NBX.out)
        have VNB : Hid (New w wB) := VN.out.new NBX.out
        have LO : Hid (w.heap.size ≤ wB.heap.size) := VNB.out.size
        have NB : Hid (m + 1 ≤ 65) := by have := H19.out; show _ ≤ _; omega
        have e1 : wB.cell? ⟨wr.heap.size, 1, none⟩ = some (.int .u8 (b.k : Nat)) := BX.out.cell 1
        have e2 : wB.cell? ⟨wr.heap.size, 2, none⟩ = some (.int .u32 (b.e : Nat)) := BX.out.cell 2
        have e3 : wB.cell? ⟨wr.heap.size, 3, none⟩ = some (.int .u64 (b.s : Nat)) := BX.out.cell 3
        have hbl := BX.out.lt
        cases hbad : badAt s k
        · have IV : Hid (isV s p k = 1) := by
            show _ = _
            unfold isV
            rw [hbad]
            rw [HB.out]; exact hw1.out
          have EB : Hid (tRow (tkUpto s p k) [] ++ [.int .i64 (k : Nat), .int .u8 (b.k : Nat), .int .u32 (b.e : Nat), .int .u64 (b.s : Nat), .bool false] = tRow (tkUpto s p (k + 1)) []) := by
            show _ = _
            rw [ET.out, tRow_snoc, hbad]
            rfl
          have MB : Hid (Blk ((wB.alloc (.cells #[.int .i64 (k : Nat), .int .u8 (b.k : Nat), .int .u32 (b.e : Nat), .int .u64 (b.s : Nat), .bool false] 36)).drew) wB.heap.size 36 [.int .i64 (k : Nat), .int .u8 (b.k : Nat), .int .u32 (b.e : Nat), .int .u64 (b.s : Nat), .bool false]) := Blk.made wB _ _
          have KA : Hid (New wB ((wB.alloc (.cells #[.int .i64 (k : Nat), .int .u8 (b.k : Nat), .int .u32 (b.e : Nat), .int .u64 (b.s : Nat), .bool false] 36)).drew)) := ((Kept.refl _ _).alloc _).drew
          have ONE : Hid (∀ u ∈ [Value.int .i64 (k : Nat), .int .u8 (b.k : Nat), .int .u32 (b.e : Nat), .int .u64 (b.s : Nat), .bool false], u.oneCell' = true) := by intro u hu; simp at hu; rcases hu with rfl | rfl | rfl | rfl | rfl <;> rfl
          clear hbad
          go_region_law (first
            | (with_reducible refine step_append_tk (wb := wB) (o := ⟨some 31, _, _, _, _, _⟩) rfl (.tmp 21) (.tmp 30) rfl w.heap.size A m c (tRow (tkUpto s p k) []) ?_ VB.out KA.out wB.heap.size 1 [.int .i64 (k : Nat), .int .u8 (b.k : Nat), .int .u32 (b.e : Nat), .int .u64 (b.s : Nat), .bool false] ?_ MB.out rfl ONE.out NB.out LO.out ?_; (next => go_simp); (next => go_simp); intro A7 c7 w7 O7 K7)
            | (go_simp; go_at_call 20; refine (pIs_any _ _ _ _ _ _ k _ (by first | exact PB.out | exact PB.out.new ((Kept.refl _ _).drew)) HK.out).mono ?_; rintro e w' ⟨rfl, rfl⟩; rw [IV.out]))
          all_goals
            have E1 : Hid (OwnV w7 36 5 w.heap.size A7 (m + 1) c7 (tRow (tkUpto s p (k + 1)) [])) := by rw [← EB.out]; exact O7.out
            have N7 : Hid (New w w7) := new_of_kept VNB.out K7.out fun b' hb' => by
              obtain ⟨a, ha, e⟩ := hb'
              have := (VB.out.at_ a ha).2
              omega
            have VM2 : Hid (m + 1 = (tkUpto s p (k + 1)).length) := by
              show _ = _
              rw [ET.out, List.length_append, ← VM.out]
              rfl
            have VA2 : Hid (m + 1 = 0 → A7 = none ∧ c7 = 0) := fun h => absurd h (by omega)
            clear e1 e2 e3 hbl PB VB VNB O7 K7 BX NBX MB KA ONE EB ET VO VN VM VA
            go_wp2
            go_roundw
            case rel => exact ⟨k + 1, A7, m + 1, c7, by omega, by omega, by go_num, by first | rfl | trivial, VM2, VA2, E1, N7⟩
            case measure => simp [intOf]; omega
        · have IV : Hid (isV s p k = 3) := by
            show _ = _
            unfold isV
            rw [hbad]
            rfl
          have EB : Hid (tRow (tkUpto s p k) [] ++ [.int .i64 (k : Nat), .int .u8 (b.k : Nat), .int .u32 (b.e : Nat), .int .u64 (b.s : Nat), .bool true] = tRow (tkUpto s p (k + 1)) []) := by
            show _ = _
            rw [ET.out, tRow_snoc, hbad]
            rfl
          have MB : Hid (Blk ((wB.alloc (.cells #[.int .i64 (k : Nat), .int .u8 (b.k : Nat), .int .u32 (b.e : Nat), .int .u64 (b.s : Nat), .bool true] 36)).drew) wB.heap.size 36 [.int .i64 (k : Nat), .int .u8 (b.k : Nat), .int .u32 (b.e : Nat), .int .u64 (b.s : Nat), .bool true]) := Blk.made wB _ _
          have KA : Hid (New wB ((wB.alloc (.cells #[.int .i64 (k : Nat), .int .u8 (b.k : Nat), .int .u32 (b.e : Nat), .int .u64 (b.s : Nat), .bool true] 36)).drew)) := ((Kept.refl _ _).alloc _).drew
          have ONE : Hid (∀ u ∈ [Value.int .i64 (k : Nat), .int .u8 (b.k : Nat), .int .u32 (b.e : Nat), .int .u64 (b.s : Nat), .bool true], u.oneCell' = true) := by intro u hu; simp at hu; rcases hu with rfl | rfl | rfl | rfl | rfl <;> rfl
          clear hbad
          go_region_law (first
            | (with_reducible refine step_append_tk (wb := wB) (o := ⟨some 31, _, _, _, _, _⟩) rfl (.tmp 21) (.tmp 30) rfl w.heap.size A m c (tRow (tkUpto s p k) []) ?_ VB.out KA.out wB.heap.size 1 [.int .i64 (k : Nat), .int .u8 (b.k : Nat), .int .u32 (b.e : Nat), .int .u64 (b.s : Nat), .bool true] ?_ MB.out rfl ONE.out NB.out LO.out ?_; (next => go_simp); (next => go_simp); intro A7 c7 w7 O7 K7)
            | (go_simp; go_at_call 20; refine (pIs_any _ _ _ _ _ _ k _ (by first | exact PB.out | exact PB.out.new ((Kept.refl _ _).drew)) HK.out).mono ?_; rintro e w' ⟨rfl, rfl⟩; rw [IV.out]))
          all_goals
            have E1 : Hid (OwnV w7 36 5 w.heap.size A7 (m + 1) c7 (tRow (tkUpto s p (k + 1)) [])) := by rw [← EB.out]; exact O7.out
            have N7 : Hid (New w w7) := new_of_kept VNB.out K7.out fun b' hb' => by
              obtain ⟨a, ha, e⟩ := hb'
              have := (VB.out.at_ a ha).2
              omega
            have VM2 : Hid (m + 1 = (tkUpto s p (k + 1)).length) := by
              show _ = _
              rw [ET.out, List.length_append, ← VM.out]
              rfl
            have VA2 : Hid (m + 1 = 0 → A7 = none ∧ c7 = 0) := fun h => absurd h (by omega)
            clear e1 e2 e3 hbl PB VB VNB O7 K7 BX NBX MB KA ONE EB ET VO VN VM VA
            go_wp2
            go_roundw
            case rel => exact ⟨k + 1, A7, m + 1, c7, by omega, by omega, by go_num, by first | rfl | trivial, VM2, VA2, E1, N7⟩
            case measure => simp [intOf]; omega
      · have E : Hid (tkUpto s p (k + 1) = tkUpto s p k) := by
          show _ = _
          simp only [tkUpto, HB.out]
          rw [if_neg hw1, List.append_nil]
        have hw2 : ((b.w : Int) == 1) = false := beq_eq_false_iff_ne.2 (by omega)
        have hw3 : (b.w == 1) = false := beq_eq_false_iff_ne.2 hw1
        have VO2 : Hid (OwnV (wr.alloc (.cells #[.int .u8 (b.w : Nat), .int .u8 (b.k : Nat), .int .u32 (b.e : Nat), .int .u64 (b.s : Nat)] 67)) 36 5 w.heap.size A m c (tRow (tkUpto s p (k + 1)) [])) := by
          rw [E.out]
          exact VO.out.new ((Kept.refl _ _).alloc _)
        have VN2 : Hid (New w (wr.alloc (.cells #[.int .u8 (b.w : Nat), .int .u8 (b.k : Nat), .int .u32 (b.e : Nat), .int .u64 (b.s : Nat)] 67))) := VN.out.alloc _
        have VM2 : Hid (m = (tkUpto s p (k + 1)).length) := by show _ = _; rw [E.out]; exact VM.out
        clear VO VN VM E hw1
        go_wp2
        go_roundw
        case rel => exact ⟨k + 1, A, m, c, by omega, by omega, by go_num, rfl, VM2, VA, VO2, VN2⟩
        case measure => simp [intOf]; omega
    · obtain rfl : k = s.nb := by omega
      rcases Nat.eq_zero_or_pos m with h0 | h0
      · obtain ⟨hA, hc0⟩ := VA.out h0
        subst hA hc0 h0
        have EL : Hid (tknL s p = []) := by
          show _ = _
          unfold tknL
          rw [List.eq_nil_of_length_eq_zero VM.out.symm]
          rfl
        have R : Hid (TknP w (tknL s p) (.returned (.slice none 0 0)) wr) := by
          rw [EL.out]
          exact ⟨none, 0, rfl, OwnV.nil _ _ _ _, VN.out⟩
        clear VA VM VO
        go_wp2_with fail
        refine (sortStable_nil _).mono ?_
        rintro e w' ⟨rfl, rfl⟩
        go_wp2
        go_ret
        exact R.out
      · obtain ⟨q1, q2, q3, q4⟩ := VO.out
        rcases q4 with ⟨rfl, rfl⟩ | ⟨gt, junk, rfl, q5, q6, q7⟩
        · omega
        · have HBK : Hid (Blk wr gt 36 (tRow (tkUpto s p s.nb) junk)) := by rw [tRow_junk]; exact q6
          have HLE : Hid (m ≤ 19 ∧ m ≤ c) := ⟨by have := H19.out; omega, q2⟩
          have HQ := Lib.hid q5
          have HJ : Hid ((tRow (tkUpto s p s.nb) []).length + junk.length = c * 5 ∧ c ≤ maxLen) := ⟨q7, q3⟩
          clear q1 q2 q3 q5 q6 q7 VA VO
          go_wp2_with fail
          refine (sortStable_any gt m c _ junk _ HBK.out VM.out.symm HLE.out.1 HLE.out.2).mono ?_
          rintro e w2 ⟨rfl, h1, h2⟩
          have ELN : Hid ((tknL s p).length = m) := (insG_len _ _).trans VM.out.symm
          have R : Hid (TknP w (tknL s p) (.returned (.slice (some ⟨gt, 0, none⟩) m c)) w2) := by
            refine ⟨some ⟨gt, 0, none⟩, c, by rw [ELN.out], ?_, new_of_kept VN.out h2 fun b hb => by subst hb; exact HQ.out⟩
            have e0 : tknL s p = insG (tkUpto s p s.nb) (m - 1) := by unfold tknL; rw [← VM.out]
            rw [← e0, tRow_junk] at h1
            refine ⟨by rw [tRow_len], by rw [ELN.out]; exact HLE.out.2, HJ.out.2, .inr ⟨gt, junk, rfl, HQ.out, h1, ?_⟩⟩
            have h3 := HJ.out.1
            rw [tRow_len, ← VM.out] at h3
            rw [tRow_len, ELN.out]
            exact h3
          clear h1 h2
          go_wp2
          go_ret
          exact R.out
end Go.Proofs.YtgfdiboaiifdnaaGreat
