/-
  Layer 7: contracts (Gp Gq Gr).
-/
import Derived.Test.YtbiihjdjbknibaaGreatC17
namespace Go.Proofs.YtbiihjdjbknibaaGreat
set_option maxRecDepth 100000
set_option maxHeartbeats 8000000
set_option linter.unusedSimpArgs false
set_option linter.unusedVariables false
section
set_option maxRecDepth 100000
open Go.ChangeShapes Go.WideShapes Go.ChangeAt Go.RowKit
theorem info_block : (Tryz.prog.info? 163).map (fun i => (i.zero, i.size, i.bytes)) = some (some (.agg #[.int .u8 0, .int .u8 0, .int .u32 0, .int .u64 0]), 4, 24) := by kernel_rfl
def pb0 : PB := ⟨0, 0, 0, 0⟩
theorem madeBlocks (n : Nat) : madeCells (Value.cells (.agg #[.int .u8 0, .int .u8 0, .int .u32 0, .int .u64 0])) (n * 4) = (bCells (List.replicate n pb0)).toArray := by
  apply Array.ext
  · rw [size_madeCells]; simp [bCells_len]
  · intro i h1 h2
    rw [size_madeCells] at h1
    have hr : (List.replicate n pb0)[i / 4]? = some pb0 := by rw [List.getElem?_replicate, if_pos (by omega)]
    have hg := fun v hv => bCells_get (List.replicate n pb0) (i % 4) v (i / 4) pb0 hr (by omega) hv
    rw [show i / 4 * 4 + i % 4 = i by omega] at hg
    have key : ∀ v, pb0.cells[i % 4]? = some v → (bCells (List.replicate n pb0)).toArray[i] = v := fun v hv => by
      have := hg v hv
      rw [List.getElem?_eq_getElem (by simpa using h2)] at this
      injection this
    simp only [madeCells, Value.cells, Array.getElem_map, Array.getElem_range]
    have h4 : i % 4 = 0 ∨ i % 4 = 1 ∨ i % 4 = 2 ∨ i % 4 = 3 := by omega
    rcases h4 with h | h | h | h
    all_goals
      rw [key _ (by rw [h]; rfl)]
      show (#[Value.int .u8 0, .int .u8 0, .int .u32 0, .int .u64 0])[i % 4]! = _
      rw [h]
      rfl
def scanBl (s : CSt) (k : Nat) : List PB := (List.range s.nb).map fun i => if i < k then lookV s i else pb0
theorem scanBl_len (s : CSt) (k : Nat) : (scanBl s k).length = s.nb := by simp [scanBl]
theorem scanBl_step (s : CSt) (k : Nat) (hk : k < s.nb) : (scanBl s k).set k (lookV s k) = scanBl s (k + 1) := by
  apply List.ext_getElem?
  intro i
  rw [List.getElem?_set]
  by_cases h : k = i
  · subst h
    rw [if_pos rfl, if_pos (by rw [scanBl_len]; exact hk)]
    simp [scanBl, hk]
  · rw [if_neg h]
    rcases Nat.lt_or_ge i s.nb with hi | hi
    · simp only [scanBl, List.getElem?_map, List.getElem?_range hi, Option.map_some]
      by_cases h2 : i < k
      · rw [if_pos h2, if_pos (by omega)]
      · rw [if_neg h2, if_neg (by omega)]
    · rw [List.getElem?_eq_none (by rw [scanBl_len]; exact hi), List.getElem?_eq_none (by rw [scanBl_len]; exact hi)]
theorem scanBl_zero (s : CSt) : scanBl s 0 = List.replicate s.nb pb0 := by
  apply List.ext_getElem?
  intro i
  rcases Nat.lt_or_ge i s.nb with hi | hi
  · simp [scanBl, hi]
  · rw [List.getElem?_eq_none (by rw [scanBl_len]; exact hi), List.getElem?_eq_none (by simp; exact hi)]
theorem mem_swp {l : List TK} {j : Nat} {t : TK} (h : t ∈ swp l j) : t ∈ l := by
  unfold swp at h
  split at h
  · rename_i x y hx hy
    rcases List.mem_or_eq_of_mem_set h with h | rfl
    · rcases List.mem_or_eq_of_mem_set h with h | rfl
      · exact h
      · exact List.mem_of_getElem? hx
    · exact List.mem_of_getElem? hy
  · exact h
theorem mem_bub {t : TK} : ∀ (j : Nat) (l : List TK), t ∈ bub j l → t ∈ l := by
  intro j
  induction j with
  | zero => intro l h; exact h
  | succ j ih =>
    intro l h
    simp only [bub] at h
    split at h
    · exact mem_swp (ih _ h)
    · exact h
theorem mem_insG {t : TK} {l : List TK} : ∀ k, t ∈ insG l k → t ∈ l := by
  intro k
  induction k with
  | zero => intro h; exact h
  | succ k ih => intro h; exact ih (mem_bub _ _ h)
theorem mem_tkUpto {s : CSt} {p : PSt} {t : TK} : ∀ k, t ∈ tkUpto s p k → t.b < k ∧ ∃ b, p.bl[t.b]? = some b ∧ t.k = b.k ∧ t.e = b.e ∧ t.s = b.s := by
  intro k
  induction k with
  | zero => intro h; cases h
  | succ k ih =>
    intro h
    simp only [tkUpto] at h
    rcases List.mem_append.1 h with h | h
    · obtain ⟨h1, h2⟩ := ih h
      exact ⟨by omega, h2⟩
    · split at h
      · rename_i b hb
        split at h
        · simp only [List.mem_singleton] at h
          subst h
          exact ⟨Nat.lt_succ_self _, b, hb, rfl, rfl, rfl⟩
        · cases h
      · cases h
theorem mem_tkn {s : CSt} {p : PSt} {t : TK} (h : t ∈ tknL s p) : t.b < s.nb ∧ ∃ b, p.bl[t.b]? = some b ∧ t.k = b.k ∧ t.e = b.e ∧ t.s = b.s := mem_tkUpto _ (mem_insG _ h)
def scan0 (s : CSt) : PSt := ⟨scanBl s s.nb, 0, 0⟩
def scanS (s : CSt) : PSt := match (tknL s (scan0 s)).getLast? with | some t => ⟨scanBl s s.nb, (t.b + 1) % s.nb, t.s⟩ | none => scan0 s
def ScanP (Q : Nat → Prop) (w : World) (g : Nat) (s : CSt) (e : Ending) (w' : World) : Prop :=
  ∃ gp gb, e = .returned (.tuple #[.pointer (some ⟨gp, 0, none⟩), .int .i64 0]) ∧ PRep Q w' gp gb g s (scanS s) ∧ w.heap.size ≤ gp ∧ w.heap.size ≤ gb ∧ New w w'
theorem pScan_ok (Q : Nat → Prop) (g : Nat) (s : CSt) (w : World) (h : NChip Q w g s) (hal : s.dead = false) (hn19 : s.nb ≤ 19) :
    Calls Tryz.prog 55 #[.pointer (some ⟨g, 0, none⟩)] w (ScanP Q w g s) := by
  have HC := jH h
  have HA : Hid (readE s 0 0 = 0) := by show _ = _; rw [ref00 s h.ok, hal]; rfl
  have H19 := jH hn19
  have hnb2 := h.ok.nb2
  have HNB1 : Hid (0 < s.nb) := by have := h.ok.nb1; show _ < _; omega
  have hfd : ∀ w : World, (Instr.field 51 (.agg #[.int .i64 (s.nb : Nat), .int .i64 (s.np : Nat), .int .i64 (s.nz : Nat), .int .i64 (s.ns : Nat)]) 0).run Tryz.prog w = .ok (.int .i64 (s.nb : Nat)) w := fun _ => by kernel_rfl
  obtain ⟨Z, hZ⟩ : ∃ Z, Z = (bCells (List.replicate s.nb pb0)).toArray := ⟨_, rfl⟩
  have hmk : ∀ u : World, (Instr.makeSlice 156 (.int .i64 (s.nb : Nat)) (.int .i64 (s.nb : Nat))).run Tryz.prog u = .ok (.slice (some ⟨u.heap.size, 0, none⟩) s.nb s.nb) (u.alloc (.cells Z 163)) := fun u => by
    obtain ⟨i0, hi, hz0, hz1, hz2⟩ := info_parts info_block
    have h := run_make (P := Tryz.prog) u 156 163 i0 _ Tryz.underlying156 hi hz0 .i64 .i64 s.nb s.nb (by omega) (by omega) (by rw [hz2]; omega) (by omega)
    simp only [Int.toNat_natCast] at h
    rw [h, hz1, madeBlocks, hZ]
  have HZ := jH hZ
  clear h hal hn19 hZ
  go_enter Tryz.func55, Tryz.ntmps55
  go_wp2_with fail
  refine (nRead_any _ _ _ 0 0 _ HC.out).mono ?_
  rintro e w1 ⟨A1, c1, rfl, h1, h2⟩
  have N1 := jH h2
  rw [HA.out]
  clear h1 h2
  generalize (readL s 0 0).length = rl at *
  go_wp2_with fail
  refine (nGeo_any _ _ _ _ (HC.out.new N1.out)).mono ?_
  rintro e w2 ⟨rfl, h2⟩
  have N2 : Hid (New w w2) := N1.out.new h2
  clear h2
  go_wp2_with fail
  obtain ⟨w3, hw3⟩ : ∃ w3, w3 = (w2.alloc (.cells Z 163)).alloc (.cells #[.pointer (some ⟨g, 0, none⟩), .slice (some ⟨w2.heap.size, 0, none⟩) s.nb s.nb, .int .i64 0, .int .u64 0] 158) := ⟨_, rfl⟩
  have HB3 : Hid (Blk w3 w2.heap.size 163 (bCells (scanBl s 0))) := by
    show Blk _ _ _ _
    rw [hw3, scanBl_zero]
    have h1 := (Blk.made w2 163 Z).alloc (.cells #[.pointer (some ⟨g, 0, none⟩), .slice (some ⟨w2.heap.size, 0, none⟩) s.nb s.nb, .int .i64 0, .int .u64 0] 158)
    rw [HZ.out] at h1 ⊢
    exact h1
  have HP3 : Hid (Blk w3 (w2.heap.size + 1) 158 [.pointer (some ⟨g, 0, none⟩), .slice (some ⟨w2.heap.size, 0, none⟩) s.nb s.nb, .int .i64 0, .int .u64 0]) := by
    show Blk _ _ _ _
    rw [hw3]
    have h1 := Blk.made (w2.alloc (.cells Z 163)) 158 #[.pointer (some ⟨g, 0, none⟩), .slice (some ⟨w2.heap.size, 0, none⟩) s.nb s.nb, .int .i64 0, .int .u64 0]
    rw [show (w2.alloc (.cells Z 163)).heap.size = w2.heap.size + 1 by simp] at h1
    exact h1
  have N3 : Hid (New w w3) := by rw [hw3]; exact (N2.out.alloc _).alloc _
  have HW3 := jH hw3
  clear hw3
  rw [← HW3.out]
  clear HW3 HZ hmk hfd
  have HGE : Hid (w.heap.size ≤ w2.heap.size) := N2.out.size
  have HLOW : Hid (¬ Q (w2.heap.size + 1) ∧ ¬ Q w2.heap.size) := ⟨fun q => by have := HC.out.low _ q; have := HGE.out; omega, fun q => by have := HC.out.low _ q; have := HGE.out; omega⟩
  have P3 : Hid (PRep Q w3 (w2.heap.size + 1) w2.heap.size g s ⟨scanBl s 0, 0, 0⟩) :=
    { chip := HC.out.new N3.out, pool := HP3.out, blks := HB3.out, len := scanBl_len s 0, next := HNB1.out, last := by show (0 : Nat) < _; omega,
      okb := fun b hb => by
        rw [scanBl_zero] at hb
        rw [(List.mem_replicate.1 hb).2]
        exact ⟨by show (0 : Nat) ≤ _; omega, by show (0 : Nat) < _; omega, by show (0 : Nat) < _; omega, by show (0 : Nat) < _; omega⟩,
      np := HLOW.out.1, nb := HLOW.out.2 }
  have HG2 : Hid (w.heap.size ≤ w2.heap.size + 1) := by have := HGE.out; show _ ≤ _; omega
  generalize w2.heap.size + 1 = gp at *
  generalize w2.heap.size = gb at *
  clear HB3 HP3 N1 N2 HC HLOW HA
  go_loopw [7, 30] (fun _ tk wr => ∃ (k : Nat), k ≤ s.nb ∧ tk = .int .i64 k ∧ Hid (PRep Q wr gp gb g s ⟨scanBl s k, 0, 0⟩) ∧ Hid (New w wr)) (fun _ tk _ => s.nb - (intOf tk).toNat)
  case atStart => exact ⟨0, Nat.zero_le _, rfl, P3, N3⟩
  case round =>
    obtain ⟨k, hk, rfl, VP, VN⟩ := hrel
    clear P3 N3
    by_cases hlt : k < s.nb
    · have HK := jH hlt
      go_wp2_with fail
      refine (pLook_any _ _ _ _ _ _ k _ VP.out HK.out).mono ?_
      rintro e w4 ⟨rfl, h1, h2⟩
      have P4 : Hid (PRep Q w4 gp gb g s ⟨scanBl s (k + 1), 0, 0⟩) := by
        have h3 := h1
        simp only [scanBl_step s k HK.out] at h3
        exact h3
      have N4 : Hid (New w w4) := new_of_kept VN.out h2 fun b hb => by subst hb; exact HGE.out
      clear h1 h2
      go_wp2
      go_roundw
      case rel => exact ⟨k + 1, by omega, by go_num, P4, N4⟩
      case measure => simp [intOf]; omega
    · obtain rfl : k = s.nb := by omega
      have PS : Hid (PRep Q wr gp gb g s (scan0 s)) := VP.out
      clear VP
      go_wp2_with fail
      refine (pTaken_any _ _ _ _ _ _ _ PS.out H19.out).mono ?_
      rintro e w4 ⟨A, c, rfl, h1, h2⟩
      have N4 : Hid (New w w4) := VN.out.new h2
      have P4 : Hid (PRep Q w4 gp gb g s (scan0 s)) := PS.out.new h2
      have VO := jH h1
      clear h1 h2 PS VN
      rcases List.eq_nil_or_concat (tknL s (scan0 s)) with hl | ⟨l', t, hl⟩
      · have R : Hid (ScanP Q w g s (.returned (.tuple #[.pointer (some ⟨gp, 0, none⟩), .int .i64 0])) w4) := by
          refine ⟨gp, gb, rfl, ?_, HG2.out, HGE.out, N4.out⟩
          have e : scanS s = scan0 s := by unfold scanS; rw [hl]; rfl
          rw [e]
          exact P4.out
        rw [hl]
        clear VO hl
        go_wp2
        go_ret2
        exact R.out
      · have HL := jH hl
        have hlen : (tknL s (scan0 s)).length = l'.length + 1 := by rw [hl, List.length_concat]
        have hgt : (tknL s (scan0 s))[l'.length]? = some t := by rw [hl, List.concat_eq_append, List.getElem?_append_right (Nat.le_refl _), Nat.sub_self]; rfl
        obtain ⟨htb, b, hb1, hb2, hb3, hb4⟩ := mem_tkn (s := s) (p := scan0 s) (t := t) (by rw [hl, List.concat_eq_append]; simp)
        have hbo := (P4.out.okb b (List.mem_of_getElem? hb1))
        have HTS : Hid (t.s < 18446744073709551616) := by show _ < _; rw [hb4]; exact hbo.s
        have HTB := jH htb
        have HES : Hid (scanS s = ⟨scanBl s s.nb, (t.b + 1) % s.nb, t.s⟩) := by
          show _ = _
          unfold scanS
          rw [hl, List.concat_eq_append, List.getLast?_append]
          rfl
        rw [hlen] at VO ⊢
        obtain ⟨v1, v2, v3, v4⟩ := VO.out
        rcases v4 with ⟨rfl, rfl⟩ | ⟨gt, sp, rfl, v5, v6, v7⟩
        · exact absurd v2 (by omega)
        have hc : ∀ (j : Nat) (v : Value), j < 5 → t.cells[j]? = some v → w4.cell? ⟨gt, l'.length * 5 + j, none⟩ = some v := fun j v h1 h2 => by
          rw [v6.cell]
          have := tRow_get sp _ j v _ _ hgt h1 h2
          rw [tRow_junk] at this
          exact this
        have k0 : w4.cell? ⟨gt, l'.length * 5, none⟩ = some (.int .i64 (t.b : Nat)) := hc 0 _ (by omega) rfl
        have k1 : w4.cell? ⟨gt, l'.length * 5 + 1, none⟩ = some (.int .u8 (t.k : Nat)) := hc 1 _ (by omega) rfl
        have k2 : w4.cell? ⟨gt, l'.length * 5 + 2, none⟩ = some (.int .u32 (t.e : Nat)) := hc 2 _ (by omega) rfl
        have k3 : w4.cell? ⟨gt, l'.length * 5 + 3, none⟩ = some (.int .u64 (t.s : Nat)) := hc 3 _ (by omega) rfl
        have k4 : w4.cell? ⟨gt, l'.length * 5 + 4, none⟩ = some (.bool t.bad) := hc 4 _ (by omega) rfl
        have hml : l'.length < 9223372036854775807 := by
          have h1 := Nat.le_trans v2 v3
          unfold maxLen at h1
          omega
        clear VO v1 v2 v3 v5 v6 v7 hc hgt hlen hl hb1 hb2 hb3 hb4 hbo htb
        generalize l'.length = m at *
        go_wp2_with fail
        clear k0 k1 k2 k3 k4 hml
        obtain ⟨w5, hw5⟩ : ∃ w5, w5 = w4.alloc (.cells #[.int .i64 (t.b : Nat), .int .u8 (t.k : Nat), .int .u32 (t.e : Nat), .int .u64 (t.s : Nat), .bool t.bad] 90) := ⟨_, rfl⟩
        have B5 : Hid (Blk w5 w4.heap.size 90 [.int .i64 (t.b : Nat), .int .u8 (t.k : Nat), .int .u32 (t.e : Nat), .int .u64 (t.s : Nat), .bool t.bad]) := by rw [hw5]; exact Blk.made w4 _ _
        have N5 : Hid (New w w5) := by rw [hw5]; exact N4.out.alloc _
        have P5 : Hid (PRep Q w5 gp gb g s (scan0 s)) := by rw [hw5]; exact P4.out.new (kR.alloc _)
        have HW5 := jH hw5
        clear hw5
        rw [← HW5.out]
        clear HW5 P4 N4
        generalize w4.heap.size = gt5 at *
        have R : Hid (ScanP Q w g s (.returned (.tuple #[.pointer (some ⟨gp, 0, none⟩), .int .i64 0])) ((w5.setCell ⟨gp, 2, none⟩ (.int .i64 (((t.b : Nat) + 1 : Int) % (s.nb : Nat)))).setCell ⟨gp, 3, none⟩ (.int .u64 (t.s : Nat))).drew) := by
          have e : (((t.b : Nat) + 1 : Int) % (s.nb : Nat)) = (((t.b + 1) % s.nb : Nat) : Int) := by rw [Int.natCast_emod]; rfl
          rw [e]
          have h1 := (P5.out.setNext (n := (t.b + 1) % s.nb) (Nat.mod_lt _ HNB1.out) rfl).setLast (n := t.s) HTS.out rfl
          refine ⟨gp, gb, rfl, ?_, HG2.out, HGE.out, ?_⟩
          · rw [HES.out]
            exact h1.new (kR.drew)
          · refine new_of_kept (S := (· = gp)) N5.out (((Kept.set1 _ _ _ _).trans (Kept.set1 _ _ _ _) fun _ _ x => x).drew) fun b hb => by subst hb; exact HG2.out
        have d0 := B5.out.q0
        have d3 := B5.out.q3
        have q2 := P5.out.pool.free 2
        have q3 := P5.out.pool.free 3
        have c2 := P5.out.pool.q2
        have c3 := P5.out.pool.q3
        have hgp := P5.out.pool.lt
        have hg5 := B5.out.lt
        go_region_with (go_at_call 84; refine (pBehind_any _ _ _ _ _ _ t.b _ (by first | exact P5.out | exact P5.out.new (kR.drew)) HTB.out).mono ?_; rintro e w' ⟨rfl, rfl⟩)
        all_goals
          clear d0 d3 c2 c3 q2 q3 hgp hg5
          go_wp2
          go_ret2
          exact R.out
end
section
set_option maxRecDepth 100000
open Go.ChangeShapes Go.WideShapes Go.ChangeAt Go.RowKit
deriving instance DecidableEq for TK
end
section
set_option maxRecDepth 100000
open Go.ChangeShapes Go.WideShapes Go.ChangeAt Go.RowKit
theorem leV_leBn (n s:Nat) (h:n < 256 ^ s):leV (leB n s)=n:=by
 have key:∀k,leV (leB n k)=n % 256 ^ k:=by
  intro k
  induction k with
  | zero=>simp[leB,leV,Nat.mod_one]
  | succ k ih=>
   have e:leB n (k+1)=leB n k++[n / 256 ^ k % 256]:=by
    unfold leB;rw[List.range_succ,List.map_append]
    rfl
   rw[e,leV_append,ih,leB_length];simp only[leV,Nat.mul_zero,Nat.add_zero];rw[Nat.pow_succ,Nat.mod_mul]
 rw[key,Nat.mod_eq_of_lt h]
theorem bd_hdL (k e s:Nat) (hk:k < 256) (he:e < 4294967296) (hs:s < 18446744073709551616):bdK (hdL k e s)=k∧bdE (hdL k e s)=e∧bdS (hdL k e s)=s:=by
 have h1:(hdL k e s).take 1=leB k 1:=by unfold hdL;rw[List.append_assoc];exact List.take_left' (leB_length _ _)
 have h2:(hdL k e s).drop 1=leB e 4++leB s 8:=by unfold hdL;rw[List.append_assoc];exact List.drop_left' (leB_length _ _)
 have h3:(leB e 4++leB s 8).take 4=leB e 4:=List.take_left' (leB_length _ _);have h4:(leB e 4++leB s 8).drop 4=leB s 8:=List.drop_left' (leB_length _ _);have h5:(leB s 8).take 8=leB s 8:=List.take_of_length_le (by rw[leB_length];omega);unfold bdK bdE bdS;rw[h1,h2,h3,h4,h5];exact⟨leV_leBn _ _ (by omega),leV_leBn _ _ (by omega),leV_leBn _ _ (by omega)⟩
theorem heads_back {n:Int} {k e s:Nat} (hk:k < 256) (he:e < 4294967296) (hs:s < 18446744073709551616) (h:phE n k e s=0):
  ghE (phL n k e s)=0∧ghK (phL n k e s)=k∧ghR (phL n k e s)=e∧ghS (phL n k e s)=s:=by
 by_cases hh:isHd k e s
 ·have h1:sPutE n 1 (hdL k e s)=0:=by unfold phE at h;rwa [if_pos hh] at h
  obtain⟨N,rfl,hpg,hkd,hlen,hpp⟩:=put_yes h1;obtain⟨g1,g2,g3⟩:=get_page N 1 (hdL k e s) hpg hkd hlen;obtain⟨b1,b2,b3⟩:=bd_hdL k e s hk he hs
  have e1:phL N k e s=page N 1 (hdL k e s):=by unfold phL;rw[if_pos hh];exact hpp
  have hE:ghE (page N 1 (hdL k e s))=0:=by
   unfold ghE;rw[if_neg (by rw[g1];decide),g2,g3,if_pos ⟨⟨rfl,hdL_length _ _ _⟩,by rw[b1,b2,b3];exact hh⟩]
  rw[e1];refine⟨hE,?_,?_,?_⟩
  ·unfold ghK;rw[if_pos hE,g3,b1]
  ·unfold ghR;rw[if_pos hE,g3,b2]
  ·unfold ghS;rw[if_pos hE,g3,b3]
 ·unfold phE at h;rw[if_neg hh] at h;exact absurd h (by decide)
end
end Go.Proofs.YtbiihjdjbknibaaGreat
