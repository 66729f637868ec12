/-
  Contracts: at which places pages end.
-/
import Derived.Test.YtbiihjdjbknibaaBb
namespace Go.Proofs.Ytbiihjdjbknibaa
set_option maxRecDepth 100000
open Go.RowKit

theorem info_int : (Try.prog.info? 3).map (fun i => (i.zero, i.size, i.bytes)) = some (some (.int .i64 0), 1, 8) := by kernel_rfl

/-- One element more behind a row of the call's own. -/
theorem wpList_append_int {w : World} {ops : Array Oper} {rest : List Oper} {o : Oper} {a : Act} {Q : Exit → Act → World → Prop} (hgd : o.guard = none) (s x : Operand)
    (ho : o.op = .call { callee := .builtin .append, args := #[s, x], argTypes := #[49, 49] })
    (B : Nat) (A : Option Addr) (k ch : Nat) (vs : List Value) (hsv : a.eval s = .slice A k ch) (hown : OwnV w 3 1 B A k ch vs)
    (g c' : Nat) (z : Value) (hz1c : z.oneCell' = true) (hx : a.eval x = .slice (some ⟨g, 0, none⟩) 1 c') (hb : Blk w g 3 [z]) (hn : (k + 1) * 8 ≤ 140737488355328) (hbase : B ≤ w.heap.size)
    (h : ∀ A2 c2 w', Hid (OwnV w' 3 1 B A2 (k + 1) c2 (vs ++ [z])) → Hid (Kept (InRow A) w w') → wpList Try.prog ops Q rest (a.put o.dst (.slice A2 (k + 1) c2)) w') :
    wpList Try.prog ops Q (o :: rest) a w := by
  obtain ⟨i0, hi, hz0, hz1, hz2⟩ := info_parts info_int
  have hr : RowV w (some ⟨g, 0, none⟩) 1 i0.size [z] := by
    rw [hz1]
    exact ⟨rfl, fun _ => ⟨g, 0, rfl, fun j v hj => by rw [Nat.zero_add, hb.cell]; exact hj⟩⟩
  have ho' : OwnV w 3 i0.size B A k ch vs := by rw [hz1]; exact hown
  refine wpList_append_rowV w hgd s x 49 ho 3 i0 (.int .i64 0) Try.underlying49 hi hz0 (by rw [hz1]; rfl) (by rw [hz1]; omega) B A k ch vs hsv ho' (some ⟨g, 0, none⟩) 1 c' [z] hx hr (by intro u hu; rw [List.mem_singleton.1 hu]; exact hz1c) (by rw [hz2]; omega) (by omega) hbase ?_
  intro A2 c2 w' h3 h4 h5
  refine h A2 c2 w' (by have := h3.out; rw [hz1] at this; exact this) ?_
  refine (Kept.refl (InRow A) w).grown h4.out fun q _ hA => ?_
  obtain ⟨a, ha, e⟩ := Option.map_eq_some_iff.1 hA
  exact ⟨a, ha, e⟩

theorem info_bytes2 : (Try.prog.info? 25).map (fun i => (i.zero, i.size, i.bytes)) = some (some (.slice none 0 0), 1, 24) := by kernel_rfl

/-- One element more behind a row of the call's own. -/
theorem wpList_append_bytes2 {w : World} {ops : Array Oper} {rest : List Oper} {o : Oper} {a : Act} {Q : Exit → Act → World → Prop} (hgd : o.guard = none) (s x : Operand)
    (ho : o.op = .call { callee := .builtin .append, args := #[s, x], argTypes := #[28, 28] })
    (B : Nat) (A : Option Addr) (k ch : Nat) (vs : List Value) (hsv : a.eval s = .slice A k ch) (hown : OwnV w 25 1 B A k ch vs)
    (g c' : Nat) (z : Value) (hz1c : z.oneCell' = true) (hx : a.eval x = .slice (some ⟨g, 0, none⟩) 1 c') (hb : Blk w g 25 [z]) (hn : (k + 1) * 24 ≤ 140737488355328) (hbase : B ≤ w.heap.size)
    (h : ∀ A2 c2 w', Hid (OwnV w' 25 1 B A2 (k + 1) c2 (vs ++ [z])) → Hid (Kept (InRow A) w w') → wpList Try.prog ops Q rest (a.put o.dst (.slice A2 (k + 1) c2)) w') :
    wpList Try.prog ops Q (o :: rest) a w := by
  obtain ⟨i0, hi, hz0, hz1, hz2⟩ := info_parts info_bytes2
  have hr : RowV w (some ⟨g, 0, none⟩) 1 i0.size [z] := by
    rw [hz1]
    exact ⟨rfl, fun _ => ⟨g, 0, rfl, fun j v hj => by rw [Nat.zero_add, hb.cell]; exact hj⟩⟩
  have ho' : OwnV w 25 i0.size B A k ch vs := by rw [hz1]; exact hown
  refine wpList_append_rowV w hgd s x 28 ho 25 i0 (.slice none 0 0) Try.underlying28 hi hz0 (by rw [hz1]; rfl) (by rw [hz1]; omega) B A k ch vs hsv ho' (some ⟨g, 0, none⟩) 1 c' [z] hx hr (by intro u hu; rw [List.mem_singleton.1 hu]; exact hz1c) (by rw [hz2]; omega) (by omega) hbase ?_
  intro A2 c2 w' h3 h4 h5
  refine h A2 c2 w' (by have := h3.out; rw [hz1] at this; exact this) ?_
  refine (Kept.refl (InRow A) w).grown h4.out fun q _ hA => ?_
  obtain ⟨a, ha, e⟩ := Option.map_eq_some_iff.1 hA
  exact ⟨a, ha, e⟩

theorem info_facts2 : (Try.prog.info? 22).map (fun i => (i.zero, i.size, i.bytes)) = some (some (.slice none 0 0), 1, 24) := by kernel_rfl

/-- One element more behind a row of the call's own. -/
theorem wpList_append_facts2 {w : World} {ops : Array Oper} {rest : List Oper} {o : Oper} {a : Act} {Q : Exit → Act → World → Prop} (hgd : o.guard = none) (s x : Operand)
    (ho : o.op = .call { callee := .builtin .append, args := #[s, x], argTypes := #[55, 55] })
    (B : Nat) (A : Option Addr) (k ch : Nat) (vs : List Value) (hsv : a.eval s = .slice A k ch) (hown : OwnV w 22 1 B A k ch vs)
    (g c' : Nat) (z : Value) (hz1c : z.oneCell' = true) (hx : a.eval x = .slice (some ⟨g, 0, none⟩) 1 c') (hb : Blk w g 22 [z]) (hn : (k + 1) * 24 ≤ 140737488355328) (hbase : B ≤ w.heap.size)
    (h : ∀ A2 c2 w', Hid (OwnV w' 22 1 B A2 (k + 1) c2 (vs ++ [z])) → Hid (Kept (InRow A) w w') → wpList Try.prog ops Q rest (a.put o.dst (.slice A2 (k + 1) c2)) w') :
    wpList Try.prog ops Q (o :: rest) a w := by
  obtain ⟨i0, hi, hz0, hz1, hz2⟩ := info_parts info_facts2
  have hr : RowV w (some ⟨g, 0, none⟩) 1 i0.size [z] := by
    rw [hz1]
    exact ⟨rfl, fun _ => ⟨g, 0, rfl, fun j v hj => by rw [Nat.zero_add, hb.cell]; exact hj⟩⟩
  have ho' : OwnV w 22 i0.size B A k ch vs := by rw [hz1]; exact hown
  refine wpList_append_rowV w hgd s x 55 ho 22 i0 (.slice none 0 0) Try.underlying55 hi hz0 (by rw [hz1]; rfl) (by rw [hz1]; omega) B A k ch vs hsv ho' (some ⟨g, 0, none⟩) 1 c' [z] hx hr (by intro u hu; rw [List.mem_singleton.1 hu]; exact hz1c) (by rw [hz2]; omega) (by omega) hbase ?_
  intro A2 c2 w' h3 h4 h5
  refine h A2 c2 w' (by have := h3.out; rw [hz1] at this; exact this) ?_
  refine (Kept.refl (InRow A) w).grown h4.out fun q _ hA => ?_
  obtain ⟨a, ha, e⟩ := Option.map_eq_some_iff.1 hA
  exact ⟨a, ha, e⟩

/-- Integers of the call's own. -/
def IOwn (w : World) (B : Nat) (A : Option Addr) (c : Nat) (l : List Nat) : Prop := OwnV w 3 1 B A l.length c (l.map fun (b : Nat) => .int .i64 (b : Nat))
theorem IOwn.new {w w' : World} {B c : Nat} {A : Option Addr} {l : List Nat} (h : IOwn w B A c l) (hk : New w w') : IOwn w' B A c l := OwnV.new h hk
theorem IOwn.more {w' : World} {B c2 k q : Nat} {A2 : Option Addr} {l l' : List Nat} (hk : l.length = k) (hl : l' = l ++ [q])
    (o : OwnV w' 3 1 B A2 (k + 1) c2 ((l.map fun (b : Nat) => Value.int .i64 (b : Nat)) ++ [.int .i64 (q : Nat)])) : IOwn w' B A2 c2 l' := by
  subst hl
  unfold IOwn
  rw [List.length_append, hk, List.map_append]
  exact o

/-- Where pages end, and an error, come back. -/
def PlcP (w : World) (z : Int) (l : List FT) (e : Ending) (w' : World) : Prop :=
  ∃ A c, e = .returned (.tuple #[.slice A (eds 0 (paP z l)).length c, .int .i64 (paE z l)]) ∧ IOwn w' w.heap.size A c (eds 0 (paP z l)) ∧ New w w'
theorem plc_nil {w u : World} {z E : Int} {l : List FT} (h : paE z l = E ∧ paP z l = []) (k : New w u) : PlcP w z l (.returned (.tuple #[.slice none 0 0, .int .i64 E])) u := by
  unfold PlcP
  rw [h.1, h.2]
  exact ⟨none, 0, rfl, OwnV.nil _ _ _ _, k⟩
theorem plc_ok {w u : World} {z : Int} {l : List FT} {A : Option Addr} {m c : Nat} {ks : List Nat} (h : paE z l = 0) (hm : ks.length = m) (hk : eds 0 (paP z l) = ks) (o : IOwn u w.heap.size A c ks) (k : New w u) : PlcP w z l (.returned (.tuple #[.slice A m c, .int .i64 0])) u := by
  subst hm hk
  exact ⟨A, c, by rw [h], o, k⟩

theorem ctK_cnt (room : Nat) (l : List FT) : ∀ k, (ctK room l k).1.length ≤ k
  | 0 => Nat.le_refl _
  | k + 1 => by
    have ih := ctK_cnt room l k
    cases hf : l[k]? with
    | none =>
      have : ctK room l (k + 1) = ctK room l k := by unfold ctK; rw [List.take_add_one, hf]; simp
      rw [this]; omega
    | some f =>
      by_cases hc : room < sumC (ctK room l k).2 + costF f
      · rw [ctK_new hf hc]; simp; omega
      · rw [ctK_more hf hc]; simp; omega
theorem ctK_last {room : Nat} {l : List FT} {k : Nat} (h : ∀ f ∈ l.take k, costF f ≤ room) (hk : k ≤ l.length) : sumC (ctK room l k).2 ≤ room := by
  rw [← ctK_take]
  exact (ctP_all (l := l.take k) h k (by rw [List.length_take]; omega)).last
theorem take_cost {room : Nat} {l : List FT} {k : Nat} {f : FT} (hf : l[k]? = some f) (hc : costF f ≤ room) (h : ∀ f ∈ l.take k, costF f ≤ room) : ∀ f ∈ l.take (k + 1), costF f ≤ room := by
  rw [List.take_add_one, hf]
  intro g hg
  rcases List.mem_append.1 hg with hg | hg
  · exact h g hg
  · simp at hg; subst hg; exact hc
/-- A page that ends: at which place. -/
theorem eds_new {room : Nat} {l : List FT} {k : Nat} (hk : k ≤ l.length) : eds 0 ((ctK room l k).1 ++ [(ctK room l k).2]) = eds 0 (ctK room l k).1 ++ [k] := by
  rw [eds_append, Nat.zero_add, ctK_len hk]
theorem eds_cnt (room : Nat) (l : List FT) (k : Nat) : (eds 0 (ctK room l k).1).length ≤ k := by rw [eds_len]; exact ctK_cnt room l k
theorem eds_all {room : Nat} {l : List FT} {n : Nat} (hl : l.length = n) (h0 : 0 < n) : eds 0 (parts room l) = eds 0 (ctK room l n).1 ++ [n] := by
  subst hl
  rw [parts_ne (by intro e; rw [e] at h0; simp at h0), eds_new (Nat.le_refl _)]

set_option maxHeartbeats 6400000 in
theorem pplaces_any (z : Int) (A : Option Addr) (n c : Nat) (es : List FE) (w : World) (h : FIn w A n es) (hn : n * 64 ≤ 140737488355328) :
    Calls Try.prog 22 #[.int .i64 z, .slice A n c] w (PlcP w z (fts es)) := by
  have HL : Hid ((fts es).length = n) := by show _ = _; unfold fts; rw [List.length_map, h.len]
  have H := Lib.hid h
  have hnm : n ≤ 2199023255552 := by omega
  have CM := fun u hu => Lib.hid (pmayAll_any A n c es u (h.new hu) (by unfold maxLen; omega))
  clear h hn
  by_cases hp : isPg z
  · obtain ⟨R, rfl⟩ : ∃ R : Nat, z = (R : Int) + 6 := ⟨(z - 6).toNat, by unfold isPg at hp; omega⟩
    have hR : 122 ≤ R ∧ R ≤ 250 := by unfold isPg at hp; omega
    have eR : ((R : Int) + 6 - 6).toNat = R := by omega
    have CB : Hid (∀ u, Calls Try.prog 36 #[.int .i64 ((R : Int) + 6)] u fun e w' => e = .returned (.int .i64 ((R : Int) + 1)) ∧ u = w') := fun u => by
      have := sBody_any ((R : Int) + 6) u
      rwa [show pgBody ((R : Int) + 6) = (R : Int) + 1 by unfold pgBody; rw [if_pos hp]; omega] at this
    have HARG : Hid (okF (fts es) = false → paE ((R : Int) + 6) (fts es) = 2 ∧ paP ((R : Int) + 6) (fts es) = []) := fun h => paE_two (by
      show (decide (isPg ((R : Int) + 6)) && okF (fts es)) = false
      rw [h, Bool.and_false])
    have HLIM : Hid (okF (fts es) = true → ∀ f ∈ fts es, R < costF f → paE ((R : Int) + 6) (fts es) = 3 ∧ paP ((R : Int) + 6) (fts es) = []) := fun h f hf hc => paE_three (by
      show (decide (isPg ((R : Int) + 6)) && okF (fts es)) = true
      rw [h, decide_eq_true hp]; rfl) (by rw [eR]; exact fits_no hf hc)
    have HYES : Hid (okF (fts es) = true → (∀ f ∈ fts es, costF f ≤ R) → paE ((R : Int) + 6) (fts es) = 0 ∧ paP ((R : Int) + 6) (fts es) = parts R (fts es)) := fun h hc => by
      have := paE_zero (z := (R : Int) + 6) (l := fts es) (by
        show (decide (isPg ((R : Int) + 6)) && okF (fts es)) = true
        rw [h, decide_eq_true hp]; rfl) (by rw [eR]; exact List.all_eq_true.2 fun f hf => decide_eq_true (hc f hf))
      rwa [eR] at this
    have s0 : IntKind.i64.wrap (R : Int) = (R : Int) := by rw [IntKind.wrap_i64]; omega
    clear hp eR
    go_enter Try.func22, Try.ntmps22
    go_wp2_with fail
    refine (CB.out _).mono ?_
    rintro e w1 ⟨rfl, rfl⟩
    clear CB
    have dR : decide ((R : Int) < 0) = false := decide_eq_false (by omega)
    go_wp2_with fail
    refine (CM _ (Kept.refl _ _)).out.mono ?_
    rintro e w1 ⟨rfl, k1⟩
    have K1 := Lib.hid k1
    clear k1 CM
    cases ho : okF (fts es)
    · have E := Lib.hid (plc_nil (HARG.out ho) K1.out)
      clear HARG HLIM HYES ho
      go_wp2
      go_ret2
      exact E.out
    · have HLI := Lib.hid (HLIM.out ho)
      have HYE := Lib.hid (HYES.out ho)
      clear HARG HLIM HYES ho
      go_wp2_with fail
      go_loopw [7, 8, 23] (fun o t i wr => ∃ (k : Nat) (A' : Option Addr) (c' m : Nat), k ≤ n ∧ m ≤ k ∧ i = .int .i64 k ∧ o = .slice A' m c' ∧ t = .int .i64 (sumC (ctK R (fts es) k).2 : Nat) ∧ Hid ((eds 0 (ctK R (fts es) k).1).length = m) ∧ Hid (IOwn wr w.heap.size A' c' (eds 0 (ctK R (fts es) k).1)) ∧ Hid (∀ f ∈ (fts es).take k, costF f ≤ R) ∧ Hid (New w wr)) (fun _ _ i _ => n - (intOf i).toNat)
      case atStart => exact ⟨0, none, 0, 0, Nat.zero_le _, Nat.le_refl _, rfl, rfl, rfl, rfl, OwnV.nil _ _ _ _, by intro f hf; simp at hf, K1.out⟩
      case round =>
        obtain ⟨k, A', c', m, hk, hmk, rfl, rfl, rfl, HM, VO, VC, VN⟩ := hrel
        clear K1
        by_cases hlt : k < n
        · obtain ⟨g, o, x, eA, hx, okx, x0, x1, x2, x3, x4⟩ := (H.out.new VN.out).at_ (i := k) hlt
          subst eA
          have hfx : (fts es)[k]? = some x.f := by unfold fts; rw [List.getElem?_map, hx]; rfl
          have hts := ctK_last (room := R) VC.out (by rw [HL.out]; omega)
          have CC : Hid (∀ u, Calls Try.prog 12 #[.agg #[.int .i64 x.f.k.i, .int .u8 (x.f.k.t : Nat), .string x.f.k.n, .int .i64 x.f.k.c, .slice x.A x.f.v.length x.c]] u (NewNum u (costF x.f : Nat))) := fun u => pcost_any x.f x.A x.c u okx.2.2.2 okx.2.2.1
          have HNO : Hid (R < costF x.f → paE ((R : Int) + 6) (fts es) = 3 ∧ paP ((R : Int) + 6) (fts es) = []) := fun h => HLI.out x.f (List.mem_of_getElem? hfx) h
          have HC1 : Hid (costF x.f ≤ R → ∀ f ∈ (fts es).take (k + 1), costF f ≤ R) := fun h => take_cost hfx h VC.out
          have HNEW : Hid (R < sumC (ctK R (fts es) k).2 + costF x.f → eds 0 (ctK R (fts es) (k + 1)).1 = eds 0 (ctK R (fts es) k).1 ++ [k] ∧ sumC (ctK R (fts es) (k + 1)).2 = costF x.f) := fun h => by
            rw [ctK_new hfx h, eds_new (by rw [HL.out]; omega)]
            exact ⟨rfl, rfl⟩
          have HMORE : Hid (¬ R < sumC (ctK R (fts es) k).2 + costF x.f → eds 0 (ctK R (fts es) (k + 1)).1 = eds 0 (ctK R (fts es) k).1 ∧ sumC (ctK R (fts es) (k + 1)).2 = sumC (ctK R (fts es) k).2 + costF x.f) := fun h => by
            rw [ctK_more hfx h, sumC_append]
            exact ⟨rfl, rfl⟩
          clear hx okx hfx VC
          obtain ⟨fx, Ax, cx⟩ := x
          obtain ⟨kx, vx⟩ := fx
          dsimp only at *
          generalize costF ⟨kx, vx⟩ = cf at *
          generalize hts2 : sumC (ctK R (fts es) k).2 = ts at *
          generalize hts3 : sumC (ctK R (fts es) (k + 1)).2 = ts' at *
          have HTS3 := Lib.hid hts3
          clear hts2 hts3
          generalize vx.length = vn at *
          have s1 : (0 : Int) ≤ (k : Int) := by omega
          have s3 : (k : Int) < (n : Int) := by omega
          go_wp2_with fail
          refine (CC.out _).mono ?_
          rintro e w2 ⟨rfl, k2⟩
          have N2 := Lib.hid (VN.out.new k2)
          have V2 := Lib.hid (VO.out.new k2)
          clear k2 CC VN VO x0 x1 x2 x3 x4
          by_cases hc : R < cf
          · have E := Lib.hid (plc_nil (HNO.out hc) N2.out)
            have d0 : decide (R < cf) = true := decide_eq_true hc
            clear HNO HC1 HNEW HMORE hc V2
            go_wp2
            go_ret2
            exact E.out
          · have d0 : decide (R < cf) = false := decide_eq_false hc
            have HC2 := Lib.hid (HC1.out (by omega))
            clear HC1 HNO
            by_cases hn : R < ts + cf
            · obtain ⟨e1, e2⟩ := HNEW.out hn
              have d1 : decide ((R : Int) < (ts : Int) + (cf : Int)) = true := decide_eq_true (by omega)
              have E1 := Lib.hid e1
              have E2 := Lib.hid e2
              clear HNEW HMORE hn e1 e2
              obtain ⟨w3, hw3⟩ : ∃ w3, w3 = w2.alloc (.cells #[.int .i64 (k : Int)] 3) := ⟨_, rfl⟩
              have m3 : New w2 w3 := by rw [hw3]; exact (Kept.refl _ _).alloc _
              have B3 : Hid (Blk w3 w2.heap.size 3 [.int .i64 (k : Int)]) := by rw [hw3]; exact Blk.made w2 _ _
              have N3 := Lib.hid (N2.out.new m3)
              have V3 : Hid (OwnV w3 3 1 w.heap.size A' m c' ((eds 0 (ctK R (fts es) k).1).map fun (b : Nat) => .int .i64 (b : Nat))) := by have := V2.out.new m3; unfold IOwn at this; rwa [HM.out] at this
              have HW3 := Lib.hid hw3
              clear m3 hw3 V2 N2
              go_wp2_with (at_builtin; rw [← HW3.out]; refine wpList_append_int rfl _ _ rfl w.heap.size A' m c' _ rfl V3.out w2.heap.size 1 (.int .i64 (k : Int)) rfl rfl B3.out (by omega) N3.out.size ?_)
              intro A5 c5 w5 O5 K5
              have V5 : Hid (IOwn w5 w.heap.size A5 c5 (eds 0 (ctK R (fts es) (k + 1)).1)) := IOwn.more HM.out E1.out O5.out
              have N5 : Hid (New w w5) := new_row N3.out V3.out K5.out
              have HM5 : Hid ((eds 0 (ctK R (fts es) (k + 1)).1).length = m + 1) := by rw [Hid, E1.out, List.length_append, HM.out]; rfl
              clear O5 K5 V3 N3 B3 HW3 HM E1
              go_wp2
              go_roundw
              case rel => exact ⟨k + 1, A5, c5, m + 1, by omega, by omega, by go_num, rfl, by rw [HTS3.out, E2.out], HM5, V5, HC2, N5⟩
              case measure => simp [intOf]; omega
            · obtain ⟨e1, e2⟩ := HMORE.out hn
              have d1 : decide ((R : Int) < (ts : Int) + (cf : Int)) = false := decide_eq_false (by omega)
              have E2 := Lib.hid e2
              have V5 : Hid (IOwn w2 w.heap.size A' c' (eds 0 (ctK R (fts es) (k + 1)).1)) := by rw [Hid, e1]; exact V2.out
              have HM5 : Hid ((eds 0 (ctK R (fts es) (k + 1)).1).length = m) := by rw [Hid, e1]; exact HM.out
              clear HNEW HMORE hn e1 e2 V2 HM
              go_wp2
              go_roundw
              case rel => exact ⟨k + 1, A', c', m, by omega, by omega, by go_num, rfl, by rw [HTS3.out, E2.out]; go_num, HM5, V5, HC2, N2⟩
              case measure => simp [intOf]; omega
        · obtain rfl : k = n := by omega
          have hcc := VC.out
          rw [List.take_of_length_le (by rw [HL.out]; omega)] at hcc
          obtain ⟨y1, y2⟩ := HYE.out hcc
          have Y1 := Lib.hid y1
          have Y2 := Lib.hid y2
          clear hcc y1 y2 VC HLI HYE
          by_cases h0 : 0 < k
          · have d2 : decide (0 < k) = true := decide_eq_true h0
            have HEQ : Hid (eds 0 (paP ((R : Int) + 6) (fts es)) = eds 0 (ctK R (fts es) k).1 ++ [k]) := by rw [Hid, Y2.out]; exact eds_all HL.out h0
            clear h0 Y2
            obtain ⟨w3, hw3⟩ : ∃ w3, w3 = wr.alloc (.cells #[.int .i64 (k : Int)] 3) := ⟨_, rfl⟩
            have m3 : New wr w3 := by rw [hw3]; exact (Kept.refl _ _).alloc _
            have B3 : Hid (Blk w3 wr.heap.size 3 [.int .i64 (k : Int)]) := by rw [hw3]; exact Blk.made wr _ _
            have N3 := Lib.hid (VN.out.new m3)
            have V3 : Hid (OwnV w3 3 1 w.heap.size A' m c' ((eds 0 (ctK R (fts es) k).1).map fun (b : Nat) => .int .i64 (b : Nat))) := by have := VO.out.new m3; unfold IOwn at this; rwa [HM.out] at this
            have HW3 := Lib.hid hw3
            clear m3 hw3 VO VN
            go_wp2_with (at_builtin; rw [← HW3.out]; refine wpList_append_int rfl _ _ rfl w.heap.size A' m c' _ rfl V3.out wr.heap.size 1 (.int .i64 (k : Int)) rfl rfl B3.out (by omega) N3.out.size ?_)
            intro A5 c5 w5 O5 K5
            have V5 : Hid (IOwn w5 w.heap.size A5 c5 (eds 0 (ctK R (fts es) k).1 ++ [k])) := IOwn.more HM.out rfl O5.out
            have N5 : Hid (New w w5) := new_row N3.out V3.out K5.out
            have E9 : Hid (PlcP w ((R : Int) + 6) (fts es) (.returned (.tuple #[.slice A5 (m + 1) c5, .int .i64 0])) w5) := plc_ok Y1.out (by rw [List.length_append, HM.out]; rfl) HEQ.out V5.out N5.out
            clear O5 K5 V3 N3 B3 HW3 HM V5 N5 Y1 HEQ
            go_wp2
            go_ret2
            exact E9.out
          · obtain rfl : k = 0 := by omega
            have hl0 : fts es = [] := List.eq_nil_of_length_eq_zero HL.out
            have hm0 : m = 0 := by omega
            have E9 : Hid (PlcP w ((R : Int) + 6) (fts es) (.returned (.tuple #[.slice A' m c', .int .i64 0])) wr) := plc_ok Y1.out HM.out (by rw [Y2.out, hl0, parts_nil]; rfl) VO.out VN.out
            clear h0 VO VN HM Y1 Y2 hl0
            go_wp2
            go_ret2
            exact E9.out
  · have CB : Hid (∀ u, Calls Try.prog 36 #[.int .i64 z] u fun e w' => e = .returned (.int .i64 0) ∧ u = w') := fun u => by
      have := sBody_any z u
      rwa [show pgBody z = 0 by unfold pgBody; rw [if_neg hp]] at this
    have E := Lib.hid (plc_nil (w := w) (u := w) (paE_two (z := z) (l := fts es) (by
      show (decide (isPg z) && okF (fts es)) = false
      rw [decide_eq_false hp]; rfl)) (Kept.refl _ _))
    clear hp CM
    go_enter Try.func22, Try.ntmps22
    go_wp2_with fail
    refine (CB.out _).mono ?_
    rintro e w1 ⟨rfl, rfl⟩
    clear CB
    go_wp2
    go_ret2
    exact E.out
end Go.Proofs.Ytbiihjdjbknibaa
