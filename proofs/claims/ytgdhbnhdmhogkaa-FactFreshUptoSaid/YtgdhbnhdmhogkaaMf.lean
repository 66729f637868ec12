/-
  Contracts over lists of facts: facts appended, with values of their own.
-/
import Derived.Test.YtgdhbnhdmhogkaaMe
import Derived.Deep.RegionLaw
namespace Go.Proofs.Ytgdhbnhdmhogkaa
open Go.RowKit

theorem info_fact : (Try.prog.info? 38).map (fun i => (i.zero, i.size, i.bytes)) = some (some (.agg #[.int .i64 0, .int .u8 0, .string ⟨#[]⟩, .int .i64 0, .slice none 0 0]), 5, 64) := by kernel_rfl

/-- The block that a row lies in. -/
def InRow (A : Option Addr) (b : Nat) : Prop := ∃ a, A = some a ∧ a.block = b

/-- One fact more behind a row of the call's own, at a step of a region that draws. -/
theorem step_append_fact {w wb : World} {ops : Array Oper} {o : Oper} {a : Act} {K : Act → World → Prop} {Q : Exit → Act → World → Prop} {E : Prop} (hgd : o.guard = none) (s x : Operand)
    (ho : o.op = .call { callee := .builtin .append, args := #[s, x], argTypes := #[22, 22] })
    (B : Nat) (A : Option Addr) (k ch : Nat) (vs : List Value) (hsv : a.eval s = .slice A k ch) (hown : OwnV wb 38 5 B A k ch vs) (hk : New wb w)
    (g c' : Nat) (us : List Value) (hx : a.eval x = .slice (some ⟨g, 0, none⟩) 1 c') (hb : Blk w g 38 us) (hul : us.length = 5) (h1 : ∀ u ∈ us, u.oneCell' = true) (hn : (k + 1) * 64 ≤ 140737488355328) (hbase : B ≤ wb.heap.size)
    (h : ∀ A2 c2 w', Hid (OwnV w' 38 5 B A2 (k + 1) c2 (vs ++ us)) → Hid (Kept (InRow A) wb w') → Hid (A2 = A ∨ ∃ y, A2 = some y ∧ wb.heap.size ≤ y.block) → Hid (Kept (InRow A) w w') → K (a.put o.dst (.slice A2 (k + 1) c2)) w') :
    if Region.wanted o (yielded ops a.tmps) = true then Oper.wp Try.prog o a w K Q else E := by
  obtain ⟨i0, hi, hz0, hz1, hz2⟩ := info_parts info_fact
  have hr : RowV w (some ⟨g, 0, none⟩) 1 i0.size us := by
    rw [hz1]
    exact ⟨by rw [hul], fun _ => ⟨g, 0, rfl, fun j v hj => by rw [Nat.zero_add, hb.cell]; exact hj⟩⟩
  have ho' : OwnV w 38 i0.size B A k ch vs := by rw [hz1]; exact hown.new hk
  refine step_append_rowV w hgd s x 22 ho 38 i0 (.agg #[.int .i64 0, .int .u8 0, .string ⟨#[]⟩, .int .i64 0, .slice none 0 0]) Try.underlying22 hi hz0 (by rw [hz1]; rfl) (by rw [hz1]; omega) B A k ch vs hsv ho' (some ⟨g, 0, none⟩) 1 c' us hx hr h1 (by rw [hz2]; omega) (by omega) (Nat.le_trans hbase hk.size) ?_
  intro A2 c2 w' h3 h4 h5
  refine h A2 c2 w' (by have := h3.out; rw [hz1] at this; exact this) ?_ ?_ ?_
  · refine (hk.mono (S' := InRow A) fun _ _ f => f.elim).grown h4.out fun q _ hA => ?_
    obtain ⟨a, ha, e⟩ := Option.map_eq_some_iff.1 hA
    exact ⟨a, ha, e⟩
  · rcases h5.out with e | e
    · exact .inl e
    · exact .inr ⟨_, e, hk.size⟩
  · refine (Kept.refl (InRow A) w).grown h4.out fun q _ hA => ?_
    obtain ⟨a, ha, e⟩ := Option.map_eq_some_iff.1 hA
    exact ⟨a, ha, e⟩

/-- What own answers, and leaves. -/
def OwnFP (w : World) (B : Nat) (Ao : Option Addr) (eo : List FE) (l : List FT) (e : Ending) (w' : World) : Prop :=
  ∃ A2 c2 es2, e = .returned (.slice A2 (eo.length + l.length) c2) ∧ fts es2 = l ∧ FOwn w' B A2 c2 (eo ++ es2) ∧ Kept (InRow Ao) w w' ∧ (∀ a, A2 = some a → InRow Ao a.block ∨ w.heap.size ≤ a.block)

theorem fts_len (es : List FE) : (fts es).length = es.length := by unfold fts; rw [List.length_map]
theorem fts_append (a b : List FE) : fts (a ++ b) = fts a ++ fts b := by unfold fts; rw [List.map_append]

/-- One fact more. -/
theorem FOwn.more {w5 w7 : World} {B k : Nat} {A A2 : Option Addr} {c c2 : Nat} {es : List FE} {x : FT} {A4 : Option Addr} {c4 : Nat} (h : FOwn w5 B A c es) (o4 : OwnB w7 5 B A4 c4 x.v)
    (hx : x.v.length ≤ 140737488351232 ∧ x.k.n.size ≤ maxLen) (k7 : Kept (InRow A) w5 w7) (hk : es.length = k)
    (o7 : OwnV w7 38 5 B A2 (k + 1) c2 (fes es ++ [.int .i64 x.k.i, .int .u8 (x.k.t : Nat), .string x.k.n, .int .i64 x.k.c, .slice A4 x.v.length c4])) : FOwn w7 B A2 c2 (es ++ [⟨x, A4, c4⟩]) := by
  refine ⟨?_, fun e he => ?_⟩
  · rw [List.length_append, fes_append, hk]
    exact o7
  · rcases List.mem_append.1 he with he | he
    · obtain ⟨h1, h2⟩ := h.2 e he
      refine ⟨h1.kept k7 fun a ha hr => ?_, h2⟩
      obtain ⟨b, hb, e2⟩ := hr
      exact (h1.at_ a ha).1.ne_of (e2 ▸ (h.1.at_ b hb).1) (by decide) rfl
    · simp only [List.mem_cons, List.not_mem_nil, or_false] at he
      subst he
      exact ⟨o4, hx⟩

set_option maxRecDepth 100000 in
set_option maxHeartbeats 6400000 in
theorem own_any (Ao : Option Addr) (m co : Nat) (eo : List FE) (A : Option Addr) (n c : Nat) (es : List FE) (B : Nat) (w : World) (ho : FOwn w B Ao co eo) (hm : eo.length = m) (hl : ∀ u, Kept (InRow Ao) w u → FIn u A n es)
    (hB : B ≤ w.heap.size) (hbytes : (m + n) * 64 ≤ 140737488355328) :
    Calls Try.prog 20 #[.slice Ao m co, .slice A n c] w (OwnFP w B Ao eo (fts es)) := by
  have HLE : Hid (es.length = n) := (hl w (Kept.refl _ _)).len
  have HL := Lib.hid hl
  have HM := Lib.hid hm
  have HO := Lib.hid ho
  clear hl hm ho
  go_enter Try.func20, Try.ntmps20
  go_wp2_with fail
  go_loopw [0, 9] (fun o i wr => ∃ (k : Nat) (A' : Option Addr) (c' : Nat) (es' : List FE), k ≤ n ∧ i = .int .i64 k ∧ o = .slice A' (m + k) c' ∧ Hid (FOwn wr B A' c' (eo ++ es')) ∧ Hid (fts es' = (fts es).take k) ∧ Hid (Kept (InRow Ao) w wr) ∧ Hid (∀ a, A' = some a → InRow Ao a.block ∨ w.heap.size ≤ a.block)) (fun _ i _ => n - (intOf i).toNat)
  case atStart => exact ⟨0, Ao, co, [], Nat.zero_le _, rfl, rfl, by simpa using HO, by simp [Hid, fts], Kept.refl _ _, fun a ha => .inl ⟨a, ha, rfl⟩⟩
  case round =>
    obtain ⟨k, A', c', es', hk, rfl, rfl, VO, VF, VK, VA⟩ := hrel
    by_cases hlt : k < n
    · obtain ⟨g, o, x, eA, hx, hok, x0, x1, x2, x3, x4⟩ := (HL.out wr VK.out).at_ (i := k) hlt
      subst eA
      have HLN : Hid ((eo ++ es').length = m + k) := by
        have h1 := congrArg List.length VF.out
        rw [fts_len, List.length_take, fts_len, HLE.out] at h1
        rw [Hid, List.length_append, HM.out, h1]
        omega
      have HX : Hid (fts es' ++ [x.f] = (fts es).take (k + 1)) := by
        have : (fts es)[k]? = some x.f := by unfold fts; rw [List.getElem?_map, hx]; rfl
        rw [Hid, List.take_add_one, this, VF.out]
        rfl
      have HOK := Lib.hid hok
      have hgl : g < wr.heap.size := World.block_lt_of_cell? wr _ x0
      obtain ⟨fx, Ax, cx⟩ := x
      obtain ⟨kx, vx⟩ := fx
      dsimp only at *
      obtain ⟨w5, hw5⟩ : ∃ w5, w5 = wr.alloc (.cells #[.int .i64 kx.i, .int .u8 (kx.t : Nat), .string kx.n, .int .i64 kx.c, .slice Ax vx.length cx] 38) := ⟨_, rfl⟩
      have n5 : New wr w5 := by rw [hw5]; exact (Kept.refl _ _).alloc _
      have B5 : Hid (∀ u, New w5 u → Blk u wr.heap.size 38 [.int .i64 kx.i, .int .u8 (kx.t : Nat), .string kx.n, .int .i64 kx.c, .slice Ax vx.length cx]) := fun u hu => by rw [hw5] at hu; exact (Blk.made wr _ _).kept hu id
      have V5 := Lib.hid (VO.out.new n5)
      have K5 := Lib.hid (VK.out.new n5)
      have CL : Hid (∀ u, New w5 u → Calls Try.prog 23 #[.slice Ax vx.length cx] u (RetL u vx)) := fun u hu =>
        clone_any Ax vx.length cx vx u ((HOK.out.1.new n5).new hu) HOK.out.2.2.1 HOK.out.2.1
      have hB5 : B ≤ w5.heap.size := Nat.le_trans hB K5.out.size
      have HW5 := Lib.hid hw5
      have hbt : (m + k + 1) * 64 ≤ 140737488355328 := by omega
      clear hw5 n5 hx hok VO VK
      go_wp2_with fail
      rw [← HW5.out]
      clear HW5 x0 x1 x2 x3 x4
      generalize wr.heap.size = g5 at *
      have V5r : Hid (OwnV w5 38 5 B A' (m + k) c' (fes (eo ++ es'))) := by have := V5.out.1; rw [HLN.out] at this; exact this
      have S5 : Hid (∀ u, New w5 u → u.cell? ⟨g5, 0, none⟩ = some (.int .i64 kx.i) ∧ u.cell? ⟨g5, 1, none⟩ = some (.int .u8 (kx.t : Nat)) ∧ u.cell? ⟨g5, 2, none⟩ = some (.string kx.n) ∧ u.cell? ⟨g5, 3, none⟩ = some (.int .i64 kx.c) ∧ u.cell? ⟨g5, 4, none⟩ = some (.slice Ax vx.length cx)) := fun u hu =>
        ⟨(B5.out u hu).cell 0, (B5.out u hu).cell 1, (B5.out u hu).cell 2, (B5.out u hu).cell 3, (B5.out u hu).cell 4⟩
      obtain ⟨q0, q1, q2, q3, q4⟩ := S5.out w5 (Kept.refl _ _)
      have ONE : Hid (∀ (A4 : Option Addr) (c4 : Nat), ∀ u ∈ [Value.int .i64 kx.i, .int .u8 (kx.t : Nat), .string kx.n, .int .i64 kx.c, .slice A4 vx.length c4], u.oneCell') := by intro A4 c4 u hu; simp at hu; rcases hu with rfl | rfl | rfl | rfl | rfl <;> rfl
      have MK : Hid (∀ (wC : World) (A4 : Option Addr) (c4 : Nat), Blk (wC.alloc (.cells #[.int .i64 kx.i, .int .u8 (kx.t : Nat), .string kx.n, .int .i64 kx.c, .slice A4 vx.length c4] 38)) wC.heap.size 38 [.int .i64 kx.i, .int .u8 (kx.t : Nat), .string kx.n, .int .i64 kx.c, .slice A4 vx.length c4]) := fun wC A4 c4 => Blk.made wC _ _
      have HOK2 : Hid (vx.length ≤ 140737488351232 ∧ kx.n.size ≤ maxLen) := HOK.out.2.2
      have hg5 : g5 < w5.heap.size := (B5.out w5 (Kept.refl _ _)).lt
      clear HOK
      go_region_law (first
        | (with_reducible refine step_append_fact (wb := w5) (o := ⟨some 21, _, _, _, _, _⟩) rfl (.tmp 13) (.tmp 20) rfl B A' (m + k) c' (fes (eo ++ es')) ?_ V5r.out (by first | exact NC.out.alloc _ | exact (NC.out.alloc _).drew) wC.heap.size 1 [.int .i64 kx.i, .int .u8 (kx.t : Nat), .string kx.n, .int .i64 kx.c, .slice A4 vx.length c4] ?_ (by first | exact MK.out wC A4 c4 | exact (MK.out wC A4 c4).drew) rfl (ONE.out A4 c4) hbt hB5 ?_; (next => go_simp); (next => go_simp); intro A7 c7 w7 O7 K7 D7 K8)
        | (go_simp; go_at_call 23; refine (CL.out _ (by first | exact Kept.refl _ _ | exact (Kept.refl _ _).drew)).mono ?_; rintro e wC ⟨A4, c4, rfl, o4, k4⟩; have NC : Hid (New w5 wC) := (by first | exact k4 | exact (Kept.refl _ _).drew.new k4); have O4 : Hid (OwnB wC 5 B A4 c4 vx) := o4.mono hB5; clear o4 k4; obtain ⟨s0, s1, s2, s3, s4⟩ := S5.out wC NC.out))
      all_goals
        have O8 : Hid (OwnB w7 5 B A4 c4 vx) := (O4.out.new (w' := wC.alloc (.cells #[.int .i64 kx.i, .int .u8 (kx.t : Nat), .string kx.n, .int .i64 kx.c, .slice A4 vx.length c4] 38)) ((Kept.refl _ _).alloc _)).kept (S := InRow A')
          (by first | exact K8.out | exact ((Kept.refl (InRow A') _).drew.trans K8.out fun _ _ h => h)) fun a ha ⟨b, hb, e2⟩ => (O4.out.at_ a ha).1.ne_of (e2 ▸ ((V5r.out.new NC.out).at_ b hb).1) (by decide) rfl
        have E1 : Hid (FOwn w7 B A7 c7 (eo ++ (es' ++ [⟨⟨kx, vx⟩, A4, c4⟩]))) := by
          rw [← List.append_assoc]
          exact FOwn.more V5.out O8.out HOK2.out K7.out HLN.out O7.out
        have E2 : Hid (fts (es' ++ [⟨⟨kx, vx⟩, A4, c4⟩]) = (fts es).take (k + 1)) := by rw [Hid, fts_append]; exact HX.out
        have E3 : Hid (Kept (InRow Ao) w w7) := K5.out.trans K7.out fun i hi ⟨b, hb, e2⟩ => by
          rcases VA.out b hb with h1 | h1
          · rwa [e2] at h1
          · omega
        have E4 : Hid (∀ a, A7 = some a → InRow Ao a.block ∨ w.heap.size ≤ a.block) := by
          intro a ha
          rcases D7.out with e | ⟨y, e, hy⟩
          · exact VA.out a (e ▸ ha)
          · rw [e] at ha
            injection ha with ha
            subst ha
            exact .inr (Nat.le_trans K5.out.size hy)
        clear O7 K7 D7 K8 O4 O8 V5 V5r NC VA VF s0 s1 s2 s3 s4
        go_wp2
        go_roundw
        case rel => exact ⟨k + 1, A7, c7, _, by omega, by go_num, by rw [Nat.add_assoc], E1, E2, E3, E4⟩
        case measure => simp [intOf]; omega
    · have hkn : k = n := by omega
      have E9 : Hid (OwnFP w B Ao eo (fts es) (.returned (.slice A' (m + k) c')) wr) := by
        have hf := VF.out
        rw [List.take_of_length_le (by rw [fts_len, HLE.out]; omega)] at hf
        refine ⟨A', c', es', ?_, hf, VO.out, VK.out, VA.out⟩
        rw [HM.out, fts_len, HLE.out, hkn]
      clear VO VF VK VA
      go_wp2
      go_ret
      exact E9.out
end Go.Proofs.Ytgdhbnhdmhogkaa
