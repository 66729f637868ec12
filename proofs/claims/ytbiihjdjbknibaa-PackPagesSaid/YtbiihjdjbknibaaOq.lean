/-
  Contracts: bytes spoilt again and again; lists of facts and of changes copied; lists of changes compared.
  Contracts: lists of changes copied, compared.
-/
import Derived.Test.YtbiihjdjbknibaaOd
namespace Go.Proofs.Ytbiihjdjbknibaa
set_option maxRecDepth 100000

section
open Go.ChangeShapes Go.WideShapes Go.ChangeAt Go.RowKit

/-- Bytes of the call's own, whatever they are. -/
def OwnR (w : World) (B : Nat) (A : Option Addr) (c n : Nat) : Prop :=
  (A = none ∧ c = 0 ∧ n = 0) ∨ ∃ (g : Nat) (xs : List Nat), A = some ⟨g, 0, none⟩ ∧ B ≤ g ∧ Blk w g 5 (xs.map byt) ∧ (∀ x ∈ xs, x < 256) ∧ xs.length = c ∧ n ≤ c ∧ c ≤ maxLen
theorem OwnB.ownR {w : World} {B : Nat} {A : Option Addr} {c : Nat} {l : List Nat} (h : OwnB w 5 B A c l) : OwnR w B A c l.length := by
  rcases h with ⟨hb, ⟨rfl, rfl, rfl⟩ | ⟨g, sp, rfl, hB, hblk, hsp, hc, hm⟩⟩
  · exact .inl ⟨rfl, rfl, rfl⟩
  · refine .inr ⟨g, l ++ sp, rfl, hB, hblk, fun x hx => ?_, by rw [List.length_append]; omega, by omega, hm⟩
    rcases List.mem_append.1 hx with h | h
    · exact hb x h
    · exact hsp x h
theorem OwnR.kept {S : Nat → Prop} {w w' : World} {B c n : Nat} {A : Option Addr} (h : OwnR w B A c n) (hk : Kept S w w') (hn : ∀ a, A = some a → ¬ S a.block) : OwnR w' B A c n := by
  rcases h with h | ⟨g, xs, rfl, h1, h2, h3⟩
  · exact .inl h
  · exact .inr ⟨g, xs, rfl, h1, h2.kept hk (hn _ rfl), h3⟩
theorem OwnR.at_ {w : World} {B c n : Nat} {A : Option Addr} (h : OwnR w B A c n) : ∀ a, A = some a → At w a.block 5 ∧ B ≤ a.block := by
  rintro a rfl
  rcases h with ⟨h, _⟩ | ⟨g, xs, h, hB, hblk, _⟩
  · cases h
  · injection h with h; subst h; exact ⟨hblk.at_, hB⟩

theorem set_byt (xs : List Nat) (k y : Nat) (v : Value) (hv : v = byt y) : (xs.map byt).set k v = (xs.set k y).map byt := by
  subst hv
  rw [List.map_set]

def SpoilQ (w : World) (A : Option Addr) (c : Nat) (e : Ending) (w' : World) : Prop :=
  e = .returned (.tuple #[]) ∧ Kept (InRow A) w w' ∧ ∀ g, A = some ⟨g, 0, none⟩ → ∃ xs : List Nat, xs.length = c ∧ (∀ x ∈ xs, x < 256) ∧ Blk w' g 5 (xs.map byt)

set_option maxRecDepth 100000 in
set_option maxHeartbeats 800000 in
theorem spoilR_any (A : Option Addr) (c B by_ n : Nat) (w : World) (h : OwnR w B A c n) :
    Calls Try.prog 21 #[.slice A n c, .int .u8 (by_ : Nat)] w (SpoilQ w A c) := by
  rcases h with ⟨rfl, rfl, rfl⟩ | ⟨g, ys, rfl, hB, hblk, hall, hlen, hle1, hm⟩
  · go_enter Try.func21, Try.ntmps21
    go_wp2
    refine wp_loop_rounds 1 ?_
    rw [rounds_succ]
    go_wp2
    go_end0
    exact ⟨rfl, Kept.refl _ _, fun g h => by cases h⟩
  · have HB := Lib.hid hblk
    have HA := Lib.hid hall
    have HLen := Lib.hid hlen
    unfold maxLen at hm
    clear hblk hall hlen
    go_enter Try.func21, Try.ntmps21
    go_wp2
    go_loopw [5] (fun i wr => ∃ (k : Nat) (xs : List Nat), k ≤ c ∧ i = .int .i64 k ∧ xs.length = c ∧ (∀ x ∈ xs, x < 256) ∧ Blk wr g 5 (xs.map byt) ∧ Kept (InRow (some ⟨g, 0, none⟩)) w wr) (fun i _ => c - (intOf i).toNat)
    case atStart => exact ⟨0, ys, by omega, rfl, HLen.out, HA.out, HB.out, Kept.refl _ _⟩
    case round =>
      obtain ⟨k, xs, hk, rfl, hl, hbd, hblk, hkept⟩ := hrel
      have HL := Lib.hid hl
      have HBD := Lib.hid hbd
      have HBK := Lib.hid hblk
      have HK := Lib.hid hkept
      clear hl hbd hblk hkept HB HA HLen
      by_cases hlt : k < c
      · have hkl : k < xs.length := by rw [HL.out]; exact hlt
        have hcell : wr.cell? ⟨g, k, none⟩ = some (.int .u8 ((xs[k] : Nat) : Int)) := by
          rw [HBK.out.cell, List.getElem?_map, List.getElem?_eq_getElem hkl]
          rfl
        have hxk : xs[k] < 256 := HBD.out _ (List.getElem_mem hkl)
        have hfree := HBK.out.free k
        generalize xs[k] = x at *
        go_wp2
        go_roundw
        case rel =>
          have hb1 := HBK.out.put k (.int .u8 (((x : Int) + by_) % 256))
          rw [set_byt xs k ((x + by_) % 256) (.int .u8 (((x : Int) + by_) % 256)) (by unfold byt; rfl)] at hb1
          refine ⟨k + 1, xs.set k ((x + by_) % 256), by omega, by go_num, by rw [List.length_set, HL.out], ?_, hb1, HK.out.setCell (p := ⟨g, k, none⟩) (fun _ => ⟨⟨g, 0, none⟩, rfl, rfl⟩) _⟩
          intro y hy
          rcases List.mem_or_eq_of_mem_set hy with h | h
          · exact HBD.out y h
          · omega
        case measure => simp [intOf]; omega
      · go_wp2
        go_end0
        refine ⟨rfl, HK.out, fun g' hg' => ?_⟩
        injection hg' with hg'
        injection hg' with hg'
        subst hg'
        exact ⟨xs, HL.out, HBD.out, HBK.out⟩
/-- Others behind it. -/
theorem OwnR.spoilt {w w' : World} {B B' c c' n n' : Nat} {A A' : Option Addr} {e : Ending} (h : OwnR w B A' c' n') (h0 : OwnR w B' A c n) (hs : SpoilQ w A c e w') : OwnR w' B A' c' n' := by
  by_cases hA : ∀ a, A' = some a → ¬ InRow A a.block
  · exact h.kept hs.2.1 hA
  · rcases h with h | ⟨g, xs, rfl, h1, h2, h3, h4, h5⟩
    · exact .inl h
    · have hg : InRow A g := Classical.byContradiction fun hh => hA fun a ha => by injection ha with ha; subst ha; exact hh
      obtain ⟨a, rfl, ha⟩ := hg
      rcases h0 with ⟨h, _⟩ | ⟨g', ys, h, _, k2, _, k4, _⟩
      · cases h
      · injection h with h
        subst h
        have ha : g' = g := ha
        subst ha
        obtain ⟨zs, z1, z2, z3⟩ := hs.2.2 g' rfl
        have : (ys.map byt).length = (xs.map byt).length := by
          unfold Blk at h2 k2
          rw [h2] at k2
          injection k2 with k2
          injection k2 with k2
          have := congrArg Array.size k2
          simpa using this.symm
        rw [List.length_map, List.length_map, k4, h4] at this
        exact .inr ⟨g', zs, rfl, h1, z3, z2, by rw [z1]; exact this, h5⟩

/-- A list's copy. -/
def CpP (w : World) (l : List FT) (e : Ending) (w' : World) : Prop := ∃ A c es, e = .returned (.slice A es.length c) ∧ fts es = l ∧ FOwn w' w.heap.size A c es ∧ New w w'

set_option maxRecDepth 100000 in
set_option maxHeartbeats 6400000 in
theorem copyFacts_any (A : Option Addr) (n c : Nat) (es : List FE) (w : World) (h : FIn w A n es) (hb : n * 64 ≤ 140737488355328) :
    Calls Try.prog 20 #[.slice A n c] w (CpP w (fts es)) := by
  have HL : Hid ((fts es).length = n) := by rw [Hid, fts_lenE, h.len]
  have H := Lib.hid h
  have hnm : n ≤ 2199023255552 := by omega
  clear h
  go_enter Try.func20, Try.ntmps20
  go_wp2_with fail
  go_loopw [3, 4] (fun o i wr => ∃ (k : Nat) (A' : Option Addr) (c' : Nat) (es' : List FE), k ≤ n ∧ i = .int .i64 k ∧ o = .slice A' k c' ∧ Hid (FOwn wr w.heap.size A' c' es') ∧ Hid (fts es' = (fts es).take k) ∧ Hid (New w wr)) (fun _ i _ => n - (intOf i).toNat)
  case atStart => exact ⟨0, none, 0, [], Nat.zero_le _, rfl, rfl, FOwn.nil _ _, rfl, Kept.refl _ _⟩
  case round =>
    obtain ⟨k, A', c', es', hk, rfl, rfl, VO, VF, VN⟩ := hrel
    have HLN : Hid (es'.length = k) := by
      have h1 := congrArg List.length VF.out
      rw [fts_lenE, List.length_take, HL.out] at h1
      rw [Hid, h1]
      omega
    by_cases hlt : k < n
    · obtain ⟨g, o, x, eA, hx, hok, _, _, _, _, _⟩ := (H.out.new VN.out).at_ (i := k) hlt
      subst eA
      have HX : Hid (fts es' ++ [x.f] = (fts es).take (k + 1)) := by
        have : (fts es)[k]? = some x.f := by unfold fts; rw [List.getElem?_map, hx]; rfl
        rw [Hid, List.take_add_one, this, VF.out]
        rfl
      have S5 : Hid (∀ u, New w u → u.cell? ⟨g, o + k * 5, none⟩ = some (.int .i64 x.f.k.i) ∧ u.cell? ⟨g, o + k * 5 + 1, none⟩ = some (.int .u8 (x.f.k.t : Nat)) ∧ u.cell? ⟨g, o + k * 5 + 2, none⟩ = some (.string x.f.k.n) ∧ u.cell? ⟨g, o + k * 5 + 3, none⟩ = some (.int .i64 x.f.k.c) ∧ u.cell? ⟨g, o + k * 5 + 4, none⟩ = some (.slice x.A x.f.v.length x.c)) := fun u hu => by
        obtain ⟨g', o', y', eA', hy', _, z0, z1, z2, z3, z4⟩ := (H.out.new hu).at_ (i := k) hlt
        injection eA' with eA'
        injection eA' with e1 e2
        subst e1 e2
        rw [hx] at hy'
        injection hy' with hy'
        subst hy'
        exact ⟨z0, z1, z2, z3, z4⟩
      have CL : Hid (∀ u, New w u → Calls Try.prog 43 #[.slice x.A x.f.v.length x.c] u (RetL u x.f.v)) := fun u hu =>
        copy_any x.A x.f.v.length x.c x.f.v u ((H.out.new hu).2 x (List.mem_of_getElem? hx)).1 hok.2.2.1
      have HOK2 : Hid (x.f.v.length ≤ 140737488351232 ∧ x.f.k.n.size ≤ maxLen) := hok.2.2
      clear hx hok
      obtain ⟨fx, Ax, cx⟩ := x
      obtain ⟨kx, vx⟩ := fx
      dsimp only at *
      have hB5 : w.heap.size ≤ wr.heap.size := VN.out.size
      have hbt : (k + 1) * 64 ≤ 140737488355328 := Nat.le_trans (Nat.mul_le_mul_right 64 (by omega : k + 1 ≤ n)) hb
      have V5r : Hid (OwnV wr 27 5 w.heap.size A' k c' (fes es')) := by have := VO.out.1; rw [HLN.out] at this; exact this
      have ONE : Hid (∀ (A4 : Option Addr) (c4 : Nat), ∀ u ∈ [Value.int .i64 kx.i, .int .u8 (kx.t : Nat), .string kx.n, .int .i64 kx.c, .slice A4 vx.length c4], u.oneCell') := by intro A4 c4 u hu; simp at hu; rcases hu with rfl | rfl | rfl | rfl | rfl <;> rfl
      have MK : Hid (∀ (wC : World) (A4 : Option Addr) (c4 : Nat), Blk (wC.alloc (.cells #[.int .i64 kx.i, .int .u8 (kx.t : Nat), .string kx.n, .int .i64 kx.c, .slice A4 vx.length c4] 27)) wC.heap.size 27 [.int .i64 kx.i, .int .u8 (kx.t : Nat), .string kx.n, .int .i64 kx.c, .slice A4 vx.length c4]) := fun wC A4 c4 => Blk.made wC _ _
      have s1 : (0 : Int) ≤ (k : Int) := by omega
      have s3 : (k : Int) < (n : Int) := by omega
      obtain ⟨q0, q1, q2, q3, q4⟩ := S5.out wr VN.out
      go_wp2_with fail
      go_region_law (first
        | (with_reducible refine step_append_fact (wb := wr) (o := ⟨some 25, _, _, _, _, _⟩) rfl (.tmp 11) (.tmp 24) rfl w.heap.size A' k c' (fes es') ?_ V5r.out (by first | exact NC.out.alloc _ | exact (NC.out.alloc _).drew) wC.heap.size 1 [.int .i64 kx.i, .int .u8 (kx.t : Nat), .string kx.n, .int .i64 kx.c, .slice A4 vx.length c4] ?_ (by first | exact MK.out wC A4 c4 | exact (MK.out wC A4 c4).drew) rfl (ONE.out A4 c4) hbt hB5 ?_; (next => go_simp); (next => go_simp); intro A7 c7 w7 O7 K7 D7 K8)
        | (go_simp; go_at_call 43; refine (CL.out _ (by first | exact VN.out | exact VN.out.drew)).mono ?_; rintro e wC ⟨A4, c4, rfl, o4, k4⟩; have NC : Hid (New wr wC) := (by first | exact k4 | exact (Kept.refl _ _).drew.new k4); have O4 : Hid (OwnB wC 5 w.heap.size A4 c4 vx) := o4.mono hB5; clear o4 k4; obtain ⟨s0, s1, s2, s3, s4⟩ := S5.out wC (VN.out.new NC.out)))
      all_goals
        have O8 : Hid (OwnB w7 5 w.heap.size A4 c4 vx) := (O4.out.new (w' := wC.alloc (.cells #[.int .i64 kx.i, .int .u8 (kx.t : Nat), .string kx.n, .int .i64 kx.c, .slice A4 vx.length c4] 27)) ((Kept.refl _ _).alloc _)).kept (S := InRow A')
          (by first | exact K8.out | exact ((Kept.refl (InRow A') _).drew.trans K8.out fun _ _ h => h)) fun a ha ⟨b, hb, e2⟩ => (O4.out.at_ a ha).1.ne_of (e2 ▸ ((V5r.out.new NC.out).at_ b hb).1) (by decide) rfl
        have E1 : Hid (FOwn w7 w.heap.size A7 c7 (es' ++ [⟨⟨kx, vx⟩, A4, c4⟩])) := FOwn.more VO.out O8.out HOK2.out K7.out HLN.out O7.out
        have E2 : Hid (fts (es' ++ [⟨⟨kx, vx⟩, A4, c4⟩]) = (fts es).take (k + 1)) := by rw [Hid, fts_append]; exact HX.out
        have E3 : Hid (New w w7) := new_row VN.out V5r.out K7.out
        clear O7 K7 D7 K8 O4 O8 VO V5r NC VF s0 s1 s2 s3 s4 q0 q1 q2 q3 q4
        go_wp2
        go_roundw
        case rel => exact ⟨k + 1, A7, c7, _, by omega, by go_num, rfl, E1, E2, E3⟩
        case measure => simp [intOf]; omega
    · have hkn : k = n := by omega
      have E9 : Hid (CpP w (fts es) (.returned (.slice A' k c')) wr) := by
        have hf := VF.out
        rw [List.take_of_length_le (by rw [HL.out]; omega)] at hf
        exact ⟨A', c', es', by rw [HLN.out], hf, VO.out, VN.out⟩
      clear VO VF VN
      go_wp2
      go_ret
      exact E9.out

end

section
open Go.ChangeShapes Go.WideShapes Go.ChangeAt Go.RowKit

/-- Changes of the call's own. -/
def COwn (w : World) (B : Nat) (A : Option Addr) (c : Nat) (es : List CE) : Prop :=
  OwnV w 78 6 B A es.length c (ces es) ∧ ∀ e ∈ es, OwnB w 5 B e.A e.c e.f.v ∧ e.f.v.length ≤ 140737488351232 ∧ e.f.k.n.size ≤ maxLen
theorem cts_lenE (es : List CE) : (cts es).length = es.length := by unfold cts; rw [List.length_map]
section
variable {w w' : World} {A : Option Addr} {c B : Nat} {es : List CE}
theorem COwn.nil (w : World) (B : Nat) : COwn w B none 0 [] := ⟨OwnV.nil _ _ _ _, by simp⟩
theorem COwn.new (h : COwn w B A c es) (hk : New w w') : COwn w' B A c es := ⟨h.1.new hk, fun e he => ⟨(h.2 e he).1.new hk, (h.2 e he).2⟩⟩
theorem COwn.in_ (h : COwn w B A c es) : CIn w A es.length es := by
  refine ⟨h.1.row, fun e he => ?_⟩
  obtain ⟨h1, h2, h3⟩ := h.2 e he
  refine ⟨h1.bts, fun hA => ?_, h2, h3⟩
  rcases h1.2 with ⟨_, e1, e2⟩ | ⟨g, sp, e1, _⟩
  · exact ⟨e1, by rw [e2]; rfl⟩
  · rw [hA] at e1; cases e1
theorem COwn.none (h : COwn w B A c es) (hA : A = none) : c = 0 ∧ es.length = 0 := by
  obtain ⟨_, h2, _, h4⟩ := h.1
  rcases h4 with ⟨_, h⟩ | ⟨g, sp, h, _⟩
  · omega
  · rw [hA] at h; cases h
theorem COwn.more {w5 w7 : World} {B k : Nat} {A A2 : Option Addr} {c c2 : Nat} {es : List CE} {x : CT} {A4 : Option Addr} {c4 : Nat} (h : COwn w5 B A c es) (o4 : OwnB w7 5 B A4 c4 x.v)
    (hx : x.v.length ≤ 140737488351232 ∧ x.k.n.size ≤ maxLen) (k7 : Kept (InRow A) w5 w7) (hk : es.length = k)
    (o7 : OwnV w7 78 6 B A2 (k + 1) c2 (ces es ++ [.int .i64 x.k.i, .int .u8 (x.k.t : Nat), .string x.k.n, .int .i64 x.k.c, .slice A4 x.v.length c4, .bool x.g])) : COwn w7 B A2 c2 (es ++ [⟨x, A4, c4⟩]) := by
  refine ⟨?_, fun e he => ?_⟩
  · rw [List.length_append, ces_append, hk]
    exact o7
  · rcases List.mem_append.1 he with he | he
    · obtain ⟨h1, h2⟩ := h.2 e he
      refine ⟨h1.kept k7 fun a ha hr => ?_, h2⟩
      obtain ⟨b, hb, e2⟩ := hr
      exact (h1.at_ a ha).1.ne_of (e2 ▸ (h.1.at_ b hb).1) (by decide) rfl
    · simp only [List.mem_cons, List.not_mem_nil, or_false] at he
      subst he
      exact ⟨o4, hx⟩
end

/-- One change more behind a row of the call's own, at a step of a region that draws. -/
theorem step_append_change {w wb : World} {ops : Array Oper} {o : Oper} {a : Act} {K : Act → World → Prop} {Q : Exit → Act → World → Prop} {E : Prop} (hgd : o.guard = none) (s x : Operand)
    (ho : o.op = .call { callee := .builtin .append, args := #[s, x], argTypes := #[40, 40] })
    (B : Nat) (A : Option Addr) (k ch : Nat) (vs : List Value) (hsv : a.eval s = .slice A k ch) (hown : OwnV wb 78 6 B A k ch vs) (hk : New wb w)
    (g c' : Nat) (us : List Value) (hx : a.eval x = .slice (some ⟨g, 0, none⟩) 1 c') (hb : Blk w g 78 us) (hul : us.length = 6) (h1 : ∀ u ∈ us, u.oneCell' = true) (hn : (k + 1) * 72 ≤ 140737488355328) (hbase : B ≤ wb.heap.size)
    (h : ∀ A2 c2 w', Hid (OwnV w' 78 6 B A2 (k + 1) c2 (vs ++ us)) → Hid (Kept (InRow A) wb w') → Hid (A2 = A ∨ ∃ y, A2 = some y ∧ wb.heap.size ≤ y.block) → Hid (Kept (InRow A) w w') → K (a.put o.dst (.slice A2 (k + 1) c2)) w') :
    if Region.wanted o (yielded ops a.tmps) = true then Oper.wp Try.prog o a w K Q else E := by
  obtain ⟨i0, hi, hz0, hz1, hz2⟩ := info_parts info_change
  have hr : RowV w (some ⟨g, 0, none⟩) 1 i0.size us := by
    rw [hz1]
    exact ⟨by rw [hul], fun _ => ⟨g, 0, rfl, fun j v hj => by rw [Nat.zero_add, hb.cell]; exact hj⟩⟩
  have ho' : OwnV w 78 i0.size B A k ch vs := by rw [hz1]; exact hown.new hk
  refine step_append_rowV w hgd s x 40 ho 78 i0 (.agg #[.int .i64 0, .int .u8 0, .string ⟨#[]⟩, .int .i64 0, .slice none 0 0, .bool false]) Try.underlying40 hi hz0 (by rw [hz1]; rfl) (by rw [hz1]; omega) B A k ch vs hsv ho' (some ⟨g, 0, none⟩) 1 c' us hx hr h1 (by rw [hz2]; omega) (by omega) (Nat.le_trans hbase hk.size) ?_
  intro A2 c2 w' h3 h4 h5
  refine h A2 c2 w' (by have := h3.out; rw [hz1] at this; exact this) ?_ ?_ ?_
  · refine (hk.mono (S' := InRow A) fun _ _ f => f.elim).grown h4.out fun q _ hA => ?_
    obtain ⟨a, ha, e⟩ := Option.map_eq_some_iff.1 hA
    exact ⟨a, ha, e⟩
  · rcases h5.out with e | e
    · exact .inl e
    · exact .inr ⟨_, e, hk.size⟩
  · refine (Kept.refl (InRow A) w).grown h4.out fun q _ hA => ?_
    obtain ⟨a, ha, e⟩ := Option.map_eq_some_iff.1 hA
    exact ⟨a, ha, e⟩

/-- A list of changes: its copy. -/
def CcP (w : World) (l : List CT) (e : Ending) (w' : World) : Prop := ∃ A c es, e = .returned (.slice A es.length c) ∧ cts es = l ∧ COwn w' w.heap.size A c es ∧ New w w'

end

end Go.Proofs.Ytbiihjdjbknibaa
