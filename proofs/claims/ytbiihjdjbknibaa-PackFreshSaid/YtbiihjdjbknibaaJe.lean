/-
  Contracts: the body of changes, its page, how long it is, of the program.
-/
import Derived.Test.YtbiihjdjbknibaaJb
import Derived.Test.YtbiihjdjbknibaaSo
namespace Go.Proofs.Ytbiihjdjbknibaa
set_option maxRecDepth 100000
open Go.RowKit

/-- May changes be a page's? -/
def tlOk (l : List CT) : Bool := decide (1 ≤ l.length ∧ l.length ≤ 255) && l.all mayC
/-- Their body, as far as it is made. -/
def rbK (l : List CT) (k : Nat) : List Nat := l.length :: (l.take k).flatMap chB
def tlL (l : List CT) : List Nat := if tlOk l = true then rbK l l.length else []
def tlE (l : List CT) : Int := if tlOk l = true then 0 else 2
/-- Their page, or the error. -/
def puL (n : Int) (l : List CT) : List Nat := if tlOk l = true then sPutL n 2 (rbK l l.length) else []
def puE (n : Int) (l : List CT) : Int := if tlOk l = true then sPutE n 2 (rbK l l.length) else 2

theorem tlOk_all {l : List CT} (h : tlOk l = true) : 1 ≤ l.length ∧ l.length ≤ 255 ∧ ∀ f ∈ l, mayC f = true := by
  unfold tlOk at h
  rw [Bool.and_eq_true] at h
  have := of_decide_eq_true h.1
  exact ⟨this.1, this.2, List.all_eq_true.1 h.2⟩

theorem tlOk_of {l : List CT} (h1 : 1 ≤ l.length) (h2 : l.length ≤ 255) (h : ∀ f ∈ l, mayC f = true) : tlOk l = true := by
  unfold tlOk
  rw [Bool.and_eq_true]
  exact ⟨decide_eq_true ⟨h1, h2⟩, List.all_eq_true.2 h⟩

theorem tlOk_no {l : List CT} (h : ¬ (1 ≤ l.length ∧ l.length ≤ 255) ∨ ∃ f ∈ l, mayC f = false) : tlOk l = false := by
  cases hb : tlOk l
  · rfl
  · obtain ⟨a, b, c⟩ := tlOk_all hb
    rcases h with h | ⟨f, hf, hm⟩
    · exact absurd ⟨a, b⟩ h
    · rw [c f hf] at hm; cases hm

theorem tl_no {l : List CT} (h : tlOk l = false) : tlL l = [] ∧ tlE l = 2 := by unfold tlL tlE; rw [h]; exact ⟨rfl, rfl⟩

theorem tl_yes {l : List CT} (h : tlOk l = true) : tlL l = rbK l l.length ∧ tlE l = 0 := by unfold tlL tlE; rw [h]; exact ⟨rfl, rfl⟩

theorem flat_len : ∀ (l : List CT), (∀ f ∈ l, mayC f = true) → (l.flatMap chB).length ≤ 273 * l.length
  | [], _ => by simp
  | f :: r, h => by
    have h1 := chB_len (h f List.mem_cons_self)
    have h2 := flat_len r fun g hg => h g (List.mem_cons_of_mem _ hg)
    rw [List.flatMap_cons, List.length_append, List.length_cons]
    omega

theorem rbK_len {l : List CT} {k : Nat} (hk : k ≤ 255) (h : ∀ f ∈ l.take k, mayC f = true) : (rbK l k).length ≤ 69616 := by
  have := flat_len _ h
  have h2 : (l.take k).length ≤ k := List.length_take_le _ _
  have h3 : 273 * (l.take k).length ≤ 273 * 255 := Nat.mul_le_mul_left _ (by omega)
  unfold rbK
  rw [List.length_cons]
  omega

theorem rbK_next {l : List CT} {k : Nat} {f : CT} (h : l[k]? = some f) : rbK l (k + 1) = rbK l k ++ chB f := by
  unfold rbK
  rw [List.take_add_one, h]
  simp

theorem take_next {l : List CT} {k : Nat} {f : CT} (h : l[k]? = some f) (hf : mayC f = true) (ha : ∀ g ∈ l.take k, mayC g = true) : ∀ g ∈ l.take (k + 1), mayC g = true := by
  rw [List.take_add_one, h]
  intro g hg
  rcases List.mem_append.1 hg with hg | hg
  · exact ha g hg
  · simp at hg; subst hg; exact hf

theorem cc6 {w : World} {g : Nat} {i z : Int} {t n c : Nat} {s : ByteArray} {A : Option Addr} {b : Bool} (h : Blk w g 78 [.int .i64 i, .int .u8 (t : Nat), .string s, .int .i64 z, .slice A n c, .bool b]) :
    w.cell? ⟨g, 0, none⟩ = some (.int .i64 i) ∧ w.cell? ⟨g, 1, none⟩ = some (.int .u8 (t : Nat)) ∧ w.cell? ⟨g, 2, none⟩ = some (.string s) ∧ w.cell? ⟨g, 3, none⟩ = some (.int .i64 z) ∧ w.cell? ⟨g, 4, none⟩ = some (.slice A n c) ∧ w.cell? ⟨g, 5, none⟩ = some (.bool b) :=
  ⟨h.cell 0, h.cell 1, h.cell 2, h.cell 3, h.cell 4, h.cell 5⟩

theorem retB_2 {w u : World} {l : List Nat} {E : Int} (h : l = [] ∧ E = 2) (k : New w u) : RetB w l E (.returned (.tuple #[.slice none 0 0, .int .i64 2])) u := by
  obtain ⟨rfl, rfl⟩ := h
  exact RetB.nil _ _ _ k

set_option maxHeartbeats 3200000 in
theorem tell_any (A : Option Addr) (n c : Nat) (es : List CE) (w : World) (h : CIn w A n es) (hn : n ≤ maxLen) :
    Calls Try.prog 45 #[.slice A n c] w (RetB w (tlL (cts es)) (tlE (cts es))) := by
  obtain ⟨i0, hi, hz0, hz1, hz2⟩ := info_parts info_u8
  have HL : Hid ((cts es).length = n) := by rw [Hid, cts_lenE, h.len]
  have H := Lib.hid h
  unfold maxLen at hn
  have HNO : Hid (tlOk (cts es) = false → tlL (cts es) = [] ∧ tlE (cts es) = 2) := tl_no
  have HYES : Hid (tlOk (cts es) = true → tlL (cts es) = rbK (cts es) (cts es).length ∧ tlE (cts es) = 0) := tl_yes
  clear h
  generalize tlL (cts es) = tl at *
  generalize tlE (cts es) = te at *
  by_cases hn1 : 1 ≤ n
  · by_cases hn2 : n ≤ 255
    · have d0 : ((n : Int) == 0) = false := beq_eq_false_iff_ne.2 (by omega)
      have d1 : decide (255 < (n : Int)) = false := decide_eq_false (by omega)
      have HF : Hid (fitB n 1 = true) := decide_eq_true (show n < 256 ^ 1 by omega)
      have HB1 : Hid (leB n 1 = [n]) := by rw [Hid]; simp [leB, List.range, List.range.loop]; omega
      go_enter Try.func45, Try.ntmps45
      go_wp2_with fail
      refine (number_any n 1 _ (by omega) sz1 HF.out).mono ?_
      rintro e w1 ⟨A1, c1, rfl, o1, k1⟩
      have O1 : Hid (OwnB w1 5 w.heap.size A1 c1 (rbK (cts es) 0)) := by
        rw [HB1.out] at o1
        have : rbK (cts es) 0 = [n] := by unfold rbK; rw [HL.out]; rfl
        rw [Hid, this]; exact o1
      have HL0 : Hid ((leB n 1).length = (rbK (cts es) 0).length) := by rw [Hid, HB1.out]; rfl
      rw [HL0.out]
      have K1 := Lib.hid k1
      clear o1 k1 HB1 HF HL0
      go_wp2_with fail
      go_loopw [4, 21] (fun o i wr => ∃ (k : Nat) (A' : Option Addr) (c' : Nat), k ≤ n ∧ i = .int .i64 k ∧ o = .slice A' (rbK (cts es) k).length c' ∧ Hid (OwnB wr 5 w.heap.size A' c' (rbK (cts es) k)) ∧ Hid (∀ f ∈ (cts es).take k, mayC f = true) ∧ Hid (New w wr)) (fun _ i _ => n - (intOf i).toNat)
      case atStart => exact ⟨0, A1, c1, Nat.zero_le _, rfl, rfl, O1, (fun f hf => by simp at hf), K1⟩
      case round =>
        obtain ⟨k, A', c', hk, rfl, rfl, VO, VM, VN⟩ := hrel
        clear O1 K1
        by_cases hlt : k < n
        · obtain ⟨g, o, x, eA, hx, x0, x1, x2, x3, x4, x5⟩ := (rowC_at (H.out.new VN.out).1 (i := k) hlt)
          have hok : COk wr x := (H.out.new VN.out).2 x (List.mem_of_getElem? hx)
          subst eA
          have hfx : (cts es)[k]? = some x.f := by unfold cts; rw [List.getElem?_map, hx]; rfl
          have HBL := Lib.hid (rbK_len (l := cts es) (k := k) (by omega) VM.out)
          have CM : Hid (∀ u, Calls Try.prog 62 #[.agg #[.int .i64 x.f.k.i, .int .u8 (x.f.k.t : Nat), .string x.f.k.n, .int .i64 x.f.k.c, .slice x.A x.f.v.length x.c, .bool x.f.g]] u (NewBool u (mayC x.f))) := fun u => cmay_any x.f x.A x.c u hok.2.2.2 (by have := hok.2.2.1; unfold maxLen; omega)
          have CB : Hid (∀ u, New wr u → mayC x.f = true → Calls Try.prog 63 #[.agg #[.int .i64 x.f.k.i, .int .u8 (x.f.k.t : Nat), .string x.f.k.n, .int .i64 x.f.k.c, .slice x.A x.f.v.length x.c, .bool x.f.g]] u (RetL u (chB x.f))) := fun u hu hm => chBytes_any x.f x.A x.c u hm (hok.1.new hu)
          have HBX : Hid (mayC x.f = true → rbK (cts es) (k + 1) = rbK (cts es) k ++ chB x.f ∧ (∀ f ∈ (cts es).take (k + 1), mayC f = true) ∧ (chB x.f).length ≤ 273) := fun hm => ⟨rbK_next hfx, take_next hfx hm VM.out, chB_len hm⟩
          have HBN : Hid (mayC x.f = false → tl = [] ∧ te = 2) := fun hm => HNO.out (tlOk_no (.inr ⟨x.f, List.mem_of_getElem? hfx, hm⟩))
          clear hx hok hfx VM
          obtain ⟨fx, Ax, cx⟩ := x
          obtain ⟨kx, vx, gx⟩ := fx
          dsimp only at *
          generalize mayC ⟨kx, vx, gx⟩ = b at *
          generalize chB ⟨kx, vx, gx⟩ = ch at *
          obtain ⟨ki, kt, kn, kc⟩ := kx
          dsimp only at *
          generalize vx.length = vn at *
          obtain ⟨w2, hw2⟩ : ∃ w2, w2 = wr.alloc (.cells #[.int .i64 ki, .int .u8 (kt : Nat), .string kn, .int .i64 kc, .slice Ax vn cx, .bool gx] 78) := ⟨_, rfl⟩
          have n2 : New wr w2 := by rw [hw2]; exact (Kept.refl _ _).alloc _
          have B2 : Hid (Blk w2 wr.heap.size 78 [.int .i64 ki, .int .u8 (kt : Nat), .string kn, .int .i64 kc, .slice Ax vn cx, .bool gx]) := by rw [hw2]; exact Blk.made wr _ _
          obtain ⟨q0, q1, q2, q3, q4, q5⟩ := cc6 B2.out
          have N2 := Lib.hid n2
          have HW2 := Lib.hid hw2
          clear n2 hw2
          have s1 : (0 : Int) ≤ (k : Int) := by omega
          have s3 : (k : Int) < (n : Int) := by omega
          go_wp2_with fail
          rw [← HW2.out]
          clear HW2
          refine (CM.out _).mono ?_
          rintro e w3 ⟨rfl, k3⟩
          have N3 := Lib.hid (N2.out.new k3)
          have B3 := Lib.hid (B2.out.kept k3 id)
          clear k3 N2 B2 CM q0 q1 q2 q3 q4 q5 x0 x1 x2 x3 x4 x5
          obtain ⟨q0, q1, q2, q3, q4, q5⟩ := cc6 B3.out
          cases b
          · have E := Lib.hid (retB_2 (HBN.out rfl) (VN.out.new N3.out))
            clear CB HBX HBN VO VN N3 B3
            go_wp2
            go_ret2
            exact E.out
          · obtain ⟨hbx, hall, hch⟩ := HBX.out rfl
            have HBX' := Lib.hid hbx
            have HALL := Lib.hid hall
            have CB' := Lib.hid (CB.out w3 N3.out rfl)
            clear hbx hall HBX HBN CB
            go_wp2_with fail
            refine CB'.out.mono ?_
            rintro e w4 ⟨A4, c4, rfl, o4, k4⟩
            have K4 : Hid (New w w4) := VN.out.new (N3.out.new k4)
            have O4 : Hid (Bts w4 A4 ch.length ch) := o4.bts
            have V4 := Lib.hid (VO.out.new (N3.out.new k4))
            have hbl := HBL.out
            clear o4 k4 CB' VO VN N3 B3 q0 q1 q2 q3 q4 q5
            go_wp2_with (at_builtin; refine wpList_append_bytes _ rfl _ _ _ rfl 5 i0 Try.underlying25 hi hz0 hz1 hz2 w.heap.size A' (rbK (cts es) k).length c' (rbK (cts es) k) rfl V4.out rfl A4 ch.length c4 ch rfl O4.out ?_ K4.out.size ?_)
            · omega
            intro A5 c5 w5 o5 g5 _
            have E1 : Hid (OwnB w5 5 w.heap.size A5 c5 (rbK (cts es) (k + 1))) := by rw [Hid, HBX'.out]; exact o5
            have E2 : Hid (New w w5) := Kept.of_own K4.out V4.out g5
            have E3 : Hid ((rbK (cts es) k).length + ch.length = (rbK (cts es) (k + 1)).length) := by rw [Hid, HBX'.out, List.length_append]
            clear o5 g5 K4 V4 O4
            go_wp2
            go_roundw
            case rel => exact ⟨k + 1, A5, c5, by omega, by go_num, by rw [E3.out], E1, HALL, E2⟩
            case measure => simp [intOf]; omega
        · have hkn : k = n := by omega
          have E9 : Hid (RetB w tl te (.returned (.tuple #[.slice A' (rbK (cts es) k).length c', .int .i64 0])) wr) := by
            have hm := VM.out
            rw [List.take_of_length_le (by rw [HL.out]; omega)] at hm
            obtain ⟨e1, e2⟩ := HYES.out (tlOk_of (by rw [HL.out]; omega) (by rw [HL.out]; omega) hm)
            rw [HL.out, ← hkn] at e1
            exact ⟨A', c', by rw [e1, e2], by rw [e1]; exact VO.out, VN.out⟩
          clear VO VM VN
          go_wp2
          go_ret2
          exact E9.out
    · have d0 : ((n : Int) == 0) = false := beq_eq_false_iff_ne.2 (by omega)
      have E := Lib.hid (fun u k => retB_2 (w := w) (u := u) (HNO.out (tlOk_no (.inl (by rw [HL.out]; omega)))) k)
      have d1 : decide (255 < (n : Int)) = true := decide_eq_true (by omega)
      clear hn2
      go_enter Try.func45, Try.ntmps45
      go_wp2
      go_ret2
      exact E.out _ (Kept.refl _ _)
  · obtain rfl : n = 0 := by omega
    have E := Lib.hid (fun u k => retB_2 (w := w) (u := u) (HNO.out (tlOk_no (.inl (by rw [HL.out]; omega)))) k)
    clear hn1
    go_enter Try.func45, Try.ntmps45
    go_wp2
    go_ret2
    exact E.out _ (Kept.refl _ _)

/-- A page and an error come back. -/
def PagP (w : World) (l : List Nat) (E : Int) (e : Ending) (w' : World) : Prop := ∃ A c, e = .returned (.tuple #[.slice A l.length c, .int .i64 E]) ∧ PgB w' w.heap.size A c l ∧ New w w'

theorem PagP.of_put {w w1 w2 : World} {n : Int} {k : Nat} {b : List Nat} {e : Ending} (k1 : New w w1) (h : PutP w1 n k b e w2) : PagP w (sPutL n k b) (sPutE n k b) e w2 := by
  obtain ⟨A, c, h1, p2, k2⟩ := h
  refine ⟨A, c, h1, ⟨p2.1, ?_⟩, k1.new k2⟩
  rcases p2.2 with h | ⟨g, jk, h1, h2, h3⟩
  · exact .inl h
  · exact .inr ⟨g, jk, h1, Nat.le_trans k1.size h2, h3⟩

theorem pag_nil {w u : World} {l : List Nat} {E E' : Int} (h : l = [] ∧ E = E') (k : New w u) : PagP w l E (.returned (.tuple #[.slice none 0 0, .int .i64 E'])) u := by
  obtain ⟨rfl, rfl⟩ := h
  exact ⟨none, 0, rfl, ⟨(fun x hx => by cases hx), .inl ⟨rfl, rfl, rfl⟩⟩, k⟩

theorem pu_yes {z : Int} {l : List CT} (h : tlOk l = true) : puL z l = sPutL z 2 (tlL l) ∧ puE z l = sPutE z 2 (tlL l) ∧ tlE l = 0 := by
  rw [(tl_yes h).1, (tl_yes h).2]
  unfold puL puE
  rw [if_pos h, if_pos h]
  exact ⟨rfl, rfl, rfl⟩

theorem pu_no {z : Int} {l : List CT} (h : tlOk l = false) : puL z l = [] ∧ puE z l = 2 := by unfold puL puE; rw [h]; exact ⟨rfl, rfl⟩

theorem tl_len (l : List CT) : (tlL l).length ≤ 69616 := by
  unfold tlL
  by_cases h : tlOk l = true
  · rw [if_pos h]
    obtain ⟨_, h2, h3⟩ := tlOk_all h
    exact rbK_len h2 fun f hf => h3 f (List.mem_of_mem_take hf)
  · rw [if_neg h]; simp

theorem recPut_any (z : Int) (A : Option Addr) (n c : Nat) (es : List CE) (w : World) (h : CIn w A n es) (hn : n ≤ maxLen) :
    Calls Try.prog 23 #[.int .i64 z, .slice A n c] w (PagP w (puL z (cts es)) (puE z (cts es))) := by
  have CT := fun u hu => Lib.hid (tell_any A n c es u (h.new hu) hn)
  have HTL := Lib.hid (tl_len (cts es))
  have HY : Hid (tlOk (cts es) = true → puL z (cts es) = sPutL z 2 (tlL (cts es)) ∧ puE z (cts es) = sPutE z 2 (tlL (cts es)) ∧ tlE (cts es) = 0) := pu_yes
  have HN : Hid (tlOk (cts es) = false → (puL z (cts es) = [] ∧ puE z (cts es) = 2) ∧ tlL (cts es) = [] ∧ tlE (cts es) = 2) := fun h => ⟨pu_no h, tl_no h⟩
  unfold maxLen at hn
  clear h
  generalize tlL (cts es) = tl at *
  generalize tlE (cts es) = te at *
  generalize puL z (cts es) = pl at *
  generalize puE z (cts es) = pe at *
  go_enter Try.func23, Try.ntmps23
  go_wp2_with fail
  refine (CT _ (Kept.refl _ _)).out.mono ?_
  rintro e w1 ⟨A1, c1, rfl, o1, k1⟩
  have K1 := Lib.hid k1
  have O1 := Lib.hid o1.bts
  clear o1 k1 CT
  cases hb : tlOk (cts es)
  · obtain ⟨e1, rfl, rfl⟩ := HN.out hb
    have E := Lib.hid (pag_nil e1 K1.out)
    clear HN HY e1 O1
    go_wp2
    go_ret2
    exact E.out
  · obtain ⟨e1, e2, rfl⟩ := HY.out hb
    have hl := HTL.out
    have E : Hid (∀ e w2, PutP w1 z 2 tl e w2 → PagP w pl pe e w2) := fun e w2 h => by rw [e1, e2]; exact PagP.of_put K1.out h
    clear HN HY e1 e2 hb
    go_wp2_with fail
    refine (sPut_any z 2 A1 tl.length c1 tl _ O1.out (by unfold maxLen; omega)).mono ?_
    rintro e w2 hp
    have E2 := Lib.hid (E.out e w2 hp)
    obtain ⟨A2, c2, rfl, _, _⟩ := hp
    clear E O1
    generalize sPutL z 2 tl = pl2 at *
    generalize sPutE z 2 tl = pe2 at *
    go_wp2
    go_ret2
    exact E2.out
end Go.Proofs.Ytbiihjdjbknibaa
