/-
  Changes in memory: a list that is read, a list of the call's own, arguments opened; lists copied, compared.
-/
import Derived.Test.YtlbbhfapmmcehaaRows
import Derived.Test.YtlbbhfapmmcehaaFl
import Derived.Test.YtlbbhfapmmcehaaRo
import Derived.Lib.QuietBelow
import Derived.Deep.RegionLaw
import Derived.Deep.CondSized
namespace Go.Proofs.Ytlbbhfapmmcehaa
set_option maxRecDepth 100000
open Go.ChangeShapes Go.WideShapes Go.ChangeAt Go.RowKit Go.Deep
structure CT where
  k : KY
  v : List Nat
  g : Bool



theorem new_regrown {w wr : World} (h : New w wr) (d : Nat) (os : Array Obj) : New w (Go.Sort.grow (redrawn wr d) os) := h.new (New.of_below (below_regrown wr d os))




/-- The block that a row lies in. -/
def InRow (A : Option Addr) (b : Nat) : Prop := ∃ a, A = some a ∧ a.block = b



theorem info_change : (Try.prog.info? 50).map (fun i => (i.zero, i.size, i.bytes)) = some (some (.agg #[.int .i64 0, .int .u8 0, .string ⟨#[]⟩, .int .i64 0, .slice none 0 0, .bool false]), 6, 72) := by kernel_rfl

/-- A change as it lies: its value's address and room. -/
structure CE where
  f : CT
  A : Option Addr
  c : Nat

def CE.cells (e : CE) : List Value := kcells e.f.k ++ [.slice e.A e.f.v.length e.c, .bool e.f.g]

def ces : List CE → List Value
  | [] => []
  | e :: r => e.cells ++ ces r

theorem ce_len (e : CE) : e.cells.length = 6 := rfl

theorem ces_len : ∀ (es : List CE), (ces es).length = es.length * 6
  | [] => rfl
  | e :: r => by simp only [ces, List.length_append, ce_len, ces_len r, List.length_cons]; omega

theorem ces_append : ∀ (a b : List CE), ces (a ++ b) = ces a ++ ces b
  | [], b => rfl
  | e :: a, b => by simp only [List.cons_append, ces, ces_append a b, List.append_assoc]

theorem ces_at : ∀ (es : List CE) (i j : Nat) (e : CE) (u : Value), es[i]? = some e → j < 6 → e.cells[j]? = some u → (ces es)[i * 6 + j]? = some u
  | [], i, j, e, u, h, _, _ => by simp at h
  | x :: r, 0, j, e, u, h, hj, hu => by
    simp at h
    subst h
    simp only [ces, Nat.zero_mul, Nat.zero_add]
    rw [List.getElem?_append_left (by rw [ce_len]; exact hj)]
    exact hu
  | x :: r, i + 1, j, e, u, h, hj, hu => by
    simp only [ces]
    rw [List.getElem?_append_right (by rw [ce_len]; omega), ce_len, show (i + 1) * 6 + j - 6 = i * 6 + j by omega]
    exact ces_at r i j e u (by simpa using h) hj hu

/-- Its value reads as it should, and is not too large. -/
def COk (w : World) (e : CE) : Prop := Bts w e.A e.f.v.length e.f.v ∧ (e.A = none → e.c = 0 ∧ e.f.v.length = 0) ∧ e.f.v.length ≤ 140737488351232 ∧ e.f.k.n.size ≤ maxLen

/-- The slice (A, n) reads as the changes es. -/
def CIn (w : World) (A : Option Addr) (n : Nat) (es : List CE) : Prop := RowV w A n 6 (ces es) ∧ ∀ e ∈ es, COk w e

section

variable {S : Nat → Prop} {w w' : World} {A : Option Addr} {n c B : Nat} {es : List CE}

theorem COk.kept {e : CE} (h : COk w e) (hk : Kept S w w') (hn : ∀ a, e.A = some a → ¬ S a.block) : COk w' e := ⟨h.1.kept hk hn, h.2⟩

theorem COk.new {e : CE} (h : COk w e) (hk : New w w') : COk w' e := h.kept hk fun _ _ f => f

theorem CIn.new (h : CIn w A n es) (hk : New w w') : CIn w' A n es := ⟨h.1.new hk, fun e he => (h.2 e he).new hk⟩

theorem CIn.len (h : CIn w A n es) : es.length = n := by have := h.1.1; rw [ces_len] at this; omega

theorem CIn.nil (w : World) (A : Option Addr) : CIn w A 0 [] := ⟨RowV.nil w A 6, by simp⟩

/-- What stands at a place. -/
theorem rowC_at {i : Nat} (h : RowV w A n 6 (ces es)) (hi : i < n) : ∃ (g o : Nat) (e : CE), A = some ⟨g, o, none⟩ ∧ es[i]? = some e ∧
    w.cell? ⟨g, o + i * 6, none⟩ = some (.int .i64 e.f.k.i) ∧ w.cell? ⟨g, o + i * 6 + 1, none⟩ = some (.int .u8 (e.f.k.t : Nat)) ∧ w.cell? ⟨g, o + i * 6 + 2, none⟩ = some (.string e.f.k.n) ∧
    w.cell? ⟨g, o + i * 6 + 3, none⟩ = some (.int .i64 e.f.k.c) ∧ w.cell? ⟨g, o + i * 6 + 4, none⟩ = some (.slice e.A e.f.v.length e.c) ∧ w.cell? ⟨g, o + i * 6 + 5, none⟩ = some (.bool e.f.g) := by
  have hl : es.length = n := by have := h.1; rw [ces_len] at this; omega
  obtain ⟨h1, h2⟩ := h
  obtain ⟨g, o, rfl, hat⟩ := h2 (by omega)
  have hi' : i < es.length := by omega
  have he : es[i]? = some es[i] := List.getElem?_eq_getElem hi'
  have key : ∀ j u, j < 6 → es[i].cells[j]? = some u → w.cell? ⟨g, o + i * 6 + j, none⟩ = some u := fun j u hj hu => by
    rw [Nat.add_assoc]
    exact hat _ _ (ces_at es i j _ u he hj hu)
  exact ⟨g, o, es[i], rfl, he, key 0 _ (by omega) rfl, key 1 _ (by omega) rfl, key 2 _ (by omega) rfl, key 3 _ (by omega) rfl, key 4 _ (by omega) rfl, key 5 _ (by omega) rfl⟩

end

/-- The changes alone. -/
def cts (es : List CE) : List CT := es.map (·.f)

open Go.ChangeShapes Go.WideShapes Go.ChangeAt Go.RowKit

open Go.RowKit

open Go.RowKit

open Go.RowKit

attribute [local go_sem] Oper.semAt_some

open Go.RowKit Go.ChangeShapes Go.WideShapes Go.ChangeAt Go.Deep

theorem getElem_take_drop {cs us : List Value} {o n : Nat} (h : (cs.drop o).take n = us) {j : Nat} (hj : j < n) : cs[o + j]? = us[j]? := by
  rw [← h, List.getElem?_take, if_pos hj, List.getElem?_drop]

section

variable {H : Type} {enc : TypeId × Value → H} {W : World}

theorem Rds.change_ {cs : List Value} {d : DataW H} (h : Rds enc Try.prog W 50 cs d) : ∃ e : CE, cs = e.cells ∧ COk W e ∧ KyIn e.f.k := by
  obtain ⟨hl, hf⟩ := h.field Try.underlying50
  have h6 : Try.prog.cellsOf 50 = 6 := by kernel_rfl
  have c4 : Try.prog.cellsOf 48 = 4 := by kernel_rfl
  have c1 : Try.prog.cellsOf 23 = 1 := by kernel_rfl
  have c0 : Try.prog.cellsOf 4 = 1 := by kernel_rfl
  rw [h6] at hl
  obtain ⟨d0, r0⟩ := hf 0 _ rfl
  obtain ⟨d1, r1⟩ := hf 1 _ rfl
  obtain ⟨d2, r2⟩ := hf 2 _ rfl
  obtain ⟨k, e0, hk⟩ := r0.key_
  obtain ⟨A, n, c, l, e1, hb⟩ := r1.bytes_ Try.underlying23 Try.underlying5 (by kernel_rfl) (by kernel_rfl)
  obtain ⟨g, e2⟩ := r2.bool_ Try.underlying4
  have e0 : (cs.drop 0).take (Try.prog.cellsOf 48) = kcells k := e0
  have e1 : (cs.drop 4).take (Try.prog.cellsOf 23) = [.slice A n c] := e1
  have e2 : (cs.drop 5).take (Try.prog.cellsOf 4) = [.bool g] := e2
  rw [c4] at e0
  rw [c1] at e1
  rw [c0] at e2
  have hn : l.length = n := hb.bts.1
  subst hn
  refine ⟨⟨⟨k, l, g⟩, A, c⟩, ?_, ⟨hb.bts, hb.nil, Nat.le_trans hb.le hb.cap, hk.2.2.1⟩, hk⟩
  apply List.ext_getElem?
  intro i
  match i with
  | 0 => exact getElem_take_drop e0 (j := 0) (by omega)
  | 1 => exact getElem_take_drop e0 (j := 1) (by omega)
  | 2 => exact getElem_take_drop e0 (j := 2) (by omega)
  | 3 => exact getElem_take_drop e0 (j := 3) (by omega)
  | 4 => exact getElem_take_drop e1 (j := 0) (by omega)
  | 5 => exact getElem_take_drop e2 (j := 0) (by omega)
  | i + 6 => rw [List.getElem?_eq_none (by omega), List.getElem?_eq_none (by simp [CE.cells, kcells])]

theorem ces_get : ∀ (es : List CE) (j : Nat), j < es.length * 6 → ∃ e, es[j / 6]? = some e ∧ (ces es)[j]? = e.cells[j % 6]?
  | [], j, h => by simp at h
  | x :: r, j, h => by
    rcases Nat.lt_or_ge j 6 with hj | hj
    · refine ⟨x, by rw [Nat.div_eq_of_lt hj]; rfl, ?_⟩
      rw [Nat.mod_eq_of_lt hj]
      simp only [ces]
      rw [List.getElem?_append_left (by rw [ce_len]; exact hj)]
    · obtain ⟨e, h1, h2⟩ := ces_get r (j - 6) (by simp at h; omega)
      refine ⟨e, ?_, ?_⟩
      · rw [show j / 6 = (j - 6) / 6 + 1 by omega, List.getElem?_cons_succ]
        exact h1
      · simp only [ces]
        rw [List.getElem?_append_right (by rw [ce_len]; exact hj), ce_len, h2, show j % 6 = (j - 6) % 6 by omega]

def CsIn (W : World) (A : Option Addr) (n c : Nat) (es : List CE) : Prop := CIn W A n es ∧ (A = none → c = 0 ∧ n = 0) ∧ n ≤ c ∧ c ≤ maxLen ∧ n * 72 ≤ 140737488351232 ∧ ∀ e ∈ es, KyIn e.f.k

theorem Arg.changes_ {base : Nat} {v : Value} {d : DataW H} {p : List MemPlace} (h : Arg enc Try.prog W base 22 v d p) : ∃ A n c es, v = .slice A n c ∧ CsIn W A n c es := by
  have c6 : Try.prog.cellsOf 50 = 6 := by kernel_rfl
  have b72 : Try.prog.bytesOf 50 = 72 := by kernel_rfl
  obtain ⟨A, n, c, hcs, hA, h1, h2, h3, h4⟩ := (h.rdsS Try.underlying22).list_ Try.underlying22 (by rw [c6]; omega)
  rw [c6] at h4
  rw [b72] at h3
  injection hcs with hv _
  subst hv
  rcases Nat.eq_zero_or_pos n with h0 | h0
  · subst h0
    exact ⟨A, 0, c, [], rfl, CIn.nil _ _, hA, h1, h2, by simp, by simp⟩
  obtain ⟨g, o, rfl, hi⟩ := h4 h0
  obtain ⟨es, hl, he⟩ := listOf (R := fun i (e : CE) => (∀ (j : Nat) (u : Value), e.cells[j]? = some u → W.cell? ⟨g, o + (i * 6 + j), none⟩ = some u) ∧ COk W e ∧ KyIn e.f.k) n fun i hin => by
    obtain ⟨us, d', _, hu, hr⟩ := hi i hin
    obtain ⟨e, rfl, ho, hk⟩ := hr.change_
    exact ⟨e, hu, ho, hk⟩
  refine ⟨some ⟨g, o, none⟩, n, c, es, rfl, ⟨⟨by rw [ces_len, hl], fun _ => ⟨g, o, rfl, fun j u hj => ?_⟩⟩, fun e hm => ?_⟩, hA, h1, h2, h3, fun e hm => ?_⟩
  · have hjl : j < es.length * 6 := by have := (List.getElem?_eq_some_iff.1 hj).1; rwa [ces_len] at this
    obtain ⟨e, e1, e2⟩ := ces_get es j hjl
    have := (he _ _ e1).1 (j % 6) u (e2 ▸ hj)
    rwa [show j / 6 * 6 + j % 6 = j by omega] at this
  · obtain ⟨i, hi2⟩ := List.mem_iff_getElem?.1 hm
    exact (he i e hi2).2.1
  · obtain ⟨i, hi2⟩ := List.mem_iff_getElem?.1 hm
    exact (he i e hi2).2.2

theorem Arg.change_ {base : Nat} {v : Value} {d : DataW H} {p : List MemPlace} (h : Arg enc Try.prog W base 50 v d p) : ∃ e : CE, v = .agg #[.int .i64 e.f.k.i, .int .u8 (e.f.k.t : Nat), .string e.f.k.n, .int .i64 e.f.k.c, .slice e.A e.f.v.length e.c, .bool e.f.g] ∧ COk W e ∧ KyIn e.f.k := by
  obtain ⟨cs, rfl, hr⟩ := h.rds Try.underlying50
  obtain ⟨e, he, ho, hk⟩ := hr.change_
  exact ⟨e, congrArg Value.agg (Array.toList_inj.1 he), ho, hk⟩

end

open Go.RowKit

theorem cts_append (a b : List CE) : cts (a ++ b) = cts a ++ cts b := by unfold cts; rw [List.map_append]

open Go.RowKit

section

variable {w w5 w7 : World} {c : Nat} {A : Option Addr}

/-- Behind a row's growing nothing that was there ahead of it has turned. -/
theorem new_row {t : TypeId} {sz n : Nat} {vs : List Value} (k : New w w5) (h : OwnV w5 t sz w.heap.size A n c vs) (K7 : Kept (InRow A) w5 w7) : New w w7 :=
  k.trans K7 fun i hi ⟨b, hb, e⟩ => by
    have := (h.at_ b hb).2
    omega

end

open Go.ChangeShapes Go.WideShapes Go.ChangeAt Go.RowKit

open Go.ChangeShapes Go.WideShapes Go.ChangeAt Go.RowKit

open Go.ChangeShapes Go.WideShapes Go.ChangeAt Go.RowKit

theorem same_new (A B : Option Addr) (n m c d : Nat) (l k : List Nat) (r : Bool) (h : decide (l = k) = r) (hn : n ≤ maxLen) (u : World) (ha : Bts u A n l) (hb : Bts u B m k) :
    Calls Try.prog 11 #[.slice A n c, .slice B m d] u fun e w' => e = .returned (.bool r) ∧ Below u.heap.size u w' :=
  (same_any A B n m c d l k u ha hb hn).mono fun e w' hh => by
    obtain ⟨z, he, hw⟩ := hh
    exact ⟨by rw [he, h], by rw [hw]; exact ((Kept.refl _ _).drewN z).below⟩

open Go.ChangeShapes Go.WideShapes Go.ChangeAt Go.RowKit Go.Deep

section

variable {H : Type} {enc : TypeId × Value → H}

theorem lift_upto {C : Checked} {os : Os} {f : FuncId} {fn : Func} {s : ChangeSpec} {F : Stop.Interp} {tb : TypeId} (own : ownKnob C.prog.godebug = none) (started : os.Started) (noInit : C.prog.inits.idxOf? f = none) (hfn : C.prog.funcs[f]? = some fn)
    (witness : ∃ (w : World) (tape : Tape) (i : Input), w.os = os ∧ (w.forCall tape i).Shaped C.prog ∧ i.vars = [] ∧ Input.okWide C.prog (w.forCall tape i) .any w.heap.size f i ∧
      (Rows.OpenSpec.upto s).pre6 enc C.prog fn [] false (w.forCall tape i).memory i.args ∧ Assume.holds {} C.prog (lone (Frame.enter C.prog f i.args .normal) [] (w.forCall tape i)))
    (hvars : s.vars = []) (hres : fn.resultTypes = #[tb]) (htb : C.prog.underlying tb = some .bool)
    (hspec : ∀ ds : List (DataW H), ds.length = fn.params.toList.length → (s.fn H ds).results = [.lit (.bool true)] ∧ (s.fn H ds).args = ds ∧ (s.fn H ds).vars = [])
    (hl : laidOutB C.prog = true) (hread : ∀ t ∈ fn.params.toList, C.prog.readableRec t = true ∧ t < C.prog.types.size)
    (walk : ∀ (W : World) (base : Nat) (args : Array Value) (ds : List (DataW H)), Args enc C.prog W base fn.params.toList args.toList ds → Rows.uptoSmall H ds = true → Calls C.prog f args W (True1 W)) :
    ReturnsInHanded {} C os f .any ((Rows.OpenSpec.upto s).pre6 enc C.prog fn [] false) (((Rows.OpenSpec.upto s).at F).post enc C.prog fn false true false false) := by
  refine returnsInHanded_of_cond_sized (C := C) (s := Rows.OpenSpec.upto s) (k := Rows.uptoSmall) rfl own started noInit hfn witness ?_
  intro W base args ds gs before hval hW _ hk hsz _
  have hW : DataW.Whole enc C.prog fn.params.toList s.vars false W args.toList ds gs before := hW
  have hW' := hW
  obtain ⟨p, q, hA, hV, rfl, hfz, hnd⟩ := hW
  rw [hvars] at hV
  obtain ⟨rfl, rfl⟩ := trodVars_none hV
  have hlen : ds.length = fn.params.toList.length := trodAll_length _ _ _ _ hA
  have hargs : Args enc C.prog W base fn.params.toList args.toList ds := by
    refine args_of _ _ _ _ (fun j t v ht hv => hval j t v (by simpa using ht) (by simpa using hv)) hA fun n hn => ?_
    have := List.all_eq_true.1 hsz n (by
      have hv0 : (Rows.OpenSpec.upto s).bare.plain.varTypes C.prog = [] := by
        have : (Rows.OpenSpec.upto s).bare.plain.vars = s.vars := rfl
        simp [DataSpec.varTypes, this, hvars]
      rw [hv0]
      simpa using hn)
    simpa using this
  refine (walk W base args ds hargs (by simpa using hk)).mono fun e W' ⟨he, hn⟩ => ?_
  subst he
  obtain ⟨e1, e2, e3⟩ := hspec (ds ++ []) (by simpa using hlen)
  have hlt : ∀ x ∈ p, x.block < W.heap.size := fun x hx => hW'.lt x (by simpa using hx)
  show ∃ v, _ ∧ s.post enc C.prog fn false true false false W args v W'
  refine ⟨_, rfl, ds, [], _, [], p, [], hW', ?_, ?_, ?_, hn.below.frame _, fun h => by cases h⟩
  · rw [e1, hres]
    exact trodAll_mk1 (shut_bool htb _)
  · rw [e2]
    simp only [List.append_nil]
    exact trodAll_stays hl hn.below _ _ _ _ hread hlt hA
  · rw [e3, hvars]
    rfl

theorem bulk_pos (d : DataW H) : 1 ≤ Rows.uptoBulk d := by
  cases d with
  | lit l => cases l <;> simp [Rows.uptoBulk]
  | _ => simp [Rows.uptoBulk]

theorem bulk_all : ∀ (l : List (DataW H)), l.length ≤ Rows.uptoBulkAll l
  | [] => Nat.zero_le _
  | d :: r => by
    have h1 := bulk_pos d
    have h2 := bulk_all r
    simp only [Rows.uptoBulkAll, List.length_cons]
    omega

theorem Arg.bulk {P : Program} {W : World} {base : Nat} {t e : TypeId} {A : Option Addr} {n c : Nat} {d : DataW H} {p : List MemPlace} (h : Arg enc P W base t (.slice A n c) d p) (ht : P.underlying t = some (.slice e)) : n ≤ Rows.uptoBulk d := by
  obtain ⟨fuel, hf⟩ := h.tr
  rcases open_slice ht hf with ⟨hcs, hx⟩ | ⟨a, len, cap, m, n', D, Pl, hcs, _, hl, hm, hmm, hx, hi⟩
  · simp [Value.cells] at hcs
    obtain ⟨_, rfl, _⟩ := hcs
    exact Nat.zero_le _
  · simp [Value.cells] at hcs
    obtain ⟨_, rfl, _⟩ := hcs
    simp only [Prod.mk.injEq] at hx
    rw [hx.1]
    simp only [Rows.uptoBulk]
    have := bulk_all ((List.range n).map D)
    simp only [List.length_map, List.length_range] at this
    omega

end

open Go.ChangeShapes Go.WideShapes Go.ChangeAt Go.RowKit

/-- Bytes of the call's own, whatever they are. -/
def OwnR (w : World) (B : Nat) (A : Option Addr) (c n : Nat) : Prop :=
  (A = none ∧ c = 0 ∧ n = 0) ∨ ∃ (g : Nat) (xs : List Nat), A = some ⟨g, 0, none⟩ ∧ B ≤ g ∧ Blk w g 5 (xs.map byt) ∧ (∀ x ∈ xs, x < 256) ∧ xs.length = c ∧ n ≤ c ∧ c ≤ maxLen

theorem OwnB.ownR {w : World} {B : Nat} {A : Option Addr} {c : Nat} {l : List Nat} (h : OwnB w 5 B A c l) : OwnR w B A c l.length := by
  rcases h with ⟨hb, ⟨rfl, rfl, rfl⟩ | ⟨g, sp, rfl, hB, hblk, hsp, hc, hm⟩⟩
  · exact .inl ⟨rfl, rfl, rfl⟩
  · refine .inr ⟨g, l ++ sp, rfl, hB, hblk, fun x hx => ?_, by rw [List.length_append]; omega, by omega, hm⟩
    rcases List.mem_append.1 hx with h | h
    · exact hb x h
    · exact hsp x h

theorem OwnR.kept {S : Nat → Prop} {w w' : World} {B c n : Nat} {A : Option Addr} (h : OwnR w B A c n) (hk : Kept S w w') (hn : ∀ a, A = some a → ¬ S a.block) : OwnR w' B A c n := by
  rcases h with h | ⟨g, xs, rfl, h1, h2, h3⟩
  · exact .inl h
  · exact .inr ⟨g, xs, rfl, h1, h2.kept hk (hn _ rfl), h3⟩

theorem OwnR.at_ {w : World} {B c n : Nat} {A : Option Addr} (h : OwnR w B A c n) : ∀ a, A = some a → At w a.block 5 ∧ B ≤ a.block := by
  rintro a rfl
  rcases h with ⟨h, _⟩ | ⟨g, xs, h, hB, hblk, _⟩
  · cases h
  · injection h with h; subst h; exact ⟨hblk.at_, hB⟩

theorem set_byt (xs : List Nat) (k y : Nat) (v : Value) (hv : v = byt y) : (xs.map byt).set k v = (xs.set k y).map byt := by
  subst hv
  rw [List.map_set]

def SpoilQ (w : World) (A : Option Addr) (c : Nat) (e : Ending) (w' : World) : Prop :=
  e = .returned (.tuple #[]) ∧ Kept (InRow A) w w' ∧ ∀ g, A = some ⟨g, 0, none⟩ → ∃ xs : List Nat, xs.length = c ∧ (∀ x ∈ xs, x < 256) ∧ Blk w' g 5 (xs.map byt)

set_option maxRecDepth 100000 in
set_option maxHeartbeats 800000 in
theorem spoilR_any (A : Option Addr) (c B by_ n : Nat) (w : World) (h : OwnR w B A c n) :
    Calls Try.prog 24 #[.slice A n c, .int .u8 (by_ : Nat)] w (SpoilQ w A c) := by
  rcases h with ⟨rfl, rfl, rfl⟩ | ⟨g, ys, rfl, hB, hblk, hall, hlen, hle1, hm⟩
  · go_enter Try.func24, Try.ntmps24
    go_wp2
    refine wp_loop_rounds 1 ?_
    rw [rounds_succ]
    go_wp2
    go_end0
    exact ⟨rfl, Kept.refl _ _, fun g h => by cases h⟩
  · have HB := Lib.hid hblk
    have HA := Lib.hid hall
    have HLen := Lib.hid hlen
    unfold maxLen at hm
    clear hblk hall hlen
    go_enter Try.func24, Try.ntmps24
    go_wp2
    go_loopw [5] (fun i wr => ∃ (k : Nat) (xs : List Nat), k ≤ c ∧ i = .int .i64 k ∧ xs.length = c ∧ (∀ x ∈ xs, x < 256) ∧ Blk wr g 5 (xs.map byt) ∧ Kept (InRow (some ⟨g, 0, none⟩)) w wr) (fun i _ => c - (intOf i).toNat)
    case atStart => exact ⟨0, ys, by omega, rfl, HLen.out, HA.out, HB.out, Kept.refl _ _⟩
    case round =>
      obtain ⟨k, xs, hk, rfl, hl, hbd, hblk, hkept⟩ := hrel
      have HL := Lib.hid hl
      have HBD := Lib.hid hbd
      have HBK := Lib.hid hblk
      have HK := Lib.hid hkept
      clear hl hbd hblk hkept HB HA HLen
      by_cases hlt : k < c
      · have hkl : k < xs.length := by rw [HL.out]; exact hlt
        have hcell : wr.cell? ⟨g, k, none⟩ = some (.int .u8 ((xs[k] : Nat) : Int)) := by
          rw [HBK.out.cell, List.getElem?_map, List.getElem?_eq_getElem hkl]
          rfl
        have hxk : xs[k] < 256 := HBD.out _ (List.getElem_mem hkl)
        have hfree := HBK.out.free k
        generalize xs[k] = x at *
        go_wp2
        go_roundw
        case rel =>
          have hb1 := HBK.out.put k (.int .u8 (((x : Int) + by_) % 256))
          rw [set_byt xs k ((x + by_) % 256) (.int .u8 (((x : Int) + by_) % 256)) (by unfold byt; rfl)] at hb1
          refine ⟨k + 1, xs.set k ((x + by_) % 256), by omega, by go_num, by rw [List.length_set, HL.out], ?_, hb1, HK.out.setCell (p := ⟨g, k, none⟩) (fun _ => ⟨⟨g, 0, none⟩, rfl, rfl⟩) _⟩
          intro y hy
          rcases List.mem_or_eq_of_mem_set hy with h | h
          · exact HBD.out y h
          · omega
        case measure => simp [intOf]; omega
      · go_wp2
        go_end0
        refine ⟨rfl, HK.out, fun g' hg' => ?_⟩
        injection hg' with hg'
        injection hg' with hg'
        subst hg'
        exact ⟨xs, HL.out, HBD.out, HBK.out⟩

/-- Others behind it. -/
theorem OwnR.spoilt {w w' : World} {B B' c c' n n' : Nat} {A A' : Option Addr} {e : Ending} (h : OwnR w B A' c' n') (h0 : OwnR w B' A c n) (hs : SpoilQ w A c e w') : OwnR w' B A' c' n' := by
  by_cases hA : ∀ a, A' = some a → ¬ InRow A a.block
  · exact h.kept hs.2.1 hA
  · rcases h with h | ⟨g, xs, rfl, h1, h2, h3, h4, h5⟩
    · exact .inl h
    · have hg : InRow A g := Classical.byContradiction fun hh => hA fun a ha => by injection ha with ha; subst ha; exact hh
      obtain ⟨a, rfl, ha⟩ := hg
      rcases h0 with ⟨h, _⟩ | ⟨g', ys, h, _, k2, _, k4, _⟩
      · cases h
      · injection h with h
        subst h
        have ha : g' = g := ha
        subst ha
        obtain ⟨zs, z1, z2, z3⟩ := hs.2.2 g' rfl
        have : (ys.map byt).length = (xs.map byt).length := by
          unfold Blk at h2 k2
          rw [h2] at k2
          injection k2 with k2
          injection k2 with k2
          have := congrArg Array.size k2
          simpa using this.symm
        rw [List.length_map, List.length_map, k4, h4] at this
        exact .inr ⟨g', zs, rfl, h1, z3, z2, by rw [z1]; exact this, h5⟩

open Go.ChangeShapes Go.WideShapes Go.ChangeAt Go.RowKit

/-- Changes of the call's own. -/
def COwn (w : World) (B : Nat) (A : Option Addr) (c : Nat) (es : List CE) : Prop :=
  OwnV w 50 6 B A es.length c (ces es) ∧ ∀ e ∈ es, OwnB w 5 B e.A e.c e.f.v ∧ e.f.v.length ≤ 140737488351232 ∧ e.f.k.n.size ≤ maxLen

theorem cts_lenE (es : List CE) : (cts es).length = es.length := by unfold cts; rw [List.length_map]

section

variable {w w' : World} {A : Option Addr} {c B : Nat} {es : List CE}

theorem COwn.nil (w : World) (B : Nat) : COwn w B none 0 [] := ⟨OwnV.nil _ _ _ _, by simp⟩

theorem COwn.new (h : COwn w B A c es) (hk : New w w') : COwn w' B A c es := ⟨h.1.new hk, fun e he => ⟨(h.2 e he).1.new hk, (h.2 e he).2⟩⟩

theorem COwn.in_ (h : COwn w B A c es) : CIn w A es.length es := by
  refine ⟨h.1.row, fun e he => ?_⟩
  obtain ⟨h1, h2, h3⟩ := h.2 e he
  refine ⟨h1.bts, fun hA => ?_, h2, h3⟩
  rcases h1.2 with ⟨_, e1, e2⟩ | ⟨g, sp, e1, _⟩
  · exact ⟨e1, by rw [e2]; rfl⟩
  · rw [hA] at e1; cases e1

theorem COwn.none (h : COwn w B A c es) (hA : A = none) : c = 0 ∧ es.length = 0 := by
  obtain ⟨_, h2, _, h4⟩ := h.1
  rcases h4 with ⟨_, h⟩ | ⟨g, sp, h, _⟩
  · omega
  · rw [hA] at h; cases h

theorem COwn.more {w5 w7 : World} {B k : Nat} {A A2 : Option Addr} {c c2 : Nat} {es : List CE} {x : CT} {A4 : Option Addr} {c4 : Nat} (h : COwn w5 B A c es) (o4 : OwnB w7 5 B A4 c4 x.v)
    (hx : x.v.length ≤ 140737488351232 ∧ x.k.n.size ≤ maxLen) (k7 : Kept (InRow A) w5 w7) (hk : es.length = k)
    (o7 : OwnV w7 50 6 B A2 (k + 1) c2 (ces es ++ [.int .i64 x.k.i, .int .u8 (x.k.t : Nat), .string x.k.n, .int .i64 x.k.c, .slice A4 x.v.length c4, .bool x.g])) : COwn w7 B A2 c2 (es ++ [⟨x, A4, c4⟩]) := by
  refine ⟨?_, fun e he => ?_⟩
  · rw [List.length_append, ces_append, hk]
    exact o7
  · rcases List.mem_append.1 he with he | he
    · obtain ⟨h1, h2⟩ := h.2 e he
      refine ⟨h1.kept k7 fun a ha hr => ?_, h2⟩
      obtain ⟨b, hb, e2⟩ := hr
      exact (h1.at_ a ha).1.ne_of (e2 ▸ (h.1.at_ b hb).1) (by decide) rfl
    · simp only [List.mem_cons, List.not_mem_nil, or_false] at he
      subst he
      exact ⟨o4, hx⟩

end

/-- One change more behind a row of the call's own, at a step of a region that draws. -/
theorem step_append_change {w wb : World} {ops : Array Oper} {o : Oper} {a : Act} {K : Act → World → Prop} {Q : Exit → Act → World → Prop} {E : Prop} (hgd : o.guard = none) (s x : Operand)
    (ho : o.op = .call { callee := .builtin .append, args := #[s, x], argTypes := #[22, 22] })
    (B : Nat) (A : Option Addr) (k ch : Nat) (vs : List Value) (hsv : a.eval s = .slice A k ch) (hown : OwnV wb 50 6 B A k ch vs) (hk : New wb w)
    (g c' : Nat) (us : List Value) (hx : a.eval x = .slice (some ⟨g, 0, none⟩) 1 c') (hb : Blk w g 50 us) (hul : us.length = 6) (h1 : ∀ u ∈ us, u.oneCell' = true) (hn : (k + 1) * 72 ≤ 140737488355328) (hbase : B ≤ wb.heap.size)
    (h : ∀ A2 c2 w', Hid (OwnV w' 50 6 B A2 (k + 1) c2 (vs ++ us)) → Hid (Kept (InRow A) wb w') → Hid (A2 = A ∨ ∃ y, A2 = some y ∧ wb.heap.size ≤ y.block) → Hid (Kept (InRow A) w w') → K (a.put o.dst (.slice A2 (k + 1) c2)) w') :
    if Region.wanted o (yielded ops a.tmps) = true then Oper.wp Try.prog o a w K Q else E := by
  obtain ⟨i0, hi, hz0, hz1, hz2⟩ := info_parts info_change
  have hr : RowV w (some ⟨g, 0, none⟩) 1 i0.size us := by
    rw [hz1]
    exact ⟨by rw [hul], fun _ => ⟨g, 0, rfl, fun j v hj => by rw [Nat.zero_add, hb.cell]; exact hj⟩⟩
  have ho' : OwnV w 50 i0.size B A k ch vs := by rw [hz1]; exact hown.new hk
  refine step_append_rowV w hgd s x 22 ho 50 i0 (.agg #[.int .i64 0, .int .u8 0, .string ⟨#[]⟩, .int .i64 0, .slice none 0 0, .bool false]) Try.underlying22 hi hz0 (by rw [hz1]; rfl) (by rw [hz1]; omega) B A k ch vs hsv ho' (some ⟨g, 0, none⟩) 1 c' us hx hr h1 (by rw [hz2]; omega) (by omega) (Nat.le_trans hbase hk.size) ?_
  intro A2 c2 w' h3 h4 h5
  refine h A2 c2 w' (by have := h3.out; rw [hz1] at this; exact this) ?_ ?_ ?_
  · refine (hk.mono (S' := InRow A) fun _ _ f => f.elim).grown h4.out fun q _ hA => ?_
    obtain ⟨a, ha, e⟩ := Option.map_eq_some_iff.1 hA
    exact ⟨a, ha, e⟩
  · rcases h5.out with e | e
    · exact .inl e
    · exact .inr ⟨_, e, hk.size⟩
  · refine (Kept.refl (InRow A) w).grown h4.out fun q _ hA => ?_
    obtain ⟨a, ha, e⟩ := Option.map_eq_some_iff.1 hA
    exact ⟨a, ha, e⟩

set_option maxRecDepth 100000 in
set_option maxHeartbeats 3200000 in
theorem changes0_yes (A B : Option Addr) (n m c d : Nat) (es fs : List CE) (w : World) (ha : CIn w A n es) (hb : CIn w B m fs) (hn : n ≤ maxLen) (hef : cts es = cts fs) :
    Calls Try.prog 17 #[.slice A n c, .slice B m d] w (True1 w) := by
  obtain rfl : n = m := by rw [← ha.len, ← hb.len, ← cts_lenE, hef, cts_lenE]
  have HE := Lib.hid hef
  have HA := Lib.hid ha
  have HB := Lib.hid hb
  unfold maxLen at hn
  clear ha hb hef
  go_enter Try.func17, Try.ntmps17
  go_wp2_with fail
  go_loopw [5] (fun i wr => ∃ k : Nat, k ≤ n ∧ i = .int .i64 k ∧ Hid (New w wr)) (fun i _ => n - (intOf i).toNat)
  case atStart => exact ⟨0, Nat.zero_le _, rfl, Kept.refl _ _⟩
  case round =>
    obtain ⟨k, hk, rfl, HN⟩ := hrel
    by_cases hlt : k < n
    · obtain ⟨g, o, x, eA, hx, x0, x1, x2, x3, x4, x5⟩ := rowC_at (HA.out.new HN.out).1 (i := k) hlt
      obtain ⟨g', o', y, eB, hy, y0, y1, y2, y3, y4, y5⟩ := rowC_at (HB.out.new HN.out).1 (i := k) hlt
      have okx : COk wr x := (HA.out.new HN.out).2 x (List.mem_of_getElem? hx)
      have oky : COk wr y := (HB.out.new HN.out).2 y (List.mem_of_getElem? hy)
      subst eA eB
      have hfx : (cts es)[k]? = some x.f := by unfold cts; rw [List.getElem?_map, hx]; rfl
      have hfy : (cts fs)[k]? = some y.f := by unfold cts; rw [List.getElem?_map, hy]; rfl
      have exy : x.f = y.f := by rw [HE.out, hfy] at hfx; injection hfx with hfx; exact hfx.symm
      have s1 : (0 : Int) ≤ (k : Int) := by omega
      have s3 : (k : Int) < (n : Int) := by omega
      obtain ⟨xf, xA, xc⟩ := x
      obtain ⟨yf, yA, yc⟩ := y
      dsimp only at *
      subst exy
      have BX := Lib.hid okx.1
      have BY := Lib.hid oky.1
      have hxl : Hid (xf.v.length ≤ maxLen) := Nat.le_trans okx.2.2.1 (by unfold maxLen; omega)
      clear hx hy hfx hfy okx oky
      have HNQ : ∀ u, Sem.run Try.prog (binOp .neq 48 (.agg #[.int .i64 xf.k.i, .int .u8 (xf.k.t : Nat), .string xf.k.n, .int .i64 xf.k.c]) (.agg #[.int .i64 xf.k.i, .int .u8 (xf.k.t : Nat), .string xf.k.n, .int .i64 xf.k.c])) u = .ok (.bool false) u := fun u => by rw [key_neq, decide_eq_true rfl]; rfl
      have CS := Lib.hid (fun (q : Nat) (os : Array Obj) => Calls.regrown_of (d := q) (os := os) (same_new xA yA xf.v.length xf.v.length xc yc xf.v xf.v true (decide_eq_true rfl) hxl.out (Go.Sort.grow (redrawn wr q) os) (BX.out.new (new_regrown (Kept.refl _ _) q os)) (BY.out.new (new_regrown (Kept.refl _ _) q os))))
      have p0 := fun d os => cell_regrown x0 d os
      have p1 := fun d os => cell_regrown x1 d os
      have p2 := fun d os => cell_regrown x2 d os
      have p3 := fun d os => cell_regrown x3 d os
      have p4 := fun d os => cell_regrown x4 d os
      have p5 := fun d os => cell_regrown x5 d os
      have r0 := fun d os => cell_regrown y0 d os
      have r1 := fun d os => cell_regrown y1 d os
      have r2 := fun d os => cell_regrown y2 d os
      have r3 := fun d os => cell_regrown y3 d os
      have r4 := fun d os => cell_regrown y4 d os
      have r5 := fun d os => cell_regrown y5 d os
      clear x0 x1 x2 x3 x4 x5 y0 y1 y2 y3 y4 y5
      go_wp2_with fail
      refine wp_region_quiet_below (by kernel_rfl) (by kernel_rfl) ?_
      repeat (quiet_step (first
        | (go_at_call 11; exact CS.out _ _)))
      refine wpQuiet_nil ?_
      intro _ hw'
      obtain ⟨⟨dq, osq⟩, hw''⟩ := hw'
      subst hw''
      have K9 : Hid (New w (Go.Sort.grow (redrawn wr dq) osq)) := new_regrown HN.out dq osq
      clear CS p0 p1 p2 p3 p4 p5 r0 r1 r2 r3 r4 r5 HNQ
      go_wp2
      go_roundw
      case rel => exact ⟨k + 1, by omega, by go_num, K9⟩
      case measure => simp [intOf]; omega
    · go_wp2
      go_ret
      exact ⟨rfl, HN.out⟩

end Go.Proofs.Ytlbbhfapmmcehaa
