/-
  From a walk to the row of a law's second form (what comes in is of bulk at most 1048576); how long a list that comes in may be then.
-/
import Derived.Test.YtbiihjdjbknibaaRows
import Derived.Test.YtbiihjdjbknibaaMm
import Derived.Deep.CondSized
namespace Go.Proofs.Ytbiihjdjbknibaa
set_option maxRecDepth 100000
open Go.ChangeShapes Go.WideShapes Go.ChangeAt Go.RowKit Go.Deep

section
variable {H : Type} {enc : TypeId × Value → H}

theorem lift_upto {C : Checked} {os : Os} {f : FuncId} {fn : Func} {s : ChangeSpec} {F : Stop.Interp} {tb : TypeId} (own : ownKnob C.prog.godebug = none) (started : os.Started) (noInit : C.prog.inits.idxOf? f = none) (hfn : C.prog.funcs[f]? = some fn)
    (witness : ∃ (w : World) (tape : Tape) (i : Input), w.os = os ∧ (w.forCall tape i).Shaped C.prog ∧ i.vars = [] ∧ Input.okWide C.prog (w.forCall tape i) .any w.heap.size f i ∧
      (Rows.OpenSpec.upto s).pre6 enc C.prog fn [] false (w.forCall tape i).memory i.args ∧ Assume.holds {} C.prog (lone (Frame.enter C.prog f i.args .normal) [] (w.forCall tape i)))
    (hvars : s.vars = []) (hres : fn.resultTypes = #[tb]) (htb : C.prog.underlying tb = some .bool)
    (hspec : ∀ ds : List (DataW H), ds.length = fn.params.toList.length → (s.fn H ds).results = [.lit (.bool true)] ∧ (s.fn H ds).args = ds ∧ (s.fn H ds).vars = [])
    (hl : laidOutB C.prog = true) (hread : ∀ t ∈ fn.params.toList, C.prog.readableRec t = true ∧ t < C.prog.types.size)
    (walk : ∀ (W : World) (base : Nat) (args : Array Value) (ds : List (DataW H)), Args enc C.prog W base fn.params.toList args.toList ds → Rows.uptoSmall H ds = true → Calls C.prog f args W (True1 W)) :
    ReturnsInHanded {} C os f .any ((Rows.OpenSpec.upto s).pre6 enc C.prog fn [] false) (((Rows.OpenSpec.upto s).at F).post enc C.prog fn false true false false) := by
  refine returnsInHanded_of_cond_sized (C := C) (s := Rows.OpenSpec.upto s) (k := Rows.uptoSmall) rfl own started noInit hfn witness ?_
  intro W base args ds gs before hval hW _ hk hsz _
  have hW : DataW.Whole enc C.prog fn.params.toList s.vars false W args.toList ds gs before := hW
  have hW' := hW
  obtain ⟨p, q, hA, hV, rfl, hfz, hnd⟩ := hW
  rw [hvars] at hV
  obtain ⟨rfl, rfl⟩ := trodVars_none hV
  have hlen : ds.length = fn.params.toList.length := trodAll_length _ _ _ _ hA
  have hargs : Args enc C.prog W base fn.params.toList args.toList ds := by
    refine args_of _ _ _ _ (fun j t v ht hv => hval j t v (by simpa using ht) (by simpa using hv)) hA fun n hn => ?_
    have := List.all_eq_true.1 hsz n (by
      have hv0 : (Rows.OpenSpec.upto s).bare.plain.varTypes C.prog = [] := by
        have : (Rows.OpenSpec.upto s).bare.plain.vars = s.vars := rfl
        simp [DataSpec.varTypes, this, hvars]
      rw [hv0]
      simpa using hn)
    simpa using this
  refine (walk W base args ds hargs (by simpa using hk)).mono fun e W' ⟨he, hn⟩ => ?_
  subst he
  obtain ⟨e1, e2, e3⟩ := hspec (ds ++ []) (by simpa using hlen)
  have hlt : ∀ x ∈ p, x.block < W.heap.size := fun x hx => hW'.lt x (by simpa using hx)
  show ∃ v, _ ∧ s.post enc C.prog fn false true false false W args v W'
  refine ⟨_, rfl, ds, [], _, [], p, [], hW', ?_, ?_, ?_, hn.below.frame _, fun h => by cases h⟩
  · rw [e1, hres]
    exact trodAll_mk1 (shut_bool htb _)
  · rw [e2]
    simp only [List.append_nil]
    exact trodAll_stays hl hn.below _ _ _ _ hread hlt hA
  · rw [e3, hvars]
    rfl

theorem bulk_pos (d : DataW H) : 1 ≤ Rows.uptoBulk d := by
  cases d with
  | lit l => cases l <;> simp [Rows.uptoBulk]
  | _ => simp [Rows.uptoBulk]
theorem bulk_all : ∀ (l : List (DataW H)), l.length ≤ Rows.uptoBulkAll l
  | [] => Nat.zero_le _
  | d :: r => by
    have h1 := bulk_pos d
    have h2 := bulk_all r
    simp only [Rows.uptoBulkAll, List.length_cons]
    omega
theorem Arg.bulk {P : Program} {W : World} {base : Nat} {t e : TypeId} {A : Option Addr} {n c : Nat} {d : DataW H} {p : List MemPlace} (h : Arg enc P W base t (.slice A n c) d p) (ht : P.underlying t = some (.slice e)) : n ≤ Rows.uptoBulk d := by
  obtain ⟨fuel, hf⟩ := h.tr
  rcases open_slice ht hf with ⟨hcs, hx⟩ | ⟨a, len, cap, m, n', D, Pl, hcs, _, hl, hm, hmm, hx, hi⟩
  · simp [Value.cells] at hcs
    obtain ⟨_, rfl, _⟩ := hcs
    exact Nat.zero_le _
  · simp [Value.cells] at hcs
    obtain ⟨_, rfl, _⟩ := hcs
    simp only [Prod.mk.injEq] at hx
    rw [hx.1]
    simp only [Rows.uptoBulk]
    have := bulk_all ((List.range n).map D)
    simp only [List.length_map, List.length_range] at this
    omega
theorem smallF {P : Program} {W : World} {b0 b1 : Nat} {t0 t1 e0 e1 : TypeId} {A0 A1 : Option Addr} {n0 c0 n1 c1 : Nat} {d0 d1 d2 : DataW H} {p0 p1 : List MemPlace} (h0 : Arg enc P W b0 t0 (.slice A0 n0 c0) d0 p0) (ht0 : P.underlying t0 = some (.slice e0))
    (h1 : Arg enc P W b1 t1 (.slice A1 n1 c1) d1 p1) (ht1 : P.underlying t1 = some (.slice e1)) (hk : Rows.uptoSmall H [d0, d1, d2] = true) : n0 ≤ 1048576 ∧ n1 ≤ 1048576 := by
  have h := of_decide_eq_true hk
  simp only [Rows.uptoBulkAll] at h
  have := h0.bulk ht0
  have := h1.bulk ht1
  omega
end
end Go.Proofs.Ytbiihjdjbknibaa
