/-
  From a walk to the row of a law that lists package-level variables: where a call answers true and writes only new memory in every world that holds them, the row holds.
-/
import Derived.Test.YtefoijnmnahfdaaDoorLift
import Derived.Deep.DeepHandedRow
import Derived.LaidMore
namespace Go.Proofs.YtefoijnmnahfdaaDoor
open Go.ChangeShapes Go.WideShapes Go.ChangeAt Go.RowKit

section
variable {H : Type} {enc : TypeId × Value → H}

theorem lift_row {C : Checked} {os : Os} {f : FuncId} {fn : Func} {s : ChangeSpec} {F : Stop.Interp} {tb : TypeId} {laid : List (String × DataW Unit)} (own : ownKnob C.prog.godebug = none) (started : os.Started) (noInit : C.prog.inits.idxOf? f = none) (hfn : C.prog.funcs[f]? = some fn)
    (witness : ∃ (w : World) (tape : Tape) (i : Input), w.os = os ∧ (w.forCall tape i).Shaped C.prog ∧ i.vars = [] ∧ Input.okWide C.prog (w.forCall tape i) .any w.heap.size f i ∧
      (OpenSpec.ofChange s).preRow enc C.prog fn [] false laid (w.forCall tape i).memory i.args ∧ Assume.holds {} C.prog (lone (Frame.enter C.prog f i.args .normal) [] (w.forCall tape i)))
    (hvars : s.vars = []) (hres : fn.resultTypes = #[tb]) (htb : C.prog.underlying tb = some .bool)
    (hspec : ∀ ds : List (DataW H), ds.length = fn.params.toList.length → (s.fn H ds).results = [.lit (.bool true)] ∧ (s.fn H ds).args = ds ∧ (s.fn H ds).vars = [])
    (hl : laidOutB C.prog = true) (hread : ∀ t ∈ fn.params.toList, C.prog.readableRec t = true ∧ t < C.prog.types.size)
    (walk : ∀ (W : World) (base : Nat) (args : Array Value) (ds : List (DataW H)), Args enc C.prog W base fn.params.toList args.toList ds → laidMetH C.prog laid W → Calls C.prog f args W (True1 W)) :
    ReturnsInHanded {} C os f .any ((OpenSpec.ofChange s).preRow enc C.prog fn [] false laid) (((OpenSpec.ofChange s).at F).post enc C.prog fn false true false false) := by
  refine returnsInHanded_of_row (C := C) (s := OpenSpec.ofChange s) own started noInit hfn witness ?_
  intro W base args ds gs before hval hW _ _ hsz hL _ _
  have hW : DataW.Whole enc C.prog fn.params.toList s.vars false W args.toList ds gs before := hW
  have hW' := hW
  obtain ⟨p, q, hA, hV, rfl, hfz, hnd⟩ := hW
  rw [hvars] at hV
  obtain ⟨rfl, rfl⟩ := trodVars_none hV
  have hlen : ds.length = fn.params.toList.length := trodAll_length _ _ _ _ hA
  have hargs : Args enc C.prog W base fn.params.toList args.toList ds := by
    refine args_of _ _ _ _ (fun j t v ht hv => hval j t v (by simpa using ht) (by simpa using hv)) hA fun n hn => ?_
    have := List.all_eq_true.1 hsz n (by
      have hv0 : (OpenSpec.ofChange s).bare.plain.varTypes C.prog = [] := by
        have : (OpenSpec.ofChange s).bare.plain.vars = s.vars := rfl
        simp [DataSpec.varTypes, this, hvars]
      rw [hv0]
      simpa using hn)
    simpa using this
  refine (walk W base args ds hargs hL).mono fun e W' ⟨he, hn⟩ => ?_
  subst he
  obtain ⟨e1, e2, e3⟩ := hspec (ds ++ []) (by simpa using hlen)
  have hlt : ∀ x ∈ p, x.block < W.heap.size := fun x hx => hW'.lt x (by simpa using hx)
  show ∃ v, _ ∧ s.post enc C.prog fn false true false false W args v W'
  refine ⟨_, rfl, ds, [], _, [], p, [], hW', ?_, ?_, ?_, hn.below.frame _, fun h => by cases h⟩
  · rw [e1, hres]
    exact trodAll_mk1 (shut_bool htb _)
  · rw [e2]
    simp only [List.append_nil]
    exact trodAll_stays hl hn.below _ _ _ _ hread hlt hA
  · rw [e3, hvars]
    rfl
end
end Go.Proofs.YtefoijnmnahfdaaDoor
