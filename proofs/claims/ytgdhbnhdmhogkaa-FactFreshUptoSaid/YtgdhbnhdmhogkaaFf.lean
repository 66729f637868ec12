/-
  Contracts: the reference's bytes of a key.
-/
import Derived.Test.YtgdhbnhdmhogkaaFe
namespace Go.Proofs.Ytgdhbnhdmhogkaa
open Go.RowKit

theorem Kept.of_grown {w w' : World} {row : Option Nat} (hg : w.grownBy w' row) : Kept (fun k => row = some k) w w' := (Kept.refl _ _).grown hg fun _ _ h => h
theorem Blk.grownO {w w' : World} {g : Nat} {t : TypeId} {cs : List Value} {A : Option Addr} {c B : Nat} {l : List Nat} (h : Blk w g t cs) (ho : OwnB w 5 B A c l) (hg : w.grownBy w' (A.map (·.block))) (hne : t ≠ 5) : Blk w' g t cs :=
  h.kept (Kept.of_grown hg) (by
    intro e
    obtain ⟨a, rfl, rfl⟩ := Option.map_eq_some_iff.1 e
    exact (ho.at_ a rfl).1.ne_of h.at_ (fun e => hne e.symm) rfl)
end Go.Proofs.Ytgdhbnhdmhogkaa
