/-
  Contracts: a reader that is made; the numbers that the document tells.
-/
import Derived.Test.YtlbbhfapmmcehaaEd
import Derived.Test.YtlbbhfapmmcehaaLift
import Derived.Lib.SlBytesConst
namespace Go.Proofs.Ytlbbhfapmmcehaa
set_option maxRecDepth 100000
open Go.RowKit

def NewP (w : World) (l : List Nat) (e : Ending) (w' : World) : Prop :=
  ∃ g, e = .returned (.pointer (some ⟨g, 0, none⟩)) ∧ Rdr (fun b => w.heap.size ≤ b) w' g l ∧ w.heap.size ≤ g ∧ New w w'

theorem new_any (A : Option Addr) (n c : Nat) (l : List Nat) (w : World) (ha : Bts w A n l) (hn : n ≤ 140737488351232) (hA : A = none → c = 0 ∧ n = 0) :
    Calls Try.prog 32 #[.slice A n c] w (NewP w l) := by
  have HA := Lib.hid hA
  clear hA
  go_enter Try.func32, Try.ntmps32
  go_wp2_with (go_at_call 48; refine (clone_any A n c l _ ha hn HA.out).mono ?_; rintro e w1 ⟨A1, c1, rfl, hown, hk⟩; have HO := Lib.hid hown; have HK := Lib.hid hk; clear hown hk)
  go_ret
  have hal : New w1 (w1.alloc (.cells #[.bool true, .slice A1 l.length c1] 85)) := (Kept.refl _ _).alloc _
  exact ⟨w1.heap.size, rfl, ⟨A1, c1, Blk.made w1 _ _, HO.out.bts.new hal, fun a h => ⟨(HO.out.at_ a h).2, (HO.out.at_ a h).1.kept hal (fun f => f)⟩, HO.out.le.1, HO.out.le.2⟩, HK.out.size, HK.out.new hal⟩

theorem OwnB.keptR {w w' : World} {B : Nat} {A : Option Addr} {c g : Nat} {l : List Nat} (h : OwnB w 5 B A c l) (hk : Kept (· = g) w w') (hg : At w g 85) : OwnB w' 5 B A c l :=
  h.kept hk fun a ha => (h.at_ a ha).1.ne_of hg (by decide)
end Go.Proofs.Ytlbbhfapmmcehaa
