/-
  Contract: the numbers that the document tells.
-/
import Derived.Test.YtbiihjdjbknibaaJi
import Derived.Test.YtbiihjdjbknibaaJd
import Derived.Test.YtbiihjdjbknibaaJf
namespace Go.Proofs.Ytbiihjdjbknibaa
set_option maxRecDepth 100000
open Go.RowKit

/-- The change of the chapter's example. -/
def wkC : CT := ⟨⟨5, 1, ⟨#[]⟩, 0⟩, [], true⟩

theorem wk_put : puL 128 [wkC] = page 128 2 [1, 0, 5, 0, 1] ∧ puE 128 [wkC] = 0 := by
  have h1 : tlOk [wkC] = true := by decide +kernel
  have h2 : rbK [wkC] [wkC].length = [1, 0, 5, 0, 1] := by decide +kernel
  obtain ⟨e1, e2⟩ := pu_yes2 (z := 128) h1
  rw [e1, e2, h2]
  unfold sPutL sPutE
  rw [if_pos (by decide), if_pos (by decide), if_pos (by decide)]
  exact ⟨rfl, rfl⟩

theorem wk_len : (page 128 2 [1, 0, 5, 0, 1]).length = 128 := page_length 128 2 _ (by simp)

theorem wk_get : sGetE (page 128 2 [1, 0, 5, 0, 1]) = 0 ∧ sGetK (page 128 2 [1, 0, 5, 0, 1]) = 2 ∧ sGetL (page 128 2 [1, 0, 5, 0, 1]) = [1, 0, 5, 0, 1] := get_page 128 2 _ (by decide) (by decide) (by simp)

theorem wk_form : geE [0] = 5 := ge_zero (by decide +kernel) (by decide +kernel)
end Go.Proofs.Ytbiihjdjbknibaa
