/-
  Contracts: bytes that are equal, bytes that are less: layer 2's and the reference's.
-/
import Derived.Test.YtlbbhfapmmcehaaSb
import Derived.Lib.Bytes
namespace Go.Proofs.Ytlbbhfapmmcehaa
set_option maxRecDepth 100000
open Go.ChangeShapes Go.WideShapes Go.ChangeAt Go.RowKit

def strOf (l : List Nat) : ByteArray := strOfNums (l.map Int.ofNat)
theorem strOf_nil : strOf [] = ByteArray.empty := by first | rfl | (apply ByteArray.ext; rfl)
theorem strOf_toList (l : List Nat) : (strOf l).toList = l.map UInt8.ofNat := by
  rw [strOf, Lib.strOfNums_toList]
  simp [Lib.bytesOf]
theorem ofNat_inj : ∀ (l k : List Nat), IsBytes l → IsBytes k → l.map UInt8.ofNat = k.map UInt8.ofNat → l = k
  | [], [], _, _, _ => rfl
  | x :: l, y :: k, hl, hk, h => by
    simp only [List.map_cons, List.cons.injEq] at h
    have e := congrArg UInt8.toNat h.1
    have h1 := hl.cons.1
    have h2 := hk.cons.1
    simp only [UInt8.toNat_ofNat'] at e
    rw [ofNat_inj l k hl.cons.2 hk.cons.2 h.2]
    have : x = y := by omega
    rw [this]
  | [], _ :: _, _, _, h => by simp at h
  | _ :: _, [], _, _, h => by simp at h
theorem strOf_beq (l k : List Nat) (hl : IsBytes l) (hk : IsBytes k) : ((strOf l).toList == (strOf k).toList) = decide (l = k) := by
  rw [strOf_toList, strOf_toList, Bool.eq_iff_iff]
  simp only [beq_iff_eq, decide_eq_true_iff]
  exact ⟨ofNat_inj l k hl hk, fun h => by rw [h]⟩

theorem conv_bts (A : Option Addr) (n c : Nat) (l : List Nat) (w : World) (h : Bts w A n l) : (convert 23 9 (.slice A n c)).run Try.prog w = .ok (.string (strOf l)) w := by
  rcases Nat.eq_zero_or_pos n with h0 | h0
  · subst h0
    obtain rfl : l = [] := List.eq_nil_of_length_eq_zero h.1
    rcases A with _ | a
    · rw [strOf_nil]
      exact run_convert_bytes_nil w _ _ Try.underlying23 Try.underlying5 _ _ _ Try.underlying9
    · have hl : (loadCells a 0).run Try.prog w = .ok (([] : List Int).map (Value.int .u8)).toArray w := by simpa using run_loadCells_list (P := Try.prog) w a [] (by simp)
      rw [run_convert_bytes_string w _ _ _ _ _ _ Try.underlying23 Try.underlying5 Try.underlying9, run_bytesToString w _ 0 c [] hl, strOf_nil]
      rfl
  · obtain ⟨g, o, rfl, hc⟩ := h.2.2 h0
    refine run_convert_bytes_arg w _ _ Try.underlying23 Try.underlying5 g o n c (l.map Int.ofNat) (by simpa using h.1) (fun i hi => ?_) _ Try.underlying9
    have hl : i < l.length := by rw [h.1]; exact hi
    rw [hc i l[i] (List.getElem?_eq_getElem hl)]
    simp [List.getD, List.getElem?_eq_getElem hl]

theorem unders_all (l k : List Nat) (n : Nat) (hl : l.length = n) (hk : k.length = n) (h : ∀ t x y : Nat, t < n → l[t]? = some x → k[t]? = some y → under x y = true) : less l k = !(decide (l = k)) := by
  have := (unders_iff l k (by omega)).2 fun t x y hx hy => h t x y (by rw [← hl]; exact (List.getElem?_eq_some_iff.1 hx).1) hx hy
  simp [less, this]
theorem unders_next {l k : List Nat} {j x y : Nat} (h : ∀ t x y : Nat, t < j → l[t]? = some x → k[t]? = some y → under x y = true) (hx : l[j]? = some x) (hy : k[j]? = some y) (hu : under x y = true) :
    ∀ t x y : Nat, t < j + 1 → l[t]? = some x → k[t]? = some y → under x y = true := by
  intro t u v ht hu' hv
  rcases Nat.lt_or_ge t j with h' | h'
  · exact h t u v h' hu' hv
  · obtain rfl : t = j := by omega
    rw [hx] at hu'; rw [hy] at hv
    injection hu' with hu'; injection hv with hv
    subst hu' hv
    exact hu
theorem less_no (l k : List Nat) (j x y : Nat) (hx : l[j]? = some x) (hy : k[j]? = some y) (h : under x y = false) : less l k = false := by simp [less, unders_no l k j x y hx hy h]
end Go.Proofs.Ytlbbhfapmmcehaa
