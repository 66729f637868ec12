/-
  The page that layer 2's statements ask for by example.
  Contracts: bytes that are equal, bytes that are less: layer 2's and the reference's.
  Layer 2's contracts in the form that the statements' walks use: from a world that is the first one but for new memory to another such world.
-/
import Derived.Test.YtbiihjdjbknibaaSh
import Derived.Test.YtbiihjdjbknibaaSb
import Derived.Lib.Bytes
namespace Go.Proofs.Ytbiihjdjbknibaa

section
set_option maxRecDepth 100000
open Go.ChangeShapes Go.WideShapes Go.ChangeAt Go.RowKit

theorem ex_0 : (page 128 1 [])[0]? = some 23 := by decide +kernel
theorem ex_1 : (page 128 1 [])[1]? = some 0 := by decide +kernel
theorem ex_127 : (page 128 1 [])[127]? = some 255 := by decide +kernel
theorem ex_torn : sGetE ((page 128 1 []).set 127 127) = 7 := by decide +kernel

end

section
set_option maxRecDepth 100000
open Go.ChangeShapes Go.WideShapes Go.ChangeAt Go.RowKit

def strOf (l : List Nat) : ByteArray := strOfNums (l.map Int.ofNat)
theorem strOf_nil : strOf [] = ByteArray.empty := by first | rfl | (apply ByteArray.ext; rfl)
theorem strOf_toList (l : List Nat) : (strOf l).toList = l.map UInt8.ofNat := by
  rw [strOf, Lib.strOfNums_toList]
  simp [Lib.bytesOf]
theorem ofNat_inj : ∀ (l k : List Nat), IsBytes l → IsBytes k → l.map UInt8.ofNat = k.map UInt8.ofNat → l = k
  | [], [], _, _, _ => rfl
  | x :: l, y :: k, hl, hk, h => by
    simp only [List.map_cons, List.cons.injEq] at h
    have e := congrArg UInt8.toNat h.1
    have h1 := hl.cons.1
    have h2 := hk.cons.1
    simp only [UInt8.toNat_ofNat'] at e
    rw [ofNat_inj l k hl.cons.2 hk.cons.2 h.2]
    have : x = y := by omega
    rw [this]
  | [], _ :: _, _, _, h => by simp at h
  | _ :: _, [], _, _, h => by simp at h
theorem strOf_beq (l k : List Nat) (hl : IsBytes l) (hk : IsBytes k) : ((strOf l).toList == (strOf k).toList) = decide (l = k) := by
  rw [strOf_toList, strOf_toList, Bool.eq_iff_iff]
  simp only [beq_iff_eq, decide_eq_true_iff]
  exact ⟨ofNat_inj l k hl hk, fun h => by rw [h]⟩

theorem conv_bts (A : Option Addr) (n c : Nat) (l : List Nat) (w : World) (h : Bts w A n l) : (convert 25 9 (.slice A n c)).run Try.prog w = .ok (.string (strOf l)) w := by
  rcases Nat.eq_zero_or_pos n with h0 | h0
  · subst h0
    obtain rfl : l = [] := List.eq_nil_of_length_eq_zero h.1
    rcases A with _ | a
    · rw [strOf_nil]
      exact run_convert_bytes_nil w _ _ Try.underlying25 Try.underlying5 _ _ _ Try.underlying9
    · have hl : (loadCells a 0).run Try.prog w = .ok (([] : List Int).map (Value.int .u8)).toArray w := by simpa using run_loadCells_list (P := Try.prog) w a [] (by simp)
      rw [run_convert_bytes_string w _ _ _ _ _ _ Try.underlying25 Try.underlying5 Try.underlying9, run_bytesToString w _ 0 c [] hl, strOf_nil]
      rfl
  · obtain ⟨g, o, rfl, hc⟩ := h.2.2 h0
    refine run_convert_bytes_arg w _ _ Try.underlying25 Try.underlying5 g o n c (l.map Int.ofNat) (by simpa using h.1) (fun i hi => ?_) _ Try.underlying9
    have hl : i < l.length := by rw [h.1]; exact hi
    rw [hc i l[i] (List.getElem?_eq_getElem hl)]
    simp [List.getD, List.getElem?_eq_getElem hl]

theorem unders_all (l k : List Nat) (n : Nat) (hl : l.length = n) (hk : k.length = n) (h : ∀ t x y : Nat, t < n → l[t]? = some x → k[t]? = some y → under x y = true) : less l k = !(decide (l = k)) := by
  have := (unders_iff l k (by omega)).2 fun t x y hx hy => h t x y (by rw [← hl]; exact (List.getElem?_eq_some_iff.1 hx).1) hx hy
  simp [less, this]
theorem unders_next {l k : List Nat} {j x y : Nat} (h : ∀ t x y : Nat, t < j → l[t]? = some x → k[t]? = some y → under x y = true) (hx : l[j]? = some x) (hy : k[j]? = some y) (hu : under x y = true) :
    ∀ t x y : Nat, t < j + 1 → l[t]? = some x → k[t]? = some y → under x y = true := by
  intro t u v ht hu' hv
  rcases Nat.lt_or_ge t j with h' | h'
  · exact h t u v h' hu' hv
  · obtain rfl : t = j := by omega
    rw [hx] at hu'; rw [hy] at hv
    injection hu' with hu'; injection hv with hv
    subst hu' hv
    exact hu
theorem less_no (l k : List Nat) (j x y : Nat) (hx : l[j]? = some x) (hy : k[j]? = some y) (h : under x y = false) : less l k = false := by simp [less, unders_no l k j x y hx hy h]

end

section
set_option maxRecDepth 100000
open Go.ChangeShapes Go.WideShapes Go.ChangeAt Go.RowKit

theorem sNoughts_k {w0 wc : World} (A : Option Addr) (n c : Nat) (l : List Nat) (K : Hid (New w0 wc)) (ha : Hid (Bts w0 A n l)) (hn : n ≤ 140737488351232) (no : Nat) (h : noughts l = no) :
    Calls Try.prog 34 #[.slice A n c] wc fun e w' => e = .returned (.int .i64 no) ∧ Hid (New w0 w') := by
  subst h
  refine (sNoughts_any A n c l wc (ha.out.new K.out) (by omega)).mono ?_
  rintro e w' ⟨rfl, rfl⟩
  exact ⟨rfl, K.out⟩

theorem sBlank_k {w0 wc : World} (A : Option Addr) (n c : Nat) (l : List Nat) (K : Hid (New w0 wc)) (ha : Hid (Bts wc A n l)) (hn : n ≤ 140737488351232) (b : Bool) (h : blank l = b) :
    Calls Try.prog 32 #[.slice A n c] wc fun e w' => e = .returned (.bool b) ∧ wc = w' ∧ Hid (New w0 w') := by
  subst h
  refine (sBlank_any A n c l wc ha.out (by unfold maxLen; omega)).mono ?_
  rintro e w' ⟨rfl, rfl⟩
  exact ⟨rfl, rfl, K⟩

theorem same_k {w0 wc : World} (A B : Option Addr) (n m c d : Nat) (l k : List Nat) (K : Hid (New w0 wc)) (ha : Hid (Bts wc A n l)) (hb : Hid (Bts wc B m k)) (hn : n ≤ 140737488351232) (b : Bool) (h : decide (l = k) = b) :
    Calls Try.prog 14 #[.slice A n c, .slice B m d] wc fun e w' => e = .returned (.bool b) ∧ Hid (New wc w') ∧ Hid (New w0 w') := by
  subst h
  refine (same_any A B n m c d l k wc ha.out hb.out (by unfold maxLen; omega)).mono ?_
  rintro e w' ⟨q, rfl, rfl⟩
  exact ⟨rfl, (Kept.refl _ _).drewN q, K.out.drewN q⟩

/-- Get, with what it says named. -/
theorem sGet_k {w0 wc : World} (A : Option Addr) (n c : Nat) (l : List Nat) (K : Hid (New w0 wc)) (hb : Hid (Bts wc A n l)) (hc : n ≤ c) (hc2 : c ≤ 9223372036854775807) (k : Nat) (x : List Nat) (E : Int) (h : sGetK l = k ∧ sGetL l = x ∧ sGetE l = E) (m : Nat) (hm : x.length = m) :
    Calls Try.prog 16 #[.slice A n c] wc fun e w' => ∃ A' c', e = .returned (.tuple #[.int .u8 k, .slice A' m c', .int .i64 E]) ∧ Hid (OwnB w' 5 w0.heap.size A' c' x) ∧ Hid (New wc w') ∧ Hid (New w0 w') := by
  obtain ⟨rfl, rfl, rfl⟩ := h
  subst hm
  refine (sGet_any A n c l wc hb.out hc hc2).mono ?_
  rintro e w' ⟨A', c', rfl, ho, hk⟩
  exact ⟨A', c', rfl, ho.mono K.out.size, hk, K.out.new hk⟩

/-- Put, with what it answers named. -/
theorem sPut_k {w0 wc : World} (n : Int) (k : Nat) (A : Option Addr) (m c : Nat) (b : List Nat) (K : Hid (New w0 wc)) (hb : Hid (Bts wc A m b)) (hm : m ≤ 140737488351232) (p : List Nat) (E : Int) (h : sPutL n k b = p ∧ sPutE n k b = E) (q : Nat) (hq : p.length = q) :
    Calls Try.prog 46 #[.int .i64 n, .int .u8 k, .slice A m c] wc fun e w' => ∃ A' c', e = .returned (.tuple #[.slice A' q c', .int .i64 E]) ∧ Hid (PgB w' w0.heap.size A' c' p) ∧ c' = q ∧ Hid (New wc w') ∧ Hid (New w0 w') := by
  obtain ⟨rfl, rfl⟩ := h
  subst hq
  refine (sPut_any n k A m c b wc hb.out (by unfold maxLen; omega)).mono ?_
  rintro e w' ⟨A', c', rfl, ho, hk⟩
  obtain ⟨h1, h2⟩ := ho
  refine ⟨A', c', rfl, ⟨h1, ?_⟩, PgB.cap ⟨h1, h2⟩, hk, K.out.new hk⟩
  rcases h2 with h2 | ⟨g, junk, e1, e2, e3, e4⟩
  · exact .inl h2
  · exact .inr ⟨g, junk, e1, Nat.le_trans K.out.size e2, e3, e4⟩

theorem put_yes {n : Int} {k : Nat} {b : List Nat} (h : sPutE n k b = 0) : ∃ N : Nat, n = N ∧ isPg (N : Int) ∧ isKd k ∧ b.length + 5 ≤ N ∧ sPutL n k b = page N k b := by
  unfold sPutE at h
  split at h
  · rename_i h1
    split at h
    · rename_i h2
      have h3 := h1.1
      unfold isPg at h3
      refine ⟨n.toNat, by omega, by rw [Int.toNat_of_nonneg (by omega)]; exact h1.1, h1.2, by omega, ?_⟩
      unfold sPutL
      rw [if_pos ⟨h1.1, h1.2, h2⟩]
    · cases h
  · cases h

theorem spoil_k {w0 wc : World} (A : Option Addr) (c B m by_ : Nat) (l : List Nat) (K : Hid (New w0 wc)) (h : Hid (OwnB wc 5 B A c l)) (hB : w0.heap.size ≤ B) (hm : l.length = m) :
    Calls Try.prog 21 #[.slice A m c, .int .u8 (by_ : Nat)] wc fun e w' => e = .returned (.tuple #[]) ∧ Hid (Kept (fun k => B ≤ k) wc w') ∧ Hid (New w0 w') := by
  subst hm
  refine (spoil_any A c B by_ l wc h.out).mono ?_
  rintro e w' ⟨rfl, hk⟩
  have hs : ∀ k, blkIs A k → B ≤ k := by
    rintro k ⟨a, ha, rfl⟩
    exact (h.out.at_ a ha).2
  exact ⟨rfl, hk.mono fun k _ hb => hs k hb, K.out.trans hk fun i hi hb => by have := hs i hb; omega⟩

theorem Bts.of_wide {w : World} {g n : Nat} {l : List Nat} (hv : Blk w g 5 ((l ++ [7, 7, 7]).map byt)) (hb : IsBytes l) (hn : l.length = n) : Bts w (some ⟨g, 0, none⟩) n l := by
  have := Bts.of_blk (off := 0) (l := l) (junk := [7, 7, 7].map byt) (by rw [← List.map_append]; exact hv) hb hn
  simpa using this

end

end Go.Proofs.Ytbiihjdjbknibaa
