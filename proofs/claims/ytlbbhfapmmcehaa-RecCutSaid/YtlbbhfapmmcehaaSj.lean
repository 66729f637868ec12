/-
  Layer 2's contracts in the form that the statements' walks use: from a world that is the first one but for new memory to another such world.
-/
import Derived.Test.YtlbbhfapmmcehaaSi
import Derived.Test.YtlbbhfapmmcehaaSc
namespace Go.Proofs.Ytlbbhfapmmcehaa
set_option maxRecDepth 100000
open Go.ChangeShapes Go.WideShapes Go.ChangeAt Go.RowKit

theorem sNoughts_k {w0 wc : World} (A : Option Addr) (n c : Nat) (l : List Nat) (K : Hid (New w0 wc)) (ha : Hid (Bts w0 A n l)) (hn : n ≤ 140737488351232) (no : Nat) (h : noughts l = no) :
    Calls Try.prog 45 #[.slice A n c] wc fun e w' => e = .returned (.int .i64 no) ∧ Hid (New w0 w') := by
  subst h
  refine (sNoughts_any A n c l wc (ha.out.new K.out) (by omega)).mono ?_
  rintro e w' ⟨rfl, rfl⟩
  exact ⟨rfl, K.out⟩

theorem sBlank_k {w0 wc : World} (A : Option Addr) (n c : Nat) (l : List Nat) (K : Hid (New w0 wc)) (ha : Hid (Bts wc A n l)) (hn : n ≤ 140737488351232) (b : Bool) (h : blank l = b) :
    Calls Try.prog 43 #[.slice A n c] wc fun e w' => e = .returned (.bool b) ∧ wc = w' ∧ Hid (New w0 w') := by
  subst h
  refine (sBlank_any A n c l wc ha.out (by unfold maxLen; omega)).mono ?_
  rintro e w' ⟨rfl, rfl⟩
  exact ⟨rfl, rfl, K⟩

theorem same_k {w0 wc : World} (A B : Option Addr) (n m c d : Nat) (l k : List Nat) (K : Hid (New w0 wc)) (ha : Hid (Bts wc A n l)) (hb : Hid (Bts wc B m k)) (hn : n ≤ 140737488351232) (b : Bool) (h : decide (l = k) = b) :
    Calls Try.prog 11 #[.slice A n c, .slice B m d] wc fun e w' => e = .returned (.bool b) ∧ Hid (New wc w') ∧ Hid (New w0 w') := by
  subst h
  refine (same_any A B n m c d l k wc ha.out hb.out (by unfold maxLen; omega)).mono ?_
  rintro e w' ⟨q, rfl, rfl⟩
  exact ⟨rfl, (Kept.refl _ _).drewN q, K.out.drewN q⟩

/-- Get, with what it says named. -/
theorem sGet_k {w0 wc : World} (A : Option Addr) (n c : Nat) (l : List Nat) (K : Hid (New w0 wc)) (hb : Hid (Bts wc A n l)) (hc : n ≤ c) (hc2 : c ≤ 9223372036854775807) (k : Nat) (x : List Nat) (E : Int) (h : sGetK l = k ∧ sGetL l = x ∧ sGetE l = E) (m : Nat) (hm : x.length = m) :
    Calls Try.prog 22 #[.slice A n c] wc fun e w' => ∃ A' c', e = .returned (.tuple #[.int .u8 k, .slice A' m c', .int .i64 E]) ∧ Hid (OwnB w' 5 w0.heap.size A' c' x) ∧ Hid (New wc w') ∧ Hid (New w0 w') := by
  obtain ⟨rfl, rfl, rfl⟩ := h
  subst hm
  refine (sGet_any A n c l wc hb.out hc hc2).mono ?_
  rintro e w' ⟨A', c', rfl, ho, hk⟩
  exact ⟨A', c', rfl, ho.mono K.out.size, hk, K.out.new hk⟩

/-- Put, with what it answers named. -/
theorem sPut_k {w0 wc : World} (n : Int) (k : Nat) (A : Option Addr) (m c : Nat) (b : List Nat) (K : Hid (New w0 wc)) (hb : Hid (Bts wc A m b)) (hm : m ≤ 140737488351232) (p : List Nat) (E : Int) (h : sPutL n k b = p ∧ sPutE n k b = E) (q : Nat) (hq : p.length = q) :
    Calls Try.prog 28 #[.int .i64 n, .int .u8 k, .slice A m c] wc fun e w' => ∃ A' c', e = .returned (.tuple #[.slice A' q c', .int .i64 E]) ∧ Hid (PgB w' w0.heap.size A' c' p) ∧ c' = q ∧ Hid (New wc w') ∧ Hid (New w0 w') := by
  obtain ⟨rfl, rfl⟩ := h
  subst hq
  refine (sPut_any n k A m c b wc hb.out (by unfold maxLen; omega)).mono ?_
  rintro e w' ⟨A', c', rfl, ho, hk⟩
  obtain ⟨h1, h2⟩ := ho
  refine ⟨A', c', rfl, ⟨h1, ?_⟩, PgB.cap ⟨h1, h2⟩, hk, K.out.new hk⟩
  rcases h2 with h2 | ⟨g, junk, e1, e2, e3, e4⟩
  · exact .inl h2
  · exact .inr ⟨g, junk, e1, Nat.le_trans K.out.size e2, e3, e4⟩

theorem put_yes {n : Int} {k : Nat} {b : List Nat} (h : sPutE n k b = 0) : ∃ N : Nat, n = N ∧ isPg (N : Int) ∧ isKd k ∧ b.length + 5 ≤ N ∧ sPutL n k b = page N k b := by
  unfold sPutE at h
  split at h
  · rename_i h1
    split at h
    · rename_i h2
      have h3 := h1.1
      unfold isPg at h3
      refine ⟨n.toNat, by omega, by rw [Int.toNat_of_nonneg (by omega)]; exact h1.1, h1.2, by omega, ?_⟩
      unfold sPutL
      rw [if_pos ⟨h1.1, h1.2, h2⟩]
    · cases h
  · cases h

theorem wide_k {w0 wc : World} (A : Option Addr) (n c : Nat) (l : List Nat) (K : Hid (New w0 wc)) (ha : Hid (Bts wc A n l)) (hn : n ≤ 140737488351232) :
    Calls Try.prog 25 #[.slice A n c] wc fun e w' => ∃ g, e = .returned (.slice (some ⟨g, 0, none⟩) n (n + 3)) ∧ Hid (Blk w' g 5 ((l ++ [7, 7, 7]).map byt)) ∧ Hid (wc.heap.size ≤ g) ∧ Hid (New wc w') ∧ Hid (New w0 w') := by
  refine (wide_any A n c l wc ha.out hn).mono ?_
  rintro e w' ⟨g, rfl, h1, h2, h3⟩
  rw [ha.out.1]
  exact ⟨g, rfl, h1, h2, h3, K.out.new h3⟩

theorem left_k {w0 wc : World} (g n d : Nat) (A : Option Addr) (l : List Nat) (K : Hid (New w0 wc)) (hv : Hid (Blk wc g 5 ((l ++ [7, 7, 7]).map byt))) (ha : Hid (Bts wc A n l)) (hn : n ≤ 140737488351232) :
    Calls Try.prog 26 #[.slice (some ⟨g, 0, none⟩) n (n + 3), .slice A n d] wc fun e w' => e = .returned (.bool true) ∧ Hid (New wc w') ∧ Hid (New w0 w') := by
  refine (left_any g n d A l wc hv.out ha.out.1 ha.out hn).mono ?_
  rintro e w' ⟨q, rfl, rfl⟩
  exact ⟨rfl, (Kept.refl _ _).drewN q, K.out.drewN q⟩

theorem spoil_k {w0 wc : World} (A : Option Addr) (c B m by_ : Nat) (l : List Nat) (K : Hid (New w0 wc)) (h : Hid (OwnB wc 5 B A c l)) (hB : w0.heap.size ≤ B) (hm : l.length = m) :
    Calls Try.prog 24 #[.slice A m c, .int .u8 (by_ : Nat)] wc fun e w' => e = .returned (.tuple #[]) ∧ Hid (Kept (fun k => B ≤ k) wc w') ∧ Hid (New w0 w') := by
  subst hm
  refine (spoil_any A c B by_ l wc h.out).mono ?_
  rintro e w' ⟨rfl, hk⟩
  have hs : ∀ k, blkIs A k → B ≤ k := by
    rintro k ⟨a, ha, rfl⟩
    exact (h.out.at_ a ha).2
  exact ⟨rfl, hk.mono fun k _ hb => hs k hb, K.out.trans hk fun i hi hb => by have := hs i hb; omega⟩

theorem Bts.of_wide {w : World} {g n : Nat} {l : List Nat} (hv : Blk w g 5 ((l ++ [7, 7, 7]).map byt)) (hb : IsBytes l) (hn : l.length = n) : Bts w (some ⟨g, 0, none⟩) n l := by
  have := Bts.of_blk (off := 0) (l := l) (junk := [7, 7, 7].map byt) (by rw [← List.map_append]; exact hv) hb hn
  simpa using this
end Go.Proofs.Ytlbbhfapmmcehaa
