/-
  Contracts of layer 5: rows of texts, rows compared, a text cut at a stroke.
-/
import Derived.Test.YtofolfginoadiaaVc
namespace Go.Proofs.Ytofolfginoadiaa
open Go.RowKit

/-- The slice (A, n) reads as the texts g. -/
def Txs (w : World) (A : Option Addr) (n : Nat) (g : List (List UInt8)) : Prop := RowV w A n 1 (g.map tx)

section
variable {S : Nat → Prop} {w w' : World} {A : Option Addr} {n : Nat} {g : List (List UInt8)}
theorem Txs.len (h : Txs w A n g) : g.length = n := by have := h.1; simpa using this
theorem Txs.kept (h : Txs w A n g) (hk : Kept S w w') (hn : ∀ a, A = some a → ¬ S a.block) : Txs w' A n g := RowV.kept h hk hn
theorem Txs.new (h : Txs w A n g) (hk : New w w') : Txs w' A n g := RowV.new h hk
theorem Txs.drewN (h : Txs w A n g) (k : Nat) : Txs (w.drewN k) A n g := h
theorem Txs.nil (w : World) (A : Option Addr) : Txs w A 0 [] := RowV.nil w A 1
theorem Txs.at_ {j : Nat} (h : Txs w A n g) (hj : j < n) : ∃ (b o : Nat) (x : List UInt8), A = some ⟨b, o, none⟩ ∧ g[j]? = some x ∧ w.cell? ⟨b, o + j, none⟩ = some (.string ⟨x.toArray⟩) := by
  have hl := h.len
  obtain ⟨b, o, e, hc⟩ := h.2 (by omega)
  have hj' : j < g.length := by omega
  exact ⟨b, o, g[j], e, List.getElem?_eq_getElem hj', hc j _ (by rw [List.getElem?_map, List.getElem?_eq_getElem hj']; rfl)⟩
theorem Txs.take {k : Nat} (h : Txs w A n g) (hk : k ≤ n) : Txs w A k (g.take k) := by
  have hl := h.len
  obtain ⟨h1, h2⟩ := h
  refine ⟨by simp; omega, fun h0 => ?_⟩
  obtain ⟨b, o, e, hc⟩ := h2 (by omega)
  refine ⟨b, o, e, fun j v hv => hc j v ?_⟩
  rw [List.map_take, List.getElem?_take] at hv
  split at hv
  · exact hv
  · cases hv
end

theorem txt_eq (x y : List UInt8) : ((⟨x.toArray⟩ : ByteArray).toList == (⟨y.toArray⟩ : ByteArray).toList) = decide (x = y) := by
  rw [Lib.toList_data, Lib.toList_data]
  by_cases h : x = y
  · subst h; simp
  · rw [decide_eq_false h]; simpa using h

/-- The row, of texts of the call's own. -/
def OwnT (w : World) (B : Nat) (A : Option Addr) (c : Nat) (g : List (List UInt8)) : Prop := OwnV w 9 1 B A g.length c (g.map tx)

theorem OwnT.txs {w : World} {B : Nat} {A : Option Addr} {c : Nat} {g : List (List UInt8)} (h : OwnT w B A c g) : Txs w A g.length g := OwnV.row h

theorem OwnT.new {w w' : World} {B : Nat} {A : Option Addr} {c : Nat} {g : List (List UInt8)} (h : OwnT w B A c g) (hk : New w w') : OwnT w' B A c g := OwnV.new h hk

theorem OwnT.nil (w : World) (B : Nat) : OwnT w B none 0 [] := OwnV.nil _ _ _ _

theorem OwnT.le {w : World} {B : Nat} {A : Option Addr} {c : Nat} {g : List (List UInt8)} (h : OwnT w B A c g) : g.length ≤ c ∧ c ≤ maxLen := ⟨h.2.1, h.2.2.1⟩

/-- A call only reads: a bool comes back. -/
def QuietT (w : World) (b : Bool) (e : Ending) (w' : World) : Prop := ∃ d, e = .returned (.bool b) ∧ w' = w.drewN d

set_option maxHeartbeats 800000 in
theorem texts_any (A B : Option Addr) (n m c d : Nat) (g h : List (List UInt8)) (w : World) (ha : Txs w A n g) (hb : Txs w B m h) (hn : n ≤ maxLen) :
    Calls Try.prog 10 #[.slice A n c, .slice B m d] w (QuietT w (decide (g = h))) := by
  unfold maxLen at hn
  have hg := ha.len
  have hh := hb.len
  by_cases hnm : n = m
  · subst hnm
    go_enter Try.func10, Try.ntmps10
    go_wp2
    go_loopw [5] (fun i wr => ∃ k q : Nat, k ≤ n ∧ i = .int .i64 k ∧ wr = w.drewN q ∧ Hid (g.take k = h.take k)) (fun i _ => n - (intOf i).toNat)
    case atStart => exact ⟨0, 0, Nat.zero_le _, rfl, rfl, rfl⟩
    case round =>
      obtain ⟨k, q, hk, rfl, rfl, heq⟩ := hrel
      by_cases hlt : k < n
      · obtain ⟨b, o, x, rfl, hx, hc⟩ := ha.at_ hlt
        obtain ⟨b', o', y, rfl, hy, hc'⟩ := hb.at_ hlt
        have HX := Lib.hid hx
        have HY := Lib.hid hy
        clear ha hb hx hy hg hh
        by_cases e : x = y
        · have E := Lib.hid e
          have hxy : (x == y) = true := by rw [e]; exact beq_self_eq_true y
          clear e
          go_wp2
          go_quiet (fail)
          go_wp2
          go_roundw
          case rel => exact ⟨k + 1, _, by omega, by go_num, rfl, by rw [Hid, List.take_add_one, List.take_add_one, HX.out, HY.out, heq.out, E.out]⟩
          case measure => simp [intOf]; omega
        · have hne : Hid (decide (g = h) = false) := decide_eq_false fun e2 => e (by rw [e2] at HX; have := HX.out.symm.trans HY.out; injection this)
          have hxy : (x == y) = false := beq_eq_false_iff_ne.2 e
          clear e
          go_wp2
          go_quiet (fail)
          go_wp2
          go_ret
          exact ⟨_, by rw [hne.out]; rfl, World.drewN_drewN _ _ _⟩
      · have e : k = n := by omega
        have hy : Hid (decide (g = h) = true) := decide_eq_true (by
          have := heq.out
          rwa [e, List.take_of_length_le (by omega), List.take_of_length_le (by omega)] at this)
        clear ha hb heq hg hh
        go_wp2
        go_ret
        exact ⟨q, by rw [hy.out]; rfl, rfl⟩
  · have hne : Hid (decide (g = h) = false) := decide_eq_false fun e => hnm (by rw [← hg, ← hh, e])
    have hnm' : ¬ ((n : Int) = (m : Int)) := by omega
    clear ha hb hg hh
    go_enter Try.func10, Try.ntmps10
    go_wp2
    go_ret
    exact ⟨0, by rw [hne.out]; rfl, rfl⟩

set_option maxHeartbeats 800000 in
theorem cut_miss (s : ByteArray) (w : World) (hi : Lib.indexByte s.data.toList 47 = -1) :
    Calls Try.prog 26 #[.string s, .string ⟨#[47]⟩] w fun e w' => e = .returned (.tuple #[.string s, .string ⟨#[]⟩, .bool false]) ∧ w' = w := by
  go_enter Try.func26, Try.ntmps26
  go_wp2_with (first
    | (go_at_call 35; refine (shIndex s 47 _).mono ?_; rintro e w1 ⟨rfl, rfl⟩; rw [hi])
    | go_in)
  go_ret3
  exact ⟨rfl, rfl⟩

set_option maxHeartbeats 800000 in
theorem cut_hit (s : ByteArray) (i : Nat) (w : World) (hi : Lib.indexByte s.data.toList 47 = i) (hlt : i < s.size) (hs : s.size ≤ maxLen) :
    Calls Try.prog 26 #[.string s, .string ⟨#[47]⟩] w fun e w' => ∃ d, e = .returned (.tuple #[.string (s.extract 0 i), .string (s.extract (i + 1) s.size), .bool true]) ∧ w' = w.drewN d := by
  unfold maxLen at hs
  go_enter Try.func26, Try.ntmps26
  go_wp2_with (first
    | (go_at_call 35; refine (shIndex s 47 _).mono ?_; rintro e w1 ⟨rfl, rfl⟩; rw [hi])
    | go_in)
  go_quiet (fail)
  go_wp2
  go_ret3
  exact ⟨_, rfl, rfl⟩
end Go.Proofs.Ytofolfginoadiaa
