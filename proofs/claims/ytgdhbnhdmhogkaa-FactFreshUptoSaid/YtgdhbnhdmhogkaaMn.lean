/-
  The contracts of facts in the form that statements' walks use; one change.
-/
import Derived.Test.YtgdhbnhdmhogkaaMm
namespace Go.Proofs.Ytgdhbnhdmhogkaa
open Go.RowKit

/-- The slice (A, n, c) reads as the facts l. -/
def LsA (u : World) (A : Option Addr) (n c : Nat) (l : List FT) : Prop := ∃ es, FIn u A n es ∧ fts es = l ∧ n ≤ c ∧ c ≤ maxLen
theorem LsA.new {u v : World} {A : Option Addr} {n c : Nat} {l : List FT} (h : LsA u A n c l) (hk : New u v) : LsA v A n c l := by
  obtain ⟨es, h1, h2⟩ := h
  exact ⟨es, h1.new hk, h2⟩
theorem LsA.len {u : World} {A : Option Addr} {n c : Nat} {l : List FT} (h : LsA u A n c l) : l.length = n := by
  obtain ⟨es, h1, h2, _⟩ := h
  rw [← h2, fts_len, h1.len]
theorem LsA.nil (u : World) : LsA u none 0 0 [] := ⟨[], FIn.nil _ _, rfl, Nat.le_refl _, by simp⟩

theorem LsA.at_ {u : World} {A : Option Addr} {n c : Nat} {l : List FT} {i : Nat} (h : LsA u A n c l) (hi : i < n) : ∃ (g o : Nat) (x : FT), A = some ⟨g, o, none⟩ ∧ l[i]? = some x ∧
    u.cell? ⟨g, o + i * 5, none⟩ = some (.int .i64 x.k.i) ∧ u.cell? ⟨g, o + i * 5 + 1, none⟩ = some (.int .u8 (x.k.t : Nat)) ∧ u.cell? ⟨g, o + i * 5 + 2, none⟩ = some (.string x.k.n) ∧ u.cell? ⟨g, o + i * 5 + 3, none⟩ = some (.int .i64 x.k.c) := by
  obtain ⟨es, h1, h2, _⟩ := h
  obtain ⟨g, o, x, e1, e2, _, x0, x1, x2, x3, _⟩ := h1.at_ hi
  refine ⟨g, o, x.f, e1, ?_, x0, x1, x2, x3⟩
  rw [← h2]
  unfold fts
  rw [List.getElem?_map, e2]
  rfl

theorem ap1_len {l : List FT} (h : ordF l = true) (c : CT) : (apF l [c]).length ≤ l.length + 1 := by
  rw [← runA_ap h [c] ⟨by simp, trivial⟩, List.length_append]
  exact runA_len l [c]
theorem ap_twice {l : List FT} (h : ordF l = true) (c : CT) : apF (apF l [c]) [c] = apF l [c] := by
  show apF l [c, c] = apF l [c]
  refine ap_same h fun k => ?_
  simp only [lastC]
  split <;> rfl
theorem find_own {l : List FT} (c : CT) : findF (apF l [c]) c.k = if c.g then none else some c.v := by
  rw [find_ap]
  simp [lastC]
theorem find_other {l : List FT} (c : CT) {k : KY} (h : ¬ c.k = k) : findF (apF l [c]) k = findF l k := by
  rw [find_ap]
  simp [lastC, h]

/-- What Apply of one change leaves. -/
def Ap1 (u : World) (l : List FT) (e : Ending) (w' : World) : Prop := ∃ A n c, e = .returned (.slice A n c) ∧ LsA w' A n c l ∧ New u w'

theorem LsA.of_ap {u w' : World} {l : List FT} {cs : List CT} {e : Ending} (ho : ordF l = true) (h : ApP u l cs e w') : Ap1 u (apF l cs) e w' := by
  obtain ⟨A, c, es, he, h1, h2, h3⟩ := h
  rw [if_pos ho] at h1
  exact ⟨A, es.length, c, he, ⟨es, h2.in_, h1, h2.1.2.1, h2.1.2.2.1⟩, h3⟩
theorem apply1_any (A : Option Addr) (n c : Nat) (l : List FT) (g : Nat) (x : CE) (u : World) (h : LsA u A n c l) (ho : ordF l = true) (hn : n ≤ 1000) (hb : Blk u g 45 [.int .i64 x.f.k.i, .int .u8 (x.f.k.t : Nat), .string x.f.k.n, .int .i64 x.f.k.c, .slice x.A x.f.v.length x.c, .bool x.f.g]) (hx : COk u x) :
    Calls Try.prog 5 #[.slice A n c, .slice (some ⟨g, 0, none⟩) 1 1] u (Ap1 u (apF l [x.f])) := by
  obtain ⟨es, h1, rfl, h3, h4⟩ := h
  refine (apply_any A n c es (some ⟨g, 0, none⟩) 1 1 [x] u h1 ⟨h3, h4⟩ ⟨⟨rfl, fun _ => ⟨g, 0, rfl, fun j v hj => by rw [Nat.zero_add, hb.cell]; exact hj⟩⟩, fun e he => ?_⟩ (fun h => by cases h) (by omega) (by omega) (sort_one (Nat.le_refl _))).mono fun e w' hh => LsA.of_ap ho hh
  simp only [List.mem_cons, List.not_mem_nil, or_false] at he
  subst he
  exact hx
theorem apply0_any (u : World) : Calls Try.prog 5 #[.slice none 0 0, .slice none 0 0] u (Ap1 u []) :=
  (apply_any none 0 0 [] none 0 0 [] u (FIn.nil _ _) ⟨Nat.le_refl _, by simp⟩ (CIn.nil _ _) (fun _ => ⟨rfl, rfl⟩) (by omega) (by omega) (sort_one (Nat.zero_le _))).mono fun _ _ hh => LsA.of_ap (cs := []) rfl hh

/-- What Find answers, of facts in order. -/
def Fn1 (u : World) (r : Option (List Nat)) (e : Ending) (w' : World) : Prop := ∃ A c, e = .returned (.tuple #[.slice A (r.getD []).length c, .bool r.isSome]) ∧ Bts w' A (r.getD []).length (r.getD []) ∧ New u w' ∧ (r.getD []).length ≤ maxLen
theorem find1_any (A : Option Addr) (n c : Nat) (l : List FT) (k : KY) (u : World) (h : LsA u A n c l) (ho : ordF l = true) :
    Calls Try.prog 7 #[.slice A n c, .agg #[.int .i64 k.i, .int .u8 (k.t : Nat), .string k.n, .int .i64 k.c]] u (Fn1 u (findF l k)) := by
  obtain ⟨es, h1, rfl, h3, h4⟩ := h
  refine (find_any A n c es k u h1 (Nat.le_trans h3 h4)).mono ?_
  rintro e w' ⟨A2, c2, he, h5, h6⟩
  unfold findR at he h5
  rw [if_pos ho] at he h5
  exact ⟨A2, c2, he, h5.bts, h6, Nat.le_trans h5.le.1 h5.le.2⟩
/-- Same, of facts that are the same. -/
theorem sameF_yes (A B : Option Addr) (n m c d : Nat) (l : List FT) (u : World) (h : LsA u A n c l) (k : LsA u B m d l) : Calls Try.prog 11 #[.slice A n c, .slice B m d] u (True1 u) := by
  obtain ⟨es, h1, h2, h3, h4⟩ := h
  obtain ⟨fs, k1, k2, k3, k4⟩ := k
  refine (sameF_any A B n m c d es fs u h1 k1 (Nat.le_trans h3 h4)).mono ?_
  rintro e w' ⟨he, hk⟩
  rw [h2, k2, decide_eq_true rfl] at he
  exact ⟨he, hk⟩
theorem same_yes (A B : Option Addr) (n m c d : Nat) (l : List Nat) (u : World) (h : Bts u A n l) (k : Bts u B m l) (hn : n ≤ maxLen) : Calls Try.prog 10 #[.slice A n c, .slice B m d] u (True1 u) := by
  refine (same_any A B n m c d l l u h k hn).mono ?_
  rintro e w' ⟨q, he, rfl⟩
  exact ⟨by rw [he, decide_eq_true rfl], (Kept.refl _ _).drewN q⟩
end Go.Proofs.Ytgdhbnhdmhogkaa
