/-
  Contract: a page of the call's own spoilt.
-/
import Derived.Test.YtbiihjdjbknibaaJb
import Derived.Test.YtbiihjdjbknibaaJw
namespace Go.Proofs.Ytbiihjdjbknibaa
set_option maxRecDepth 100000
open Go.RowKit

theorem set_bytJ (xs : List Nat) (junk : List Value) (k y : Nat) (v : Value) (hk : k < xs.length) (hv : v = byt y) : (xs.map byt ++ junk).set k v = (xs.set k y).map byt ++ junk := by
  rw [List.set_append_left _ _ (by rw [List.length_map]; exact hk), set_byt xs k y v hv]

set_option maxHeartbeats 1600000 in
theorem spoilP_any (A : Option Addr) (c B by_ : Nat) (l : List Nat) (w : World) (h : PgB w B A c l) (hm : l.length ≤ maxLen) :
    Calls Try.prog 21 #[.slice A l.length c, .int .u8 (by_ : Nat)] w (fun e w' => e = .returned (.tuple #[]) ∧ Kept (InRow A) w w') := by
  obtain ⟨hall, ⟨rfl, rfl, rfl⟩ | ⟨g, junk, rfl, hB, hblk, rfl⟩⟩ := h
  · go_enter Try.func21, Try.ntmps21
    go_wp2
    refine wp_loop_rounds 1 ?_
    rw [rounds_succ]
    go_wp2
    go_end0
    exact ⟨rfl, Kept.refl _ _⟩
  · have HB := Lib.hid hblk
    have HA : Hid (∀ x ∈ l, x < 256) := hall
    unfold maxLen at hm
    clear hblk hall
    generalize hc : l.length = c at *
    have HLen := Lib.hid hc
    clear hc
    go_enter Try.func21, Try.ntmps21
    go_wp2
    go_loopw [5] (fun i wr => ∃ (k : Nat) (xs : List Nat), k ≤ c ∧ i = .int .i64 k ∧ xs.length = c ∧ (∀ x ∈ xs, x < 256) ∧ Blk wr g 5 (xs.map byt ++ junk) ∧ Kept (InRow (some ⟨g, 0, none⟩)) w wr) (fun i _ => c - (intOf i).toNat)
    case atStart => exact ⟨0, l, by omega, rfl, HLen.out, HA.out, HB.out, Kept.refl _ _⟩
    case round =>
      obtain ⟨k, xs, hk, rfl, hl, hbd, hblk, hkept⟩ := hrel
      have HL := Lib.hid hl
      have HBD := Lib.hid hbd
      have HBK := Lib.hid hblk
      have HK := Lib.hid hkept
      clear hl hbd hblk hkept HB HA HLen
      by_cases hlt : k < c
      · have hkl : k < xs.length := by rw [HL.out]; exact hlt
        have hcell : wr.cell? ⟨g, k, none⟩ = some (.int .u8 ((xs[k] : Nat) : Int)) := by
          rw [HBK.out.cell, List.getElem?_append_left (by rw [List.length_map]; exact hkl), List.getElem?_map, List.getElem?_eq_getElem hkl]
          rfl
        have hxk : xs[k] < 256 := HBD.out _ (List.getElem_mem hkl)
        have hfree := HBK.out.free k
        generalize xs[k] = x at *
        go_wp2
        go_roundw
        case rel =>
          have hb1 := HBK.out.put k (.int .u8 (((x : Int) + by_) % 256))
          rw [set_bytJ xs junk k ((x + by_) % 256) (.int .u8 (((x : Int) + by_) % 256)) hkl (by unfold byt; rfl)] at hb1
          refine ⟨k + 1, xs.set k ((x + by_) % 256), by omega, by go_num, by rw [List.length_set, HL.out], ?_, hb1, HK.out.setCell (p := ⟨g, k, none⟩) (fun _ => ⟨⟨g, 0, none⟩, rfl, rfl⟩) _⟩
          intro y hy
          rcases List.mem_or_eq_of_mem_set hy with h | h
          · exact HBD.out y h
          · omega
        case measure => simp [intOf]; omega
      · go_wp2
        go_end0
        exact ⟨rfl, HK.out⟩

/-- A row of changes that is read, with values of the call's own, whatever they are. -/
def ChX (w : World) (B : Nat) (A : Option Addr) (es : List CE) : Prop := RowV w A es.length 6 (ces es) ∧ (∀ a, A = some a → At w a.block 78) ∧ ∀ e ∈ es, OwnR w B e.A e.c e.f.v.length

theorem ChX.of {w : World} {B c : Nat} {A : Option Addr} {es : List CE} (h : COwn w B A c es) : ChX w B A es := ⟨h.1.row, fun a ha => (h.1.at_ a ha).1, fun e he => (h.2 e he).1.ownR⟩

theorem ChX.new {w w' : World} {B : Nat} {A : Option Addr} {es : List CE} (h : ChX w B A es) (hk : New w w') : ChX w' B A es :=
  ⟨h.1.new hk, fun a ha => (h.2.1 a ha).kept hk id, fun e he => (h.2.2 e he).kept hk fun _ _ f => f⟩

theorem ChX.spoilt {w w' : World} {B : Nat} {A : Option Addr} {es : List CE} {e : CE} {E : Ending} (h : ChX w B A es) (he : e ∈ es) (hs : SpoilQ w e.A e.c E w') : ChX w' B A es := by
  have ho := h.2.2 e he
  have hne : ∀ a, A = some a → ¬ InRow e.A a.block := fun a ha ⟨b, hb, e2⟩ => (h.2.1 a ha).ne_of (e2 ▸ (ho.at_ b hb).1) (by decide) rfl
  exact ⟨h.1.kept hs.2.1 hne, fun a ha => (h.2.1 a ha).kept hs.2.1 (hne a ha), fun x hx => (h.2.2 x hx).spoilt ho hs⟩

/-- What was there ahead of a row's own blocks stays. -/
theorem new_spoilt {w0 w w' : World} {c n : Nat} {A : Option Addr} {E : Ending} (hk : New w0 w) (ho : OwnR w w0.heap.size A c n) (hs : SpoilQ w A c E w') : New w0 w' :=
  hk.trans hs.2.1 fun i hi ⟨b, hb, e⟩ => by have := (ho.at_ b hb).2; omega
end Go.Proofs.Ytbiihjdjbknibaa
