/-
  Contracts: a reader that is made; the numbers that the document tells.
-/
import Derived.Test.YtgeojhopnegdjaaEd
import Derived.Test.YtgeojhopnegdjaaLift
import Derived.Lib.SlBytesConst
namespace Go.Proofs.Ytgeojhopnegdjaa
open Go.RowKit

def NewP (w : World) (l : List Nat) (e : Ending) (w' : World) : Prop :=
  ∃ g, e = .returned (.pointer (some ⟨g, 0, none⟩)) ∧ Rdr (fun b => w.heap.size ≤ b) w' g l ∧ w.heap.size ≤ g ∧ New w w'

theorem new_any (A : Option Addr) (n c : Nat) (l : List Nat) (w : World) (ha : Bts w A n l) (hn : n ≤ 140737488351232) (hA : A = none → c = 0 ∧ n = 0) :
    Calls Try.prog 15 #[.slice A n c] w (NewP w l) := by
  have HA := Lib.hid hA
  clear hA
  go_enter Try.func15, Try.ntmps15
  go_wp2_with (go_at_call 29; refine (clone_any A n c l _ ha hn HA.out).mono ?_; rintro e w1 ⟨A1, c1, rfl, hown, hk⟩; have HO := Lib.hid hown; have HK := Lib.hid hk; clear hown hk)
  go_ret
  have hal : New w1 (w1.alloc (.cells #[.bool true, .slice A1 l.length c1] 51)) := (Kept.refl _ _).alloc _
  exact ⟨w1.heap.size, rfl, ⟨A1, c1, Blk.made w1 _ _, HO.out.bts.new hal, fun a h => ⟨(HO.out.at_ a h).2, (HO.out.at_ a h).1.kept hal (fun f => f)⟩, HO.out.le.1, HO.out.le.2⟩, HK.out.size, HK.out.new hal⟩

theorem OwnB.keptR {w w' : World} {B : Nat} {A : Option Addr} {c g : Nat} {l : List Nat} (h : OwnB w 5 B A c l) (hk : Kept (· = g) w w') (hg : At w g 51) : OwnB w' 5 B A c l :=
  h.kept hk fun a ha => (h.at_ a ha).1.ne_of hg (by decide)

set_option maxHeartbeats 800000 in
theorem works_any (w : World) : Calls Try.prog 14 #[] w (True1 w) := by
  have kc := fun (w : World) (C : Array Value) (n c : Nat) => Lib.run_convert_bytes_const (P := Try.prog) w 23 5 C n c Try.underlying23 Try.underlying5
  go_enter Try.func14, Try.ntmps14
  go_wp2_with fail
  refine (eput_any 258 2 _ (by omega)).mono ?_
  rintro e w1 ⟨A1, c1, rfl, hown1, hk1⟩
  rw [show putL 258 2 = [2, 1] from by decide] at hown1 ⊢
  rw [show putE 258 2 = 0 from by decide]
  have HO1 := Lib.hid hown1
  have HK1 := Lib.hid hk1
  clear hown1 hk1
  go_wp2_with fail
  refine (new_any _ 5 5 [2, 1, 2, 97, 98] _ (Bts.lit w1 5 (0, 0) _ (by decide) _ rfl) (by omega) (fun h => by cases h)).mono ?_
  rintro e w2 ⟨g, rfl, hr2, hg2, hk2⟩
  have k2 := Lib.hid ((HK1.out.alloc (.cells (rawB [2, 1, 2, 97, 98]) 5)).new hk2)
  have o2 := Lib.hid ((HO1.out.new ((Kept.refl (fun _ => False) w1).alloc (.cells (rawB [2, 1, 2, 97, 98]) 5))).new hk2)
  have R2 := Lib.hid hr2.any
  have G2 := Lib.hid (Nat.le_trans (HK1.out.alloc (.cells (rawB [2, 1, 2, 97, 98]) 5)).size hg2)
  clear hr2 hg2 hk2 HO1 HK1
  go_wp2_with fail
  refine (etake_any g [2, 1, 2, 97, 98] 2 _ R2.out).mono ?_
  rintro e w3 ⟨rfl, hr3, hk3⟩
  rw [show takeV [2, 1, 2, 97, 98] 2 = 258 from by decide, show takeE [2, 1, 2, 97, 98] 2 = 0 from by decide]
  rw [show takeL [2, 1, 2, 97, 98] 2 = [2, 97, 98] from by decide] at hr3
  have k3 := Lib.hid (k2.out.trans hk3 (fun i hi e => by have := G2.out; omega))
  have o3 := Lib.hid (o2.out.keptR hk3 R2.out.at_)
  have R3 := Lib.hid hr3
  clear hr3 hk3 k2 o2 R2
  go_wp2_with fail
  refine (erow_ok g 2 [97, 98] _ R3.out (by decide)).mono ?_
  rintro e w4 ⟨A4, c4, rfl, hown4, hr4, hk4⟩
  rw [show ([97, 98] : List Nat).take 2 = [97, 98] from by decide] at hown4 ⊢
  rw [show ([97, 98] : List Nat).drop 2 = [] from by decide] at hr4
  have k4 := Lib.hid (k3.out.trans hk4 (fun i hi e => by have := G2.out; omega))
  have o4 := Lib.hid (o3.out.keptR hk4 R3.out.at_)
  have p4 := Lib.hid hown4
  have R4 := Lib.hid hr4
  clear hr4 hk4 k3 o3 R3 hown4
  go_wp2_with fail
  refine (etake_any g [] 1 _ R4.out).mono ?_
  rintro e w5 ⟨rfl, hr5, hk5⟩
  rw [show takeV [] 1 = 0 from by decide, show takeE [] 1 = 4 from by decide]
  rw [show takeL [] 1 = [] from by decide] at hr5
  have k5 := Lib.hid (k4.out.trans hk5 (fun i hi e => by have := G2.out; omega))
  have o5 := Lib.hid (o4.out.keptR hk5 R4.out.at_)
  have p5 := Lib.hid (p4.out.keptR hk5 R4.out.at_)
  have R5 := Lib.hid hr5
  clear hr5 hk5 k4 o4 R4 p4
  go_wp2_with fail
  have ha5 : New w5 (w5.alloc (.cells (rawB [2, 1]) 5)) := (Kept.refl _ _).alloc _
  refine (same_eq _ _ _ _ _ [2, 1] _ (o5.out.new ha5).bts (Bts.lit w5 5 (0, 0) [2, 1] (by decide) _ rfl) (by decide)).mono ?_
  rintro e w6 ⟨d6, rfl, hw6⟩
  have k6 : Hid (New w w6) := by rw [hw6]; exact ((k5.out.new ha5).drewN d6)
  have p6 : Hid (OwnB w6 5 w3.heap.size A4 c4 [97, 98]) := by rw [hw6]; exact ((p5.out.new ha5).drewN d6)
  have R6 : Hid (Rdr Any w6 g []) := by rw [hw6]; exact ((R5.out.new ha5).drewN d6)
  clear k5 p5 R5 o5 ha5 hw6
  go_wp2_with fail
  have ha6 : New w6 (w6.alloc (.cells (rawB [97, 98]) 5 (2, 3))) := (Kept.refl _ _).alloc _
  refine (same_eq _ _ _ _ _ [97, 98] _ (p6.out.new ha6).bts (Bts.lit w6 5 (2, 3) [97, 98] (by decide) _ rfl) (by decide)).mono ?_
  rintro e w7 ⟨d7, rfl, hw7⟩
  have k7 : Hid (New w w7) := by rw [hw7]; exact ((k6.out.new ha6).drewN d7)
  have R7 : Hid (Rdr Any w7 g []) := by rw [hw7]; exact ((R6.out.new ha6).drewN d7)
  clear k6 p6 R6 ha6 hw7
  go_wp2_with (go_at_call 19; refine (eleft_any g [] _ R7.out).mono ?_; rintro e w8 ⟨rfl, rfl⟩)
  go_ret
  exact ⟨rfl, k7.out⟩
end Go.Proofs.Ytgeojhopnegdjaa
