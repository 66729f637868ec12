/-
  A pair's act.
-/
import Derived.Test.YtfhngcnphcjmgaaRm
namespace Go.Proofs.Ytfhngcnphcjmgaa
open Go.ChangeShapes Go.WideShapes Go.ChangeAt Go.RowKit

set_option maxRecDepth 100000 in
set_option maxHeartbeats 1600000 in
theorem pAct_other (gp : Nat) (d b p f : Int) (A B : Option Addr) (n c m e : Nat) (w : World) (hd : d < 1 ∨ 5 < d) (K : Ending → World → Prop) (h : ∀ w', New w w' → K (.returned (.bool true)) w') :
    Calls Try.prog 47 #[.pointer (some ⟨gp, 0, none⟩), .agg #[.int .i64 d, .int .i64 b, .int .i64 p, .int .u8 f, .slice A n c, .slice B m e]] w K := by
  have H := Lib.hid h
  clear h
  have e1 : ¬ d = 1 := by omega
  have e2 : ¬ d = 2 := by omega
  have e3 : ¬ d = 3 := by omega
  have e4 : ¬ d = 4 := by omega
  have e5 : ¬ d = 5 := by omega
  go_enter Try.func47, Try.ntmps47
  go_wp2
  exact H.out _ ((Kept.refl _ _).alloc _)

set_option maxRecDepth 100000 in
set_option maxHeartbeats 1600000 in
theorem pAct_erase (w0 : World) (gp : Nat) (Qc Qr : Nat → Prop) (g gr : Nat) (s : CSt) (b p f : Int) (A B : Option Addr) (n c m e : Nat) (w : World) (hp : Pair w0 w gp Qc Qr g gr s) (hd : s.deeds < 4611686018427387904) (K : Ending → World → Prop)
    (h : ∀ w', Pair w0 w' gp Qc Qr g gr (erasS s b) → Kept (fun x => Qc x ∨ Qr x) w w' → K (.returned (.bool true)) w') :
    Calls Try.prog 47 #[.pointer (some ⟨gp, 0, none⟩), .agg #[.int .i64 2, .int .i64 b, .int .i64 p, .int .u8 f, .slice A n c, .slice B m e]] w K := by
  have HP := Lib.hid hp
  have HD := Lib.hid hd
  have HK := Lib.hid h
  clear hp hd h
  go_enter Try.func47, Try.ntmps47
  go_wp2
  have N1 : Hid (New w (w.alloc (.cells #[.int .i64 2, .int .i64 b, .int .i64 p, .int .u8 f, .slice A n c, .slice B m e] 33))) := (Kept.refl _ _).alloc _
  have P1 : Hid (Blk (w.alloc (.cells #[.int .i64 2, .int .i64 b, .int .i64 p, .int .u8 f, .slice A n c, .slice B m e] 33)) w.heap.size 33 [.int .i64 2, .int .i64 b, .int .i64 p, .int .u8 f, .slice A n c, .slice B m e]) := Blk.made w _ _
  generalize w.alloc (.cells #[.int .i64 2, .int .i64 b, .int .i64 p, .int .u8 f, .slice A n c, .slice B m e] 33) = w1 at *
  have HP1 := Lib.hid (HP.out.new N1.out)
  have nc : ¬ Qc w.heap.size := fun q => by
    obtain ⟨gc, gb, bl, bb, cc, cb, Ah, ch, hh⟩ := HP.out.chip
    exact absurd (hh.low _ q) (Nat.lt_irrefl _)
  have nr : ¬ Qr w.heap.size := fun q => absurd (HP.out.ref.low _ q) (Nat.lt_irrefl _)
  have SB : Hid (∀ wx wy, Kept Qc w1 wx → Kept Qr wx wy → wy.cell? ⟨gp, 0, none⟩ = some (.pointer (some ⟨g, 0, none⟩)) ∧ wy.cell? ⟨gp, 1, none⟩ = some (.pointer (some ⟨gr, 0, none⟩)) ∧ wy.cell? ⟨w.heap.size, 1, none⟩ = some (.int .i64 b)) := fun wx wy h1 h2 =>
    have q1 := (HP1.out.pair.kept h1 HP1.out.pc).kept h2 HP1.out.pr
    have q2 := (P1.out.kept h1 nc).kept h2 nr
    ⟨q1.cell 0, q1.cell 1, q2.cell 1⟩
  have NC : Hid (NChip Qc w1.drew g s) := HP1.out.chip.new ((Kept.refl _ _).drew)
  have RC : Hid (∀ wx, Kept Qc w1.drew wx → RChip Qr wx gr s) := fun wx h1 => (HP1.out.ref.new ((Kept.refl _ _).drew)).kept h1 fun x h2 h3 => HP1.out.apart x h3 h2
  have DR : Hid (Kept Qc w1 w1.drew) := (Kept.refl _ _).drew
  obtain ⟨s1, s2, s3⟩ := SB.out w1 w1 (Kept.refl _ _) (Kept.refl _ _)
  go_wp2_with fail
  go_region_held3 (fun wx => wx.cell? ⟨gp, 0, none⟩ = some (.pointer (some ⟨g, 0, none⟩)) ∧ wx.cell? ⟨gp, 1, none⟩ = some (.pointer (some ⟨gr, 0, none⟩)) ∧ wx.cell? ⟨w.heap.size, 1, none⟩ = some (.int .i64 b))
    (first
      | assumption
      | exact SB.out _ _ (Kept.refl _ _) (Kept.refl _ _)
      | exact SB.out _ _ DR.out (Kept.refl _ _)
      | exact SB.out _ _ (DR.out.trans KA.out fun _ _ x => x) KB.out
      | exact SB.out _ _ (DR.out.trans KA.out fun _ _ x => x) (Kept.refl _ _)
      | fail)
    (first
      | (go_at_call 18; refine (nErase_any Qc g s b _ NC.out HD.out).mono ?_; rintro e wA ⟨rfl, h1, h2⟩; have CA := Lib.hid h1; have KA := Lib.hid h2; clear h1 h2)
      | (go_at_call 97; refine (rErase_any Qr gr s b _ (RC.out _ KA.out) HD.out).mono ?_; rintro e wB ⟨rfl, h1, h2⟩; have CB := Lib.hid h1; have KB := Lib.hid h2; clear h1 h2))
  all_goals
    have HE : Hid (Pair w0 wB gp Qc Qr g gr (erasS s b)) :=
      { HP.out with pair := (HP1.out.pair.kept (DR.out.trans KA.out fun _ _ x => x) HP1.out.pc).kept KB.out HP1.out.pr, chip := CA.out.kept KB.out fun x h1 h2 => HP1.out.apart x h1 h2, ref := CB.out }
    have HKK : Hid (Kept (fun x => Qc x ∨ Qr x) w wB) :=
      ((N1.out.mono (S' := fun x => Qc x ∨ Qr x) fun _ _ f => f.elim).trans (DR.out.trans KA.out fun _ _ x => x) fun _ _ x => .inl x).trans KB.out fun _ _ x => .inr x
    go_wp2
    exact HK.out _ HE.out HKK.out
end Go.Proofs.Ytfhngcnphcjmgaa
