/-
  Layer 10: the contracts of room's functions, over numbers.
-/
import Derived.Test.YtefoijnmnahfdaaDoorRma
namespace Go.Proofs.YtefoijnmnahfdaaDoor
open Go.RowKit

/-- Each number of a geometry is within its bound. -/
def wiB (a b c d : Int) : Bool := inB a 8 64 && (inB b 4 32 && (inB c 128 256 && inB d 0 4))
theorem wiB_yes {a b c d : Int} (h : wiB a b c d = true) : (8 ≤ a ∧ a ≤ 64) ∧ (4 ≤ b ∧ b ≤ 32) ∧ (128 ≤ c ∧ c ≤ 256) ∧ (0 ≤ d ∧ d ≤ 4) := by
  simp [wiB, inB] at h
  exact ⟨h.1, h.2.1, h.2.2.1, h.2.2.2⟩
theorem wiB_of {a b c d : Int} (h : (8 ≤ a ∧ a ≤ 64) ∧ (4 ≤ b ∧ b ≤ 32) ∧ (128 ≤ c ∧ c ≤ 256) ∧ (0 ≤ d ∧ d ≤ 4)) : wiB a b c d = true := by
  simp [wiB, inB]
  exact ⟨h.1, h.2.1, h.2.2.1, h.2.2.2⟩

theorem wrapI {x : Int} (h1 : -4611686018427387904 ≤ x) (h2 : x ≤ 4611686018427387904) : IntKind.i64.wrap x = x := by rw [IntKind.wrap_i64]; omega
theorem wrapJ {x : Int} (h1 : -4611686018427387904 ≤ x) (h2 : x ≤ 4611686018427387904) : wrap64 x = x := by unfold wrap64; omega

set_option maxHeartbeats 1600000 in
theorem isWithin_any (a b c d : Int) (w : World) (hB : Bd w) :
    Calls Tryd.prog 12 #[.agg #[.int .i64 a, .int .i64 b, .int .i64 c, .int .i64 d]] w (BoolN w (wiB a b c d)) := by
  have HB := Lib.hid hB
  clear hB
  have i0 : ∀ u, (Instr.index 36 (.agg #[.int .i64 a, .int .i64 b, .int .i64 c, .int .i64 d]) (.int .i64 0)).run Tryd.prog u = .ok (.int .i64 a) u := fun _ => by kernel_rfl
  have i1 : ∀ u, (Instr.index 36 (.agg #[.int .i64 a, .int .i64 b, .int .i64 c, .int .i64 d]) (.int .i64 1)).run Tryd.prog u = .ok (.int .i64 b) u := fun _ => by kernel_rfl
  have i2 : ∀ u, (Instr.index 36 (.agg #[.int .i64 a, .int .i64 b, .int .i64 c, .int .i64 d]) (.int .i64 2)).run Tryd.prog u = .ok (.int .i64 c) u := fun _ => by kernel_rfl
  have i3 : ∀ u, (Instr.index 36 (.agg #[.int .i64 a, .int .i64 b, .int .i64 c, .int .i64 d]) (.int .i64 3)).run Tryd.prog u = .ok (.int .i64 d) u := fun _ => by kernel_rfl
  go_enter Tryd.func12, Tryd.ntmps12
  go_wp2_with fail
  go_loopw [3, 4, 14] (fun _ _ t wr => ∃ k : Int, 0 ≤ k ∧ k ≤ 4 ∧ t = .int .i64 k ∧ Hid ((1 ≤ k → inB a 8 64 = true) ∧ (2 ≤ k → inB b 4 32 = true) ∧ (3 ≤ k → inB c 128 256 = true) ∧ (4 ≤ k → inB d 0 4 = true)) ∧ Hid (New w wr)) (fun _ _ t _ => 4 - (intOf t).toNat)
  case atStart => exact ⟨0, by omega, by omega, rfl, ⟨fun h => absurd h (by omega), fun h => absurd h (by omega), fun h => absurd h (by omega), fun h => absurd h (by omega)⟩, (Kept.refl _ _).alloc _⟩
  case round =>
    obtain ⟨k, hk0, hk4, rfl, HP, VN⟩ := hrel
    obtain ⟨c0, c1, c2, c3, c4, c5, c6, c7⟩ := HB.out.new VN.out
    rcases (by omega : k = 0 ∨ k = 1 ∨ k = 2 ∨ k = 3 ∨ k = 4) with rfl | rfl | rfl | rfl | rfl
--[k0
    · cases hx : inB a 8 64
      · go_wp2_with (go_at_call 15; refine (has_any _ _ _ _).mono ?_; rintro e w2 ⟨rfl, k2⟩; rw [hx])
        go_ret
        exact ⟨by rw [wiB, hx]; rfl, VN.out.new k2⟩
      · go_wp2_with (go_at_call 15; refine (has_any _ _ _ _).mono ?_; rintro e w2 ⟨rfl, k2⟩; rw [hx])
        go_roundw
        case rel => exact ⟨1, by omega, by omega, rfl, ⟨fun _ => trivial, fun h => absurd h (by omega), fun h => absurd h (by omega), fun h => absurd h (by omega)⟩, VN.out.new k2⟩
        case measure => simp [intOf]
--]k0
    · have p0 := HP.out.1 (by omega)
      cases hx : inB b 4 32
      · go_wp2_with (go_at_call 15; refine (has_any _ _ _ _).mono ?_; rintro e w2 ⟨rfl, k2⟩; rw [hx])
        go_ret
        exact ⟨by rw [wiB, p0, hx]; rfl, VN.out.new k2⟩
      · go_wp2_with (go_at_call 15; refine (has_any _ _ _ _).mono ?_; rintro e w2 ⟨rfl, k2⟩; rw [hx])
        go_roundw
        case rel => exact ⟨2, by omega, by omega, rfl, ⟨fun _ => p0, fun _ => trivial, fun h => absurd h (by omega), fun h => absurd h (by omega)⟩, VN.out.new k2⟩
        case measure => simp [intOf]
    · have p0 := HP.out.1 (by omega)
      have p1 := HP.out.2.1 (by omega)
      cases hx : inB c 128 256
      · go_wp2_with (go_at_call 15; refine (has_any _ _ _ _).mono ?_; rintro e w2 ⟨rfl, k2⟩; rw [hx])
        go_ret
        exact ⟨by rw [wiB, p0, p1, hx]; rfl, VN.out.new k2⟩
      · go_wp2_with (go_at_call 15; refine (has_any _ _ _ _).mono ?_; rintro e w2 ⟨rfl, k2⟩; rw [hx])
        go_roundw
        case rel => exact ⟨3, by omega, by omega, rfl, ⟨fun _ => p0, fun _ => p1, fun _ => trivial, fun h => absurd h (by omega)⟩, VN.out.new k2⟩
        case measure => simp [intOf]
    · have p0 := HP.out.1 (by omega)
      have p1 := HP.out.2.1 (by omega)
      have p2 := HP.out.2.2.1 (by omega)
      cases hx : inB d 0 4
      · go_wp2_with (go_at_call 15; refine (has_any _ _ _ _).mono ?_; rintro e w2 ⟨rfl, k2⟩; rw [hx])
        go_ret
        exact ⟨by rw [wiB, p0, p1, p2, hx]; rfl, VN.out.new k2⟩
      · go_wp2_with (go_at_call 15; refine (has_any _ _ _ _).mono ?_; rintro e w2 ⟨rfl, k2⟩; rw [hx])
        go_roundw
        case rel => exact ⟨4, by omega, by omega, rfl, ⟨fun _ => p0, fun _ => p1, fun _ => p2, fun _ => trivial⟩, VN.out.new k2⟩
        case measure => simp [intOf]
    · have p0 := HP.out.1 (by omega)
      have p1 := HP.out.2.1 (by omega)
      have p2 := HP.out.2.2.1 (by omega)
      have p3 := HP.out.2.2.2 (by omega)
      go_wp2
      go_ret
      exact ⟨by rw [wiB, p0, p1, p2, p3]; rfl, VN.out⟩

/-- n divided by k, rounded up. -/
def upI (n k : Int) : Int := (n + k - 1).tdiv k

theorem dividedUp_any (n k : Int) (w : World) (hn : 0 ≤ n ∧ n ≤ 4294967296) (hk : 1 ≤ k ∧ k ≤ 4294967296) :
    Calls Tryd.prog 13 #[.int .i64 n, .int .i64 k] w fun e w' => e = .returned (.int .i64 (upI n k)) ∧ w' = w := by
  have hq : 0 ≤ upI n k ∧ upI n k ≤ n + k - 1 := by
    unfold upI
    exact ⟨Int.tdiv_nonneg (by omega) (by omega), Int.tdiv_le_self _ (by omega)⟩
  have q1 := wrapI (x := n + k) (by omega) (by omega)
  have q2 := wrapI (x := n + k - 1) (by omega) (by omega)
  have q3 := wrapI (x := upI n k) (by omega) (by omega)
  have m1 := wrapJ (x := n + k) (by omega) (by omega)
  have m2 := wrapJ (x := n + k - 1) (by omega) (by omega)
  have m3 := wrapJ (x := upI n k) (by omega) (by omega)
  have z0 : k ≠ 0 := by omega
  have z1 : (k == 0) = false := by simpa using z0
  have HU : Hid ((n + k - 1).tdiv k = upI n k) := rfl
  have HU2 := HU.out
  clear hq hn hk
  generalize upI n k = u at *
  go_enter Tryd.func13, Tryd.ntmps13
  go_wp2
  go_ret
  exact ⟨rfl, rfl⟩

theorem usable_any (a b c d : Int) (w : World) (ha : 0 ≤ a ∧ a ≤ 64) (hd : 0 ≤ d ∧ d ≤ 64) :
    Calls Tryd.prog 14 #[.agg #[.int .i64 a, .int .i64 b, .int .i64 c, .int .i64 d]] w (IntN w (a - d)) := by
  have q1 := wrapI (x := a - d) (by omega) (by omega)
  have m1 := wrapJ (x := a - d) (by omega) (by omega)
  go_enter Tryd.func14, Tryd.ntmps14
  go_wp2
  go_ret
  exact ⟨rfl, (Kept.refl _ _).alloc _⟩

/-- How many bytes a piece has. -/
def pieceI (s : Int) : Int := if inB s 128 256 then s - 56 else 0

theorem piece_any (s : Int) (w : World) (hB : Bd w) :
    Calls Tryd.prog 11 #[.int .i64 s] w (IntN w (pieceI s)) := by
  obtain ⟨c0, c1, c2, c3, c4, c5, c6, c7⟩ := hB
  cases hx : inB s 128 256
  · have e : pieceI s = 0 := by rw [pieceI, hx]; rfl
    rw [e]
    go_enter Tryd.func11, Tryd.ntmps11
    go_wp2_with (go_at_call 15; refine (has_any _ _ _ _).mono ?_; rintro e w2 ⟨rfl, k2⟩; rw [hx])
    go_ret
    exact ⟨rfl, k2⟩
  · have e : pieceI s = s - 56 := by rw [pieceI, hx]; rfl
    rw [e]
    have h : 128 ≤ s ∧ s ≤ 256 := by simpa [inB] using hx
    have q1 := wrapI (x := s - 56) (by omega) (by omega)
    have m1 := wrapJ (x := s - 56) (by omega) (by omega)
    go_enter Tryd.func11, Tryd.ntmps11
    go_wp2_with (go_at_call 15; refine (has_any _ _ _ _).mono ?_; rintro e w2 ⟨rfl, k2⟩; rw [hx])
    go_ret
    exact ⟨rfl, k2⟩

end Go.Proofs.YtefoijnmnahfdaaDoor
