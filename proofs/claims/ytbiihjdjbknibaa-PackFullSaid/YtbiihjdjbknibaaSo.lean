/-
  The contract of the reference's Less.
  The contract of the reference's Put.
  The contract of the reference's Get.
-/
import Derived.Test.YtbiihjdjbknibaaSj
namespace Go.Proofs.Ytbiihjdjbknibaa

section
set_option maxRecDepth 100000
open Go.ChangeShapes Go.WideShapes Go.ChangeAt Go.RowKit

theorem take_same (l k : List Nat) (j x y : Nat) (hx : l[j]? = some x) (hy : k[j]? = some y) : (decide (l.take j = k.take j) && (((x : Int) == (y : Int)) : Bool)) = decide (l.take (j + 1) = k.take (j + 1)) := by
  have hl : j < l.length := (List.getElem?_eq_some_iff.1 hx).1
  have hk : j < k.length := (List.getElem?_eq_some_iff.1 hy).1
  rw [List.take_succ_eq_append_getElem hl, List.take_succ_eq_append_getElem hk, (List.getElem?_eq_some_iff.1 hx).2, (List.getElem?_eq_some_iff.1 hy).2, Bool.eq_iff_iff]
  simp only [Bool.and_eq_true, decide_eq_true_eq, beq_iff_eq]
  constructor
  · rintro ⟨h1, h2⟩
    rw [h1, show x = y from by omega]
  · intro h
    have := List.append_inj h (by rw [List.length_take, List.length_take]; omega)
    refine ⟨this.1, ?_⟩
    have h2 := this.2
    simp at h2
    omega

theorem pow_small (t kk : Nat) (h : kk = 2 ^ t) (ht : t < 8) : 1 ≤ kk ∧ kk ≤ 128 := by
  have h8 : t = 0 ∨ t = 1 ∨ t = 2 ∨ t = 3 ∨ t = 4 ∨ t = 5 ∨ t = 6 ∨ t = 7 := by omega
  rcases h8 with rfl | rfl | rfl | rfl | rfl | rfl | rfl | rfl <;> simp at h <;> omega

def clean (y x t : Nat) : Prop := ∀ s, s < t → ¬ (y / 2 ^ s % 2 = 1 ∧ x / 2 ^ s % 2 = 0)

theorem bits_next {y x t : Nat} (h : clean y x t) (hf : ¬ (y / 2 ^ t % 2 = 1 ∧ x / 2 ^ t % 2 = 0)) : clean y x (t + 1) := by
  intro s hs
  rcases Nat.lt_or_ge s t with h' | h'
  · exact h s h'
  · obtain rfl : s = t := by omega
    exact hf

theorem rNoughts_v (A : Option Addr) (n c : Nat) (l : List Nat) (w : World) (ha : Bts w A n l) (hn : n ≤ 140737488355328) (no : Nat) (h : noughts l = no) :
    Calls Try.prog 68 #[.slice A n c] w fun e w' => e = .returned (.int .i64 no) ∧ w = w' := by subst h; exact rNoughts_any A n c l w ha hn

end

section
set_option maxRecDepth 100000
open Go.ChangeShapes Go.WideShapes Go.ChangeAt Go.RowKit

def RPutP (w : World) (n : Int) (k : Nat) (b : List Nat) (e : Ending) (w' : World) : Prop :=
  ∃ A c, e = .returned (.tuple #[.slice A (sPutL n k b).length c, .int .i64 (sPutE n k b)]) ∧ OwnB w' 5 w.heap.size A c (sPutL n k b) ∧ New w w'

theorem rPut_arg (n : Int) (k : Nat) (v : Value) (w : World) (h : ¬ (isPg n ∧ isKd k)) :
    Calls Try.prog 50 #[.int .i64 n, .int .u8 k, v] w fun e w' => e = .returned (.tuple #[.slice none 0 0, .int .i64 2]) ∧ w = w' := by
  by_cases hp : isPg n
  · have e1 : decide (isPg n) = true := decide_eq_true hp
    have hk : ¬ isKd k := fun hk => h ⟨hp, hk⟩
    unfold isKd at hk
    clear h hp
    rcases Nat.lt_or_ge k 1 with h1 | h1
    · go_enter Try.func50, Try.ntmps50
      go_wp2_with (go_at_call 47; refine (rSize_any _ _).mono ?_; rintro e w' ⟨rfl, rfl⟩; rw [e1])
      go_ret2
      exact ⟨rfl, rfl⟩
    · have h7 : 7 < k := by omega
      go_enter Try.func50, Try.ntmps50
      go_wp2_with (go_at_call 47; refine (rSize_any _ _).mono ?_; rintro e w' ⟨rfl, rfl⟩; rw [e1])
      go_ret2
      exact ⟨rfl, rfl⟩
  · have e1 : decide (isPg n) = false := decide_eq_false hp
    clear h hp
    go_enter Try.func50, Try.ntmps50
    go_wp2_with (go_at_call 47; refine (rSize_any _ _).mono ?_; rintro e w' ⟨rfl, rfl⟩; rw [e1])
    go_ret2
    exact ⟨rfl, rfl⟩

theorem rPut_limit (n : Int) (k : Nat) (A : Option Addr) (m c : Nat) (w : World) (hp : isPg n) (hk : isKd k) (hm : n - 5 < m) (_hmm : m ≤ maxLen) :
    Calls Try.prog 50 #[.int .i64 n, .int .u8 k, .slice A m c] w fun e w' => e = .returned (.tuple #[.slice none 0 0, .int .i64 3]) ∧ w = w' := by
  have e1 : decide (isPg n) = true := decide_eq_true hp
  unfold maxLen at _hmm
  unfold isPg at hp
  unfold isKd at hk
  obtain ⟨hk1, hk2⟩ := hk
  go_enter Try.func50, Try.ntmps50
  go_wp2_with (go_at_call 47; refine (rSize_any _ _).mono ?_; rintro e w' ⟨rfl, rfl⟩; rw [e1])
  go_ret2
  exact ⟨rfl, rfl⟩

/-- How long a slice is. -/
def slLen : Value → Nat
  | .slice _ n _ => n
  | _ => 0

/-- What stands there while it is filled up. -/
def fill (k : Nat) (b : List Nat) (j : Nat) : List Nat := 0 :: 0 :: k :: (b.length % 256) :: (b.length / 256) :: (b ++ List.replicate j 255)
theorem fill_length (k : Nat) (b : List Nat) (j : Nat) : (fill k b j).length = b.length + j + 5 := by simp [fill]
theorem fill_next (k : Nat) (b : List Nat) (j : Nat) : fill k b j ++ [255] = fill k b (j + 1) := by
  simp [fill, List.replicate_succ']
theorem fill_rest (n k : Nat) (b : List Nat) (h : b.length + 5 ≤ n) (hn : n ≤ 256) : (fill k b (n - 5 - b.length)).drop 2 = rest n k b := by
  unfold rest fill
  rw [leB_two]
  have : b.length / 256 % 256 = b.length / 256 := Nat.mod_eq_of_lt (by omega)
  simp [this]
theorem fill_page (n k m : Nat) (b : List Nat) (h : b.length + 5 ≤ n) (hn : n ≤ 256) (hm : m = noughts (rest n k b)) : ((fill k b (n - 5 - b.length)).set 0 (m % 256)).set 1 (m / 256 % 256) = page n k b := by
  subst hm
  have e := fill_rest n k b h hn
  unfold page
  rw [leB_two, ← e]
  simp [fill]
theorem fill_bytes (k : Nat) (b : List Nat) (j : Nat) (hk : k < 256) (hb : IsBytes b) (hl : b.length ≤ 251) : IsBytes (fill k b j) := by
  intro x hx
  simp only [fill, List.mem_cons, List.mem_append] at hx
  rcases hx with rfl | rfl | rfl | rfl | rfl | hx | hx
  · omega
  · omega
  · exact hk
  · omega
  · omega
  · exact hb x hx
  · have := List.eq_of_mem_replicate hx; omega

set_option maxRecDepth 100000 in
set_option maxHeartbeats 1000000 in
theorem rPut_ok (n k : Nat) (A : Option Addr) (m c : Nat) (b : List Nat) (w : World) (hn1 : 128 ≤ n) (hn2 : n ≤ 256) (hk : isKd k) (hb : Bts w A m b) (hm : m + 5 ≤ n) :
    Calls Try.prog 50 #[.int .i64 n, .int .u8 k, .slice A m c] w fun e w' => ∃ A c, e = .returned (.tuple #[.slice A n c, .int .i64 0]) ∧ OwnB w' 5 w.heap.size A c (page n k b) ∧ New w w' := by
  have e1 : decide (isPg (n : Int)) = true := decide_eq_true (by unfold isPg; omega)
  obtain ⟨i0, hi, hz0, hz1, hz2⟩ := info_parts info_u8
  unfold isKd at hk
  obtain ⟨hk1, hk2⟩ := hk
  have Hb := Lib.hid hb
  have Hbl := Lib.hid hb.1
  have HBB := Lib.hid hb.2.1
  clear hb
  go_enter Try.func50, Try.ntmps50
  go_wp2_with (first
    | (go_at_call 47; refine (rSize_any _ _).mono ?_; rintro e w' ⟨rfl, rfl⟩; rw [e1])
    | (at_builtin; refine wpList_append_bytes _ rfl _ _ _ rfl 5 i0 Try.underlying25 hi hz0 hz1 hz2 w.heap.size (some ⟨w.heap.size, 0, none⟩) 5 5 [0, 0, k, m % 256, m / 256] rfl ?_ rfl A m c b rfl ?_ ?_ ?_ ?_))
  · exact OwnB.of_blk (l := [0, 0, k, m % 256, m / 256]) (sp := []) (Blk.made w 5 _) (Nat.le_refl _) (by intro x hx; simp at hx; omega) rfl (by unfold maxLen; omega)
  · exact Hb.out.new ((Kept.refl _ _).alloc _)
  · simp; omega
  · simp
  intro A2 c2 w2 hown hg _
  have O2 : Hid (OwnB w2 5 w.heap.size A2 c2 (fill k b 0)) := by
    unfold fill
    rw [Hbl.out]
    simpa [Hid] using hown
  have K2 : Hid (New w w2) := ((Kept.refl _ _).alloc _).grown hg (by simp; omega)
  clear hown hg Hb
  go_wp2
  go_loopw [8] (fun v wr => ∃ (j L : Nat) (A : Option Addr) (c : Nat), L = 5 + m + j ∧ j ≤ n - 5 - m ∧ v = .slice A L c ∧ Hid (OwnB wr 5 w.heap.size A c (fill k b j)) ∧ Hid (New w wr)) (fun v _ => n - slLen v)
  case atStart => exact ⟨0, 5 + m, A2, c2, rfl, by omega, rfl, O2, K2⟩
  case round =>
    obtain ⟨j, L, A3, c3, hL, hj, rfl, O3, K3⟩ := hrel
    clear O2 K2
    have HFl : Hid ((fill k b j).length = L) := by show _ = _; rw [fill_length, Hbl.out]; omega
    by_cases hlt : L < n
    · go_wp2_with (at_builtin; refine wpList_append_bytes _ rfl _ _ _ rfl 5 i0 Try.underlying25 hi hz0 hz1 hz2 w.heap.size A3 L c3 (fill k b j) rfl ?_ ?_ (some ⟨wr.heap.size, 0, none⟩) 1 1 [255] rfl ?_ ?_ ?_ ?_)
      · exact O3.out.new ((Kept.refl _ _).alloc _)
      · exact HFl.out.symm
      · exact Bts.one _ _ 255 _ (by omega) rfl
      · rw [HFl.out]; omega
      · have := K3.out.size; simp; omega
      intro A4 c4 w4 hown4 hg4 _
      have K4 : Hid (New w w4) := Kept.of_own (K3.out.alloc _) (O3.out.new ((Kept.refl _ _).alloc _)) hg4
      have O4 : Hid (OwnB w4 5 w.heap.size A4 c4 (fill k b (j + 1))) := by rw [← fill_next]; exact hown4
      clear hown4 hg4 O3 K3
      go_wp2
      go_roundw
      case rel => exact ⟨j + 1, L + 1, A4, c4, by omega, by omega, by rw [hL], O4, K4⟩
      case measure => simp [slLen]; omega
    · obtain rfl : L = n := by omega
      have hjj : j = L - 5 - b.length := by rw [Hbl.out]; omega
      have hbl5 : Hid (b.length + 5 ≤ L) := by show _ ≤ _; rw [Hbl.out]; omega
      have hle := O3.out.le
      have hFB := Lib.hid (fill_bytes k b j (by omega) HBB.out (by rw [Hbl.out]; omega))
      have hR : Hid ((fill k b j).drop 2 = rest L k b) := by rw [hjj]; exact fill_rest L k b hbl5.out hn2
      have hNf := noughts_fit L k b hn2 hbl5.out
      generalize hno : noughts (rest L k b) = no at hNf
      have HNo := Lib.hid hno
      have hPg : Hid (((fill k b j).set 0 (no % 256)).set 1 (no / 256) = page L k b) := by
        have := fill_page L k no b hbl5.out hn2 hno.symm
        rw [Nat.mod_eq_of_lt (show no / 256 < 256 from by omega)] at this
        rw [hjj]; exact this
      have HPB := Lib.hid (page_bytes L k b (by omega) HBB.out)
      have HPL := Lib.hid (page_length L k b hbl5.out)
      obtain ⟨hob, ⟨rfl, rfl, hf⟩ | ⟨g, sp, rfl, hB, hblk, hsp, hc, hcm⟩⟩ := O3.out
      · simp [fill] at hf
      rw [HFl.out] at hle hc
      have B3 := Lib.hid hblk
      have HSP := Lib.hid hsp
      have HBg := Lib.hid hB
      have HCC := Lib.hid hc
      have hc2 : ¬ c3 = 2 := by omega
      have hcm2 : c3 ≤ 9223372036854775807 := by unfold maxLen at hcm; omega
      obtain ⟨hle1, _⟩ := hle
      clear hjj hno hob hblk hsp hB hc hcm O3 hL hj hlt
      go_wp2_with fail
      refine (rNoughts_v _ (L - 2) _ (rest L k b) _ ?_ (by omega) no HNo.out).mono ?_
      · have h4 : Blk wr g 5 ((fill k b j).map byt ++ sp.map byt) := by rw [← List.map_append]; exact B3.out
        have := Bts.of_blk (off := 2) h4 hFB.out HFl.out
        rw [hR.out] at this
        exact this
      rintro e w' ⟨rfl, rfl⟩
      have c0 : wr.cell? ⟨g, 0, none⟩ = some (.int .u8 0) := by rw [B3.out.cell]; simp [fill, byt]
      have c1 : wr.cell? ⟨g, 1, none⟩ = some (.int .u8 0) := by rw [B3.out.cell]; simp [fill, byt]
      have f0 := B3.out.free 0
      have f1 := B3.out.free 1
      go_wp2
      go_ret2
      have hb2 := (B3.out.put 0 (.int .u8 ((no % 256 : Nat) : Int))).put 1 (.int .u8 ((no / 256 : Nat) : Int))
      rw [set_any _ 0 (no % 256) (.int .u8 ((no % 256 : Nat) : Int)) rfl, set_any _ 1 (no / 256) (.int .u8 ((no / 256 : Nat) : Int)) rfl, List.set_append_left _ _ (by rw [HFl.out]; omega), List.set_append_left _ _ (by rw [List.length_set, HFl.out]; omega), hPg.out] at hb2
      rw [List.map_append] at hb2
      refine ⟨_, c3, rfl, ⟨HPB.out, .inr ⟨g, sp, rfl, HBg.out, ?_, HSP.out, by rw [HPL.out]; exact HCC.out, by unfold maxLen; omega⟩⟩, (K3.out.setCell (fun h => by have := HBg.out; simp at h; omega) _).setCell (fun h => by have := HBg.out; simp at h; omega) _⟩
      rw [List.map_append]
      exact hb2

theorem rPut_any (n : Int) (k : Nat) (A : Option Addr) (m c : Nat) (b : List Nat) (w : World) (hb : Bts w A m b) (hm : m ≤ maxLen) :
    Calls Try.prog 50 #[.int .i64 n, .int .u8 k, .slice A m c] w (RPutP w n k b) := by
  have hbl := hb.1
  by_cases h : isPg n ∧ isKd k
  · by_cases hl : (m : Int) ≤ n - 5
    · obtain ⟨N, rfl⟩ : ∃ N : Nat, n = N := ⟨n.toNat, by have := h.1; unfold isPg at this; omega⟩
      have hp := h.1
      unfold isPg at hp
      have eL : sPutL N k b = page N k b := by unfold sPutL; rw [if_pos ⟨h.1, h.2, by rw [hbl]; exact hl⟩, Int.toNat_natCast]
      have eE : sPutE N k b = 0 := by unfold sPutE; rw [if_pos h, if_pos (by rw [hbl]; exact hl)]
      refine (rPut_ok N k A m c b w (by omega) (by omega) h.2 hb (by omega)).mono ?_
      rintro e w' ⟨A', c', rfl, h1, h2⟩
      unfold RPutP
      rw [eL, eE, page_length N k b (by omega)]
      exact ⟨A', c', rfl, h1, h2⟩
    · have eL : sPutL n k b = [] := by unfold sPutL; rw [if_neg (fun x => hl (by have := x.2.2; rw [hbl] at this; exact this))]
      have eE : sPutE n k b = 3 := by unfold sPutE; rw [if_pos h, if_neg (by rw [hbl]; exact hl)]
      refine (rPut_limit n k A m c w h.1 h.2 (by omega) hm).mono ?_
      rintro e w' ⟨rfl, rfl⟩
      unfold RPutP
      rw [eL, eE]
      exact ⟨none, 0, rfl, OwnB.nil _ _ _, Kept.refl _ _⟩
  · have eL : sPutL n k b = [] := by unfold sPutL; rw [if_neg (fun x => h ⟨x.1, x.2.1⟩)]
    have eE : sPutE n k b = 2 := by unfold sPutE; rw [if_neg h]
    refine (rPut_arg n k _ w h).mono ?_
    rintro e w' ⟨rfl, rfl⟩
    unfold RPutP
    rw [eL, eE]
    exact ⟨none, 0, rfl, OwnB.nil _ _ _, Kept.refl _ _⟩

theorem rPut_k {w0 wc : World} (n : Int) (k : Nat) (A : Option Addr) (m c : Nat) (b : List Nat) (K : Hid (New w0 wc)) (hb : Hid (Bts wc A m b)) (hm : m ≤ 140737488351232) (p : List Nat) (E : Int) (h : sPutL n k b = p ∧ sPutE n k b = E) (q : Nat) (hq : p.length = q) :
    Calls Try.prog 50 #[.int .i64 n, .int .u8 k, .slice A m c] wc fun e w' => ∃ A' c', e = .returned (.tuple #[.slice A' q c', .int .i64 E]) ∧ Hid (Bts w' A' q p) ∧ Hid (New wc w') ∧ Hid (New w0 w') := by
  obtain ⟨rfl, rfl⟩ := h
  subst hq
  refine (rPut_any n k A m c b wc hb.out (by unfold maxLen; omega)).mono ?_
  rintro e w' ⟨A', c', rfl, ho, hk⟩
  exact ⟨A', c', rfl, ho.bts, hk, K.out.new hk⟩

end

section
set_option maxRecDepth 100000
open Go.ChangeShapes Go.WideShapes Go.ChangeAt Go.RowKit

theorem five (l : List Nat) (h : 5 ≤ l.length) (hb : IsBytes l) : ∃ a0 a1 a2 a3 a4 : Nat, (l[0]? = some a0 ∧ l[1]? = some a1 ∧ l[2]? = some a2 ∧ l[3]? = some a3 ∧ l[4]? = some a4) ∧ (a0 < 256 ∧ a1 < 256 ∧ a2 < 256 ∧ a3 < 256 ∧ a4 < 256) ∧
    leV (l.take 2) = a0 + 256 * a1 ∧ l.getD 2 0 = a2 ∧ lenF l = a3 + 256 * a4 := by
  match l, h with
  | a :: b :: c :: d :: e :: r, _ =>
    refine ⟨a, b, c, d, e, ⟨rfl, rfl, rfl, rfl, rfl⟩, ⟨hb a (by simp), hb b (by simp), hb c (by simp), hb d (by simp), hb e (by simp)⟩, ?_, rfl, ?_⟩
    · simp [leV]
    · simp [leV, lenF]

/-- append onto a row of the call's own as one step of a region that draws. -/
theorem step_append_bytes {P : Program} {w : World} {ops : Array Oper} {o : Oper} {a : Act} {K : Act → World → Prop} {Q : Exit → Act → World → Prop} {E : Prop} (hgd : o.guard = none) (s x : Operand) (t : TypeId)
    (ho : o.op = .call { callee := .builtin .append, args := #[s, x], argTypes := #[t, t] })
    (e : TypeId) (i : TypeInfo) (ht : P.underlying t = some (.slice e)) (hi : P.info? e = some i) (hz : i.zero = some (.int .u8 0)) (hs : i.size = 1) (hby : i.bytes = 1)
    (B : Nat) (A : Option Addr) (n c : Nat) (l : List Nat) (hsv : a.eval s = .slice A n c) (hown : OwnB w e B A c l) (hn : n = l.length)
    (A' : Option Addr) (m c' : Nat) (k : List Nat) (hx : a.eval x = .slice A' m c') (hr : Bts w A' m k)
    (hbytes : l.length + m ≤ 140737488355328) (hbase : B ≤ w.heap.size)
    (h : ∀ A2 c2 w', OwnB w' e B A2 c2 (l ++ k) → w.grownBy w' (A.map (·.block)) → K (a.put o.dst (.slice A2 (n + m) c2)) w') :
    if Region.wanted o (yielded ops a.tmps) = true then Oper.wp P o a w K Q else E := by
  have hw : Region.wanted o (yielded ops a.tmps) = true := by simp [Region.wanted, hgd]
  rw [if_pos hw]
  obtain ⟨A2, c2, w', hrun, h2, h3, h4⟩ := run_append_bytes (P := P) w t o.type e i ht hi hz hs hby B A c l hown A' m c' k hr hbytes hbase n hn
  unfold Oper.wp
  simp [execOp, ho, resolve, invoke, builtin, hsv, hx, hrun, Result.andThen]
  exact h A2 c2 w' h2 h3

theorem rSize_v (s : Int) (w : World) (b : Bool) (h : decide (isPg s) = b) :
    Calls Try.prog 47 #[.int .i64 s] w fun e w' => e = .returned (.bool b) ∧ w = w' := by subst h; exact rSize_any s w

end

end Go.Proofs.Ytbiihjdjbknibaa
