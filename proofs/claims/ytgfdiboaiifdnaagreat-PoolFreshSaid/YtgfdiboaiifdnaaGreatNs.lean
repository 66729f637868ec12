/-
  What a struck deed leaves of a new chip's pages (no program).
-/
import Derived.Test.YtgfdiboaiifdnaaGreatNr
import Derived.Deep.CutBlock
import Derived.Deep.DeepCutAuto
namespace Go.Proofs.YtgfdiboaiifdnaaGreat

theorem lay_get (c M : List Nat) (off j : Nat) (hj : j < M.length) (ho : off ≤ c.length) : (lay c off M)[off + j]? = M[j]? := by
  unfold lay
  rw [List.getElem?_append_right (by simp; omega), List.getElem?_append_left (by simp; omega)]
  congr 1
  rw [List.length_take]
  omega
theorem lay_read (c M : List Nat) (off : Nat) (ho : off ≤ c.length) : ((lay c off M).drop off).take M.length = M := by
  unfold lay
  rw [List.drop_append, List.drop_of_length_le (by rw [List.length_take]; omega), List.nil_append]
  have e : off - (c.take off).length = 0 := by simp; omega
  rw [e, List.drop_zero, List.take_left]
theorem lay_behind (c M : List Nat) (off k : Nat) (ho : off + M.length ≤ c.length) : (lay c off M).drop (off + M.length + k) = c.drop (off + M.length + k) := by
  unfold lay
  rw [← List.append_assoc, List.drop_append, List.drop_of_length_le (by simp; omega), List.nil_append, List.drop_drop]
  congr 1
  simp
  omega

theorem under_keep (c m : Nat) (_hc : c < 256) (hm : m < 256) : under (mixB c 255 m) c = true := by
  refine (under_iff _ _ (mixB_lt _ _ _ (by omega))).2 fun j hj ⟨h1, h2⟩ => ?_
  rw [mixB_bit _ _ _ hm] at h2
  have h3 : (255 : Nat).testBit j = true := by
    have := Nat.testBit_two_pow_sub_one 8 j
    simp only [Nat.reducePow, Nat.reduceSub] at this
    rw [this]
    simpa using hj
  rw [h1, h3] at h2
  simp [hj] at h2
theorem under_goal (g m : Nat) (hg : g < 256) (hm : m < 256) : under (mixB 255 g m) g = true := by
  refine (under_iff _ _ (mixB_lt _ _ _ hg)).2 fun j hj ⟨h1, h2⟩ => ?_
  rw [mixB_bit _ _ _ hm] at h2
  have h3 : (255 : Nat).testBit j = true := by
    have := Nat.testBit_two_pow_sub_one 8 j
    simp only [Nat.reducePow, Nat.reduceSub] at this
    rw [this]
    simpa using hj
  rw [h1, h3] at h2
  simp [hj] at h2

/-- A page whose bytes go round. -/
def cycP (b : List Nat) : List Nat := (List.range 128).map (maskF b)
theorem cycP_len (b : List Nat) : (cycP b).length = 128 := by simp [cycP]
theorem cycP_bytes (b : List Nat) (hb : IsBytes b) : IsBytes (cycP b) := by
  intro x hx
  obtain ⟨i, _, rfl⟩ := List.mem_map.1 hx
  exact maskF_lt b hb i

def exB : List Nat := List.replicate 4096 255
def lvG (W : List Nat) (er : Bool) : List Nat := if er = true then List.replicate 512 255 else W
def lvO (er : Bool) : Nat := if er = true then 1536 else 1792
def lvP (er : Bool) : Int := if er = true then 1 else 2
def lv1 (W : List Nat) : CSt := { ex0 with deeds := 1, by_ := lay exB 1664 W }
def lv2 (W : List Nat) (fails : Bool) (mask : List Nat) : CSt := { lv1 W with hits := [⟨0, fails, mask⟩], since := 0 }
def lv3 (W : List Nat) (fails : Bool) (mask : List Nat) (er : Bool) : CSt := hitS { lv2 W fails mask with deeds := 2, hits := [], since := 0 } 3 (lvO er) (lvG W er) fails mask
def lv4 (W : List Nat) (fails : Bool) (mask : List Nat) (er : Bool) : CSt := powS (lv3 W fails mask er)

theorem refE_zero {s : CSt} {b p : Int} (h1 : s.dead = false) (h2 : s.nb = 8) (h3 : s.np = 4) (hb : 0 ≤ b ∧ b < 8) (hp : 0 ≤ p ∧ p < 4) : refE s b p = 0 := by
  have ht : there s b p := by
    unfold there
    rw [h2, h3]
    exact ⟨hb, hp⟩
  unfold refE
  rw [h1, if_neg (by decide), if_pos ht]
theorem progR_zero {s : CSt} {b p : Int} {n : Nat} (h1 : refE s b p = 0) (h2 : n = s.nz) (h3 : badAt s b.toNat = false) (h4 : blank (tailL s b p) = true) : progR s b p n = 0 := by
  unfold progR
  rw [if_neg (by rw [h1]; simp), if_neg (by simp [h2]), h3, h4]
  rfl
theorem erasR_zero {s : CSt} {b : Int} (h1 : refE s b 0 = 0) (h3 : badAt s b.toNat = false) : erasR s b = 0 := by
  unfold erasR
  rw [if_neg (by rw [h1]; simp), h3]
  rfl
theorem deedS_none {s : CSt} (h : s.hits = []) (b o : Nat) (g : List Nat) : deedS s b o g = { s with deeds := s.deeds + 1, by_ := lay s.by_ o g } ∧ deedE s = 0 := by
  unfold deedS deedE
  rw [h]
  exact ⟨rfl, rfl⟩
theorem deedS_hit {s : CSt} {x : Hit} {t : List Hit} (h : s.hits = x :: t) (hs : ¬ s.since < x.after) (b o : Nat) (g : List Nat) : deedS s b o g = hitS { s with deeds := s.deeds + 1, hits := t, since := 0 } b o g x.fails x.mask ∧ deedE s = hitE x.fails := by
  unfold deedS deedE hitS hitE
  rw [h]
  simp only [hs, if_false]
  refine ⟨?_, ?_⟩ <;> first | trivial | rfl
theorem off_of {s : CSt} (h1 : s.np = 4) (h2 : s.nz = 128) (p : Int) : offP s 3 p = (12 + p.toNat) * 128 := by
  unfold offP
  rw [h1, h2]
  rfl
theorem bad_of {s : CSt} (h : s.bad = List.replicate 8 false) (b : Nat) : badAt s b = false := by
  unfold badAt
  rw [h, List.getD_eq_getElem?_getD, List.getElem?_replicate]
  split <;> rfl
theorem ex0_by : ex0.by_ = exB := rfl
theorem exB_len : exB.length = 4096 := by unfold exB; rw [List.length_replicate]
theorem exB_at (i : Nat) (hi : i < 4096) : exB[i]? = some 255 := by
  unfold exB
  rw [List.getElem?_replicate, if_pos hi]
theorem exB_blank : blank ((exB.drop 1664).take 384) = true ∧ blank ((exB.drop 1792).take 256) = true := by decide +kernel
theorem lvG_len {W : List Nat} (hW : W.length = 128) (er : Bool) : (lvG W er).length = if er = true then 512 else 128 := by
  unfold lvG
  cases er
  · simp [hW]
  · simp only [if_true]; rw [List.length_replicate]

section
variable {W mask : List Nat} {fails er : Bool}
theorem lv1_eq (hW : W.length = 128) : progE ex0 3 1 W = 0 ∧ progS ex0 3 1 W = lv1 W := by
  have h0 : progR ex0 3 1 W.length = 0 := by
    refine progR_zero (refE_zero rfl rfl rfl (by omega) (by omega)) hW (bad_of rfl _) ?_
    have ho : offP ex0 3 1 = 1664 := off_of rfl rfl 1
    have e : tailL ex0 3 1 = (exB.drop 1664).take 384 := by unfold tailL; rw [ex0_by, ho]; rfl
    rw [e]
    exact exB_blank.1
  obtain ⟨h1, h2⟩ := deedS_none (s := ex0) rfl (3 : Int).toNat (offP ex0 3 1) W
  have ho : offP ex0 3 1 = 1664 := off_of rfl rfl 1
  unfold progE progS
  rw [h0, if_pos rfl, if_pos rfl, h1, h2, ho]
  exact ⟨rfl, rfl⟩
theorem lv1_read (hW : W.length = 128) : readE (lv1 W) 3 1 = 0 ∧ readL (lv1 W) 3 1 = W := by
  have h0 : refE (lv1 W) 3 1 = 0 := refE_zero rfl rfl rfl (by omega) (by omega)
  refine ⟨h0, ?_⟩
  unfold readL
  rw [if_pos h0]
  unfold pgL
  have e : offP (lv1 W) 3 1 = 1664 := off_of rfl rfl 1
  have e2 : (lv1 W).nz = W.length := by rw [hW]; rfl
  rw [e, e2]
  exact lay_read _ _ _ (by rw [exB_len]; omega)
theorem lv2_eq : hitsE [⟨0, fails, mask⟩] = 0 ∧ hitsS (lv1 W) [⟨0, fails, mask⟩] = lv2 W fails mask := by
  have h : ∀ h ∈ [(⟨0, fails, mask⟩ : HitI)], 0 ≤ h.after := by simp
  unfold hitsE hitsS
  rw [if_pos h, if_pos h]
  exact ⟨rfl, rfl⟩
theorem lv2_deed (b o : Nat) (g : List Nat) : deedS (lv2 W fails mask) b o g = hitS { lv2 W fails mask with deeds := 2, hits := [], since := 0 } b o g fails mask ∧ deedE (lv2 W fails mask) = hitE fails :=
  deedS_hit (s := lv2 W fails mask) (x := ⟨0, fails, mask⟩) (t := []) rfl (by show ¬ 0 < 0; omega) b o g
theorem lv3_eras : erasE (lv2 W fails mask) 3 = hitE fails ∧ erasS (lv2 W fails mask) 3 = lv3 W fails mask true := by
  have h0 : erasR (lv2 W fails mask) 3 = 0 := erasR_zero (refE_zero rfl rfl rfl (by omega) (by omega)) (bad_of rfl _)
  unfold erasE erasS
  rw [h0, if_pos rfl, if_pos rfl]
  obtain ⟨h1, h2⟩ := lv2_deed (W := W) (fails := fails) (mask := mask) (3 : Int).toNat (offP (lv2 W fails mask) 3 0) (ones (lv2 W fails mask))
  have ho : offP (lv2 W fails mask) 3 0 = 1536 := off_of rfl rfl 0
  have hn : ones (lv2 W fails mask) = List.replicate 512 255 := by
    unfold ones
    rw [show (lv2 W fails mask).np = 4 from rfl, show (lv2 W fails mask).nz = 128 from rfl]
  rw [h1, h2, ho, hn]
  exact ⟨rfl, rfl⟩
theorem lv3_prog (hW : W.length = 128) : progE (lv2 W fails mask) 3 2 W = hitE fails ∧ progS (lv2 W fails mask) 3 2 W = lv3 W fails mask false := by
  have h0 : progR (lv2 W fails mask) 3 2 W.length = 0 := by
    refine progR_zero (refE_zero rfl rfl rfl (by omega) (by omega)) hW (bad_of rfl _) ?_
    have ho : offP (lv2 W fails mask) 3 2 = 1792 := off_of rfl rfl 2
    have e : tailL (lv2 W fails mask) 3 2 = ((lay exB 1664 W).drop 1792).take 256 := by unfold tailL; rw [ho]; rfl
    have h3 := lay_behind exB W 1664 0 (by rw [exB_len, hW]; omega)
    rw [hW] at h3
    rw [e, h3]
    exact exB_blank.2
  unfold progE progS
  rw [h0, if_pos rfl, if_pos rfl]
  obtain ⟨h1, h2⟩ := lv2_deed (W := W) (fails := fails) (mask := mask) (3 : Int).toNat (offP (lv2 W fails mask) 3 2) W
  have ho : offP (lv2 W fails mask) 3 2 = 1792 := off_of rfl rfl 2
  rw [h1, h2, ho]
  exact ⟨rfl, rfl⟩
theorem lv3_bad : badE (lv3 W fails mask er) 3 = fails ∧ badE (lv4 W fails mask er) 3 = fails := by
  have h : (lv3 W fails mask er).bad = if fails = true then (List.replicate 8 false).set 3 true else List.replicate 8 false := rfl
  have hn : (lv3 W fails mask er).nb = 8 := rfl
  have h1 : badE (lv3 W fails mask er) 3 = fails := by
    unfold badE badAt
    rw [h, hn]
    cases fails <;> rfl
  exact ⟨h1, h1⟩
theorem lv4_read (hW : W.length = 128) (hB : IsBytes W) (hm : IsBytes mask) : readE (lv4 W fails mask er) 3 (lvP er) = 0 ∧ (readL (lv4 W fails mask er) 3 (lvP er)).length = 128 ∧ unders (readL (lv4 W fails mask er) 3 (lvP er)) W = true := by
  have hl1 : (lay exB 1664 W).length = 4096 := by rw [lay_length _ _ _ (by rw [exB_len, hW]; omega), exB_len]
  have hgl := lvG_len hW er
  have h0 : refE (lv4 W fails mask er) 3 (lvP er) = 0 := refE_zero rfl rfl rfl (by omega) (by unfold lvP; cases er <;> simp)
  have hby : (lv4 W fails mask er).by_ = lay (lay exB 1664 W) (lvO er) (mixF (maskF mask) (((lay exB 1664 W).drop (lvO er)).take (lvG W er).length) (lvG W er)) := rfl
  have hof : offP (lv4 W fails mask er) 3 (lvP er) = if er = true then 1664 else 1792 := by
    rw [off_of rfl rfl]
    unfold lvP
    cases er <;> rfl
  have hnz : (lv4 W fails mask er).nz = 128 := rfl
  have e1 : readL (lv4 W fails mask er) 3 (lvP er) = ((lv4 W fails mask er).by_.drop (if er = true then 1664 else 1792)).take 128 := by
    unfold readL
    rw [if_pos h0]
    unfold pgL
    rw [hof, hnz]
  have hml : (mixF (maskF mask) (((lay exB 1664 W).drop (lvO er)).take (lvG W er).length) (lvG W er)).length = (lvG W er).length := by
    rw [mixF_length, List.length_take, List.length_drop, hl1, hgl]
    unfold lvO
    cases er <;> decide
  have hfit : lvO er + (lvG W er).length ≤ 4096 := by
    rw [hgl]
    unfold lvO
    cases er <;> decide
  have hl3 : (lv4 W fails mask er).by_.length = 4096 := by
    rw [hby, lay_length, hl1]
    rw [hml, hl1]
    exact hfit
  have e2 : (readL (lv4 W fails mask er) 3 (lvP er)).length = 128 := by
    rw [e1, List.length_take, List.length_drop, hl3]
    cases er <;> decide
  refine ⟨h0, e2, (unders_iff _ _ (by rw [e2, hW])).2 fun k x y hx hy => ?_⟩
  have hk : k < 128 := by rw [← e2]; exact (List.getElem?_eq_some_iff.1 hx).1
  have hyb : y < 256 := hB y (List.mem_of_getElem? hy)
  rw [e1, List.getElem?_take, if_pos hk, List.getElem?_drop, hby] at hx
  -- the place within what is changed
  obtain ⟨d, hd⟩ : ∃ d, d = if er = true then 128 else 0 := ⟨_, rfl⟩
  have hpl : (if er = true then 1664 else 1792) + k = lvO er + (d + k) := by
    rw [hd]
    unfold lvO
    cases er <;> simp <;> omega
  have hdk : d + k < (lvG W er).length := by
    rw [hgl, hd]
    cases er <;> simp <;> omega
  rw [hpl, lay_get _ _ _ _ (by rw [hml]; exact hdk) (by rw [hl1]; omega), mixF_get _ _ _ _ (by rw [List.length_take, List.length_drop, hl1]; omega)] at hx
  injection hx with hx
  have ec : (((lay exB 1664 W).drop (lvO er)).take (lvG W er).length).getD (d + k) 0 = if er = true then y else 255 := by
    rw [List.getD_eq_getElem?_getD, List.getElem?_take, if_pos hdk, List.getElem?_drop, ← hpl]
    cases er
    · simp only [Bool.false_eq_true, if_false]
      have h3 := lay_behind exB W 1664 0 (by rw [exB_len, hW]; omega)
      rw [hW] at h3
      have h2 : (lay exB 1664 W)[1792 + k]? = ((lay exB 1664 W).drop 1792)[k]? := by rw [List.getElem?_drop]
      rw [h2, h3, List.getElem?_drop, exB_at _ (by omega)]
      rfl
    · simp only [if_true]
      rw [lay_get _ _ _ _ (by omega) (by rw [exB_len]; omega), hy]
      rfl
  have eg : (lvG W er).getD (d + k) 0 = if er = true then 255 else y := by
    rw [List.getD_eq_getElem?_getD, hd]
    unfold lvG
    cases er
    · simp only [Bool.false_eq_true, if_false, Nat.zero_add]
      rw [hy]
      rfl
    · simp only [if_true]
      rw [List.getElem?_replicate, if_pos (by omega)]
      rfl
  rw [ec, eg] at hx
  subst hx
  cases er
  · exact under_goal y _ hyb (maskF_lt mask hm _)
  · exact under_keep y _ hyb (maskF_lt mask hm _)
end
end Go.Proofs.YtgfdiboaiifdnaaGreat
