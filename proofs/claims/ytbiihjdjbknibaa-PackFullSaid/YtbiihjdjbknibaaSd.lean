/-
  Contracts: a page that is put: bytes repeated, numbers laid at a place, the whole page.
-/
import Derived.Test.YtbiihjdjbknibaaSb
import Derived.Laws.CopyOwn
import Derived.Lib.MakeNoZero
import Derived.Lib.Mul64
import Derived.Laws.Bits64b
import Derived.Laws.Externs
import Derived.Deep.RegionLaw
namespace Go.Proofs.Ytbiihjdjbknibaa
set_option maxRecDepth 100000
open Go.ChangeShapes Go.WideShapes Go.ChangeAt Go.RowKit

theorem sz_u8 : (Try.prog.info? 5).map (·.size) = some 1 := by kernel_rfl

/-- k laid over cur from place off on. -/
def lay {α : Type} (cur : List α) (off : Nat) (k : List α) : List α := cur.take off ++ (k ++ cur.drop (off + k.length))
theorem lay_map (cur k : List Nat) (junk : List Value) (off : Nat) (h : off + k.length ≤ cur.length) : lay (cur.map byt ++ junk) off (k.map byt) = (lay cur off k).map byt ++ junk := by
  unfold lay
  rw [List.take_append_of_le_length (by simp; omega), List.drop_append_of_le_length (by simp; omega)]
  simp
theorem lay_length {α : Type} (cur : List α) (off : Nat) (k : List α) (h : off + k.length ≤ cur.length) : (lay cur off k).length = cur.length := by simp [lay]; omega

/-- Bytes copied into a block that is known whole: at place off, as many as both have. -/
theorem wpList_copy_blk {w : World} {ops : Array Oper} {rest : List Oper} {o : Oper} {a : Act} {Q : Exit → Act → World → Prop} (hgd : o.guard = none) (d s : Operand)
    (ho : o.op = .call { callee := .builtin .copy, args := #[d, s], argTypes := #[25, 25] })
    (dp : Option Addr) (dLen dCap : Nat) (hd : a.eval d = .slice dp dLen dCap) (sp : Option Addr) (sLen sCap : Nat) (hs : a.eval s = .slice sp sLen sCap)
    (g off : Nat) (cur : List Value) (hg : Blk w g 5 cur) (k : List Nat) (hk : Bts w sp sLen k) (m : Nat) (hm : m = Nat.min sLen dLen)
    (hpos : 0 < m → dp = some ⟨g, off, none⟩) (hfit : off + m ≤ cur.length) (k' : List Nat) (hk' : k' = k.take m)
    (h : ∀ w', Hid (Blk w' g 5 (lay cur off (k'.map byt))) → Hid (Kept (· = g) w w') → wpList Try.prog ops Q rest (a.put o.dst (.int .i64 (m : Int))) w') :
    wpList Try.prog ops Q (o :: rest) a w := by
  subst hk'
  have hmk : (k.take m).length = m := by rw [List.length_take, hk.1, hm]; exact Nat.min_eq_left (Nat.min_le_left _ _)
  by_cases h0 : m = 0
  · subst h0
    refine wpList_copy_nothing hgd d s _ _ ho 5 Try.underlying25 sz_u8 dp sp dLen dCap sLen sCap hd hs hm.symm ?_
    exact h w (by simpa [Hid, lay] using hg) (Kept.refl _ _)
  · obtain rfl := hpos (by omega)
    have hs0 : 0 < sLen := by
      have h1 : m ≤ sLen := hm ▸ Nat.min_le_left sLen dLen
      omega
    obtain ⟨gs, os, rfl, hc⟩ := hk.2.2 hs0
    refine wpList_copy_own hgd d s _ _ ho 5 Try.underlying25 sz_u8 g off dLen dCap _ sLen sCap hd hs _ 5 hg ((k.take m).map byt) (by rw [List.length_map, hmk, hm]) ?_ ?_ ?_ ?_
    · intro j v hv
      rw [List.getElem?_map] at hv
      obtain ⟨x, hx, rfl⟩ := Option.map_eq_some_iff.1 hv
      rw [List.getElem?_take] at hx
      split at hx
      · rw [Addr.add_lit]; exact hc j x hx
      · cases hx
    · rw [List.length_map, hmk]; simpa using hfit
    · intro v hv
      obtain ⟨x, _, rfl⟩ := List.mem_map.1 hv
      rfl
    · rw [List.length_map, hmk]
      have e := setRow_heap w g (cur.toArray) ((cur.toArray.toList.take off ++ ((k.take m).map byt ++ cur.toArray.toList.drop (off + m))).toArray) 5 (0, 0) hg
      refine h (w.setRow g ((cur.toArray.toList.take off ++ ((k.take m).map byt ++ cur.toArray.toList.drop (off + m))).toArray)) ?_ ⟨rfl, rfl, rfl, by simp [World.setRow], fun i _ hi => setRow_other w g i _ (by simpa using hi)⟩
      show Blk _ _ _ _
      unfold Blk
      rw [e]
      unfold lay
      rw [List.length_map, hmk]

/-- The same as one step of a region that draws. -/
theorem step_copy_blk {w : World} {ops : Array Oper} {o : Oper} {a : Act} {K : Act → World → Prop} {Q : Exit → Act → World → Prop} {E : Prop} (hgd : o.guard = none) (d s : Operand)
    (ho : o.op = .call { callee := .builtin .copy, args := #[d, s], argTypes := #[25, 25] })
    (dp : Option Addr) (dLen dCap : Nat) (hd : a.eval d = .slice dp dLen dCap) (sp : Option Addr) (sLen sCap : Nat) (hs : a.eval s = .slice sp sLen sCap)
    (g off : Nat) (cur : List Value) (hg : Blk w g 5 cur) (k : List Nat) (hk : Bts w sp sLen k) (m : Nat) (hm : m = Nat.min sLen dLen)
    (hpos : 0 < m → dp = some ⟨g, off, none⟩) (hfit : off + m ≤ cur.length) (k' : List Nat) (hk' : k' = k.take m)
    (h : ∀ w', Hid (Blk w' g 5 (lay cur off (k'.map byt))) → Hid (Kept (· = g) w w') → K (a.put o.dst (.int .i64 (m : Int))) w') :
    if Region.wanted o (yielded ops a.tmps) = true then Oper.wp Try.prog o a w K Q else E := by
  have hw : Region.wanted o (yielded ops a.tmps) = true := by simp [Region.wanted, hgd]
  rw [if_pos hw]
  subst hk'
  have hmk : (k.take m).length = m := by rw [List.length_take, hk.1, hm]; exact Nat.min_eq_left (Nat.min_le_left _ _)
  by_cases h0 : m = 0
  · subst h0
    have hrun := run_copy_none (P := Try.prog) w 25 25 o.type 5 dp sp dLen dCap sLen sCap Try.underlying25 sz_u8 hm.symm
    unfold Oper.wp
    simp [execOp, ho, resolve, invoke, builtin, hd, hs, hrun, Result.andThen]
    exact h w (by simpa [Hid, lay] using hg) (Kept.refl _ _)
  · obtain rfl := hpos (by omega)
    have hs0 : 0 < sLen := by
      have h1 : m ≤ sLen := hm ▸ Nat.min_le_left sLen dLen
      omega
    obtain ⟨gs, os, rfl, hc⟩ := hk.2.2 hs0
    have hrun := run_copy_row (P := Try.prog) w 25 25 o.type 5 g off dLen dCap _ sLen sCap cur.toArray 5 ((k.take m).map byt) Try.underlying25 sz_u8 hg (by rw [List.length_map, hmk, hm])
      (by
        intro j v hv
        rw [List.getElem?_map] at hv
        obtain ⟨x, hx, rfl⟩ := Option.map_eq_some_iff.1 hv
        rw [List.getElem?_take] at hx
        split at hx
        · rw [Addr.add_lit]; exact hc j x hx
        · cases hx) (by rw [List.length_map, hmk]; simpa using hfit)
      (by
        intro v hv
        obtain ⟨x, _, rfl⟩ := List.mem_map.1 hv
        rfl)
    rw [List.length_map, hmk] at hrun
    have e := setRow_heap w g (cur.toArray) ((cur.toArray.toList.take off ++ ((k.take m).map byt ++ cur.toArray.toList.drop (off + m))).toArray) 5 (0, 0) hg
    unfold Oper.wp
    simp [execOp, ho, resolve, invoke, builtin, hd, hs, hrun, Result.andThen]
    refine h _ ?_ ⟨rfl, rfl, rfl, by simp [World.setRow], fun i _ hi => setRow_other w g i _ (by simpa using hi)⟩
    show Blk _ _ _ _
    unfold Blk lay
    rw [List.length_map, hmk]
    simpa using e

/-- A number is laid at a place of a block. -/
def LaidP (w : World) (g off : Nat) (cur : List Value) (k : List Nat) (e : Ending) (w' : World) : Prop :=
  e = .returned (.tuple #[]) ∧ Blk w' g 5 (lay cur off (k.map byt)) ∧ Kept (· = g) w w'

theorem putNumber_any (g off dLen dCap n s : Nat) (cur : List Value) (w : World) (hg : Blk w g 5 cur) (hn : n < 65536) (hs : isSz s) (hf : fitB n s = true) (hl : s ≤ dLen) (hfit : off + s ≤ cur.length) :
    Calls Try.prog 65 #[.slice (some ⟨g, off, none⟩) dLen dCap, .int .i64 n, .int .i64 s] w (LaidP w g off cur (leB n s)) := by
  have Hg := Lib.hid hg
  have Hs := Lib.hid hs
  have Hf := Lib.hid hf
  have hfit' := Lib.hid hfit
  clear hg hs hf hfit
  go_enter Try.func65, Try.ntmps65
  go_wp2_with fail
  refine (put_ok n s _ (by omega) Hs.out Hf.out).mono ?_
  rintro e w1 ⟨A1, c1, rfl, o1, k1⟩
  have O1 := Lib.hid o1
  have K1 := Lib.hid k1
  have G1 := Lib.hid (Hg.out.kept k1 (fun f => f))
  have hlen := Lib.hid (leB_length n s)
  clear o1 k1
  rw [hlen.out]
  go_wp2_with (with_reducible refine wpList_copy_blk (o := ⟨some 17, _, _, _, _, _⟩) rfl (.tmp 15) (.tmp 16) rfl (some ⟨g, off, none⟩) dLen dCap rfl A1 s c1 rfl g off cur G1.out (leB n s) ?_ s ?_ (fun _ => rfl) hfit'.out (leB n s) ?_ ?_)
  · have := O1.out.bts; rwa [hlen.out] at this
  · exact (Nat.min_eq_left hl).symm
  · rw [List.take_of_length_le (by rw [hlen.out]; exact Nat.le_refl _)]
  intro w2 HB HK
  go_wp2
  go_end0
  exact ⟨rfl, HB.out, (K1.out.mono fun _ _ f => f.elim).trans HK.out fun _ _ h => h⟩
end Go.Proofs.Ytbiihjdjbknibaa
