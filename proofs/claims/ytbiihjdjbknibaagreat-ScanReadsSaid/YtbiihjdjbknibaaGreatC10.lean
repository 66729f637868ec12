/-
  Layer 7: contracts (Ne Nf Ng Nh).
-/
import Derived.Test.YtbiihjdjbknibaaGreatC09
import Derived.Deep.RegionHeld3
namespace Go.Proofs.YtbiihjdjbknibaaGreat
set_option maxRecDepth 100000
set_option maxHeartbeats 8000000
set_option linter.unusedSimpArgs false
set_option linter.unusedVariables false
section
set_option maxRecDepth 100000
open Go.ChangeShapes Go.WideShapes Go.ChangeAt Go.RowKit
theorem Blk.new {w w':World} {g:Nat} {t:TypeId} {cs:List Value} (h:Blk w g t cs) (hk:New w w'):Blk w' g t cs:=h.kept hk fun f=>f
def StrikingP (w:World) (A:Option Addr) (n c:Nat) (e:Ending) (w':World):Prop:=
 ∃bl bb,e=.returned (.func (.func 77) #[] #[.pointer (some ⟨bl,0,none⟩),.pointer (some ⟨bb,0,none⟩)])∧Blk w' bl 60 [.slice A n c]∧Blk w' bb 3 [.int .i64 0]∧w.heap.size≤bl∧w.heap.size≤bb∧New w w'
theorem striking_any (A:Option Addr) (n c:Nat) (w:World):
  Calls Tryz.prog 41 #[.slice A n c] w (StrikingP w A n c):=by
 go_enter Tryz.func41,Tryz.ntmps41;go_wp2;go_ret;refine⟨w.heap.size,w.heap.size+1,rfl,?_,?_,Nat.le_refl _,by omega,(kR.alloc _).alloc _⟩
 ·exact (Blk.made w 60 #[.slice A n c]).alloc _
 ·have:=Blk.made (w.alloc (Obj.cells #[Value.slice A n c] 60)) 3 #[.int .i64 0]
  simpa using this
theorem struck_none (bl bb:Nat) (A:Option Addr) (c:Nat) (w:World) (hl:Blk w bl 60 [.slice A 0 c]):
  Calls Tryz.prog 77 #[.pointer (some ⟨bl,0,none⟩),.pointer (some ⟨bb,0,none⟩)] w
   fun e w'=>e=.returned (.tuple #[.agg #[.int .i64 0,.bool false,.slice none 0 0],.bool false])∧New w w':=by
 have c0:=hl.cell 0;have hlt:=hl.lt;simp only[List.getElem?_cons_zero] at c0;clear hl;go_enter Tryz.func77,Tryz.ntmps77;go_wp2;refine bodyPost_ret (v:=.tuple #[.agg #[.int .i64 0,.bool false,.slice none 0 0],.bool false]) (by simp[results,Tryz.results77,go_sem]) rfl ⟨rfl,kR.alloc _⟩
theorem kept_set3 (w:World) (B:Nat) (a b c:Value):Kept (fun k=>k=B) w (((w.setCell ⟨B,0,none⟩ a).setCell ⟨B,1,none⟩ b).setCell ⟨B,2,none⟩ c):=
 (((Kept.refl (fun k=>k=B) w).setCell (p:=⟨B,0,none⟩) (fun _=>rfl) a).setCell (p:=⟨B,1,none⟩) (fun _=>rfl) b).setCell (p:=⟨B,2,none⟩) (fun _=>rfl) c
theorem struck_end0 {w w1:World} {bb:Nat} (hb2:bb < w.heap.size) (vb v0 v1 v2 x:Value) (hb:Blk w bb 3 [vb]) (o':Obj) (q:Nat) (h:w1=(w.alloc o').drewN q):
  ∀w',w'=((((w1.setCell ⟨bb,0,none⟩ x).setCell ⟨w.heap.size,0,none⟩ v0).setCell ⟨w.heap.size,1,none⟩ v1).setCell ⟨w.heap.size,2,none⟩ v2) →
  Blk w' bb 3 [x]∧Kept (fun b=>b=bb) w w':=by
 subst h;rintro w' rfl;have k1:New w ((w.alloc o').drewN q):=(kR.alloc _).drewN q;generalize (w.alloc o').drewN q=w1 at k1;have hb1:=(hb.kept k1 (fun f=>f)).put 0 x;have kk:Kept (fun b=>b=bb) w (w1.setCell ⟨bb,0,none⟩ x):=(k1.mono (S':=fun b=>b=bb) fun _ _ f=>f.elim).setCell (p:=⟨bb,0,none⟩) (fun _=>rfl) _;generalize w1.setCell ⟨bb,0,none⟩ x=w2 at *;have k3:=kept_set3 w2 w.heap.size v0 v1 v2;exact⟨hb1.kept k3 (by omega),kk.trans k3 fun i hi h=>by omega⟩
theorem struck_not (bl bb gh oh n c since after:Nat) (w:World) (hl:Blk w bl 60 [.slice (some ⟨gh,oh,none⟩) n c]) (hn:0 < n) (hb:Blk w bb 3 [.int .i64 since])
  (h0:w.cell? ⟨gh,oh,none⟩=some (.int .i64 (after:Nat))) (hlt:since < after) (ha:after≤9223372036854775807):
  Calls Tryz.prog 77 #[.pointer (some ⟨bl,0,none⟩),.pointer (some ⟨bb,0,none⟩)] w
   fun e w'=>e=.returned (.tuple #[.agg #[.int .i64 0,.bool false,.slice none 0 0],.bool false])∧Blk w' bb 3 [.int .i64 (since+1:Nat)]∧Kept (·=bb) w w':=by
 have c0:=hl.cell 0;have c1:=hb.cell 0;have f1:=hb.free 0;have hl1:=hl.lt;have hl2:=hb.lt;have hl3:gh < w.heap.size:=World.block_lt_of_cell? w _ h0;simp only[List.getElem?_cons_zero] at c0 c1;have hne:(n == 0)=false:=beq_eq_false_iff_ne.2 (by omega);have hne2:((n:Int) == 0)=false:=beq_eq_false_iff_ne.2 (by omega)
 have hlti:(since:Int) < (after:Int):=by omega
 have hn1:(0:Int) < (n:Int):=by omega
 have Hb:=jH hb;clear hl hb;go_enter Tryz.func77,Tryz.ntmps77;go_wp2;go_quiet (fail);go_wp2;refine bodyPost_ret (v:=.tuple #[.agg #[.int .i64 0,.bool false,.slice none 0 0],.bool false]) (by simp[results,Tryz.results77,go_sem]) rfl ⟨rfl,?_⟩;obtain⟨e1,e2⟩:=struck_end0 hl2 _ _ _ _ _ Hb.out _ nq rfl _ rfl;exact⟨e1,e2⟩
def StruckP (w:World) (bl bb gh oh n c after:Nat) (fails:Bool) (Am:Option Addr) (m cm:Nat) (e:Ending) (w':World):Prop:=
 e=.returned (.tuple #[.agg #[.int .i64 (after:Nat),.bool fails,.slice Am m cm],.bool true])∧(∃A',Blk w' bl 60 [.slice A' (n - 1) (c - 1)]∧(1 < n→A'=some ⟨gh,oh+3,none⟩))∧Blk w' bb 3 [.int .i64 (0:Nat)]∧Kept (fun b=>b=bl∨b=bb) w w'
theorem struck_end {w w1:World} {bl bb:Nat} (hbl:bl≠bb) (hl2:bl < w.heap.size) (hb2:bb < w.heap.size) (va vb v0 v1 v2 x:Value) (hl:Blk w bl 60 [va]) (hb:Blk w bb 3 [vb]) (u:Value) (o o':Obj) (q:Nat) (h:w1=(w.alloc o').drewN q):
  ∀w',w'=(((((w1.setCell ⟨bl,0,none⟩ u).setCell ⟨bb,0,none⟩ x).setCell ⟨w.heap.size,0,none⟩ v0).setCell ⟨w.heap.size,1,none⟩ v1).setCell ⟨w.heap.size,2,none⟩ v2).alloc o →
  Blk w' bl 60 [u]∧Blk w' bb 3 [x]∧Kept (fun b=>b=bl∨b=bb) w w':=by
 subst h;rintro w' rfl;have k1:New w ((w.alloc o').drewN q):=(kR.alloc _).drewN q;generalize hw1:(w.alloc o').drewN q=w1 at k1;have hl1:=(hl.kept k1 (fun f=>f)).put 0 u;have hb1:=(hb.kept k1 (fun f=>f)).kept (Kept.set1 w1 bl 0 u) (Ne.symm hbl);have hb2':=hb1.put 0 x;have hl2':=hl1.kept (Kept.set1 (w1.setCell ⟨bl,0,none⟩ u) bb 0 x) hbl
 have kk:Kept (fun b=>b=bl∨b=bb) w ((w1.setCell ⟨bl,0,none⟩ u).setCell ⟨bb,0,none⟩ x):=
  ((k1.mono (S':=fun b=>b=bl∨b=bb) fun _ _ f=>f.elim).setCell (p:=⟨bl,0,none⟩) (fun _=>.inl rfl) _).setCell (p:=⟨bb,0,none⟩) (fun _=>.inr rfl) _
 generalize (w1.setCell ⟨bl,0,none⟩ u).setCell ⟨bb,0,none⟩ x=w2 at *;have k3:=(kept_set3 w2 w.heap.size v0 v1 v2).alloc o;refine⟨hl2'.kept k3 (by omega),hb2'.kept k3 (by omega),kk.trans k3 fun i hi h=>?_⟩;omega
theorem struck_yes (bl bb gh oh n c since after:Nat) (fails:Bool) (Am:Option Addr) (m cm:Nat) (w:World) (hl:Blk w bl 60 [.slice (some ⟨gh,oh,none⟩) n c]) (hn:0 < n) (hnc:n≤c) (hc:c≤maxLen) (hb:Blk w bb 3 [.int .i64 since])
  (h0:w.cell? ⟨gh,oh,none⟩=some (.int .i64 (after:Nat))) (h1:w.cell? ⟨gh,oh+1,none⟩=some (.bool fails)) (h2:w.cell? ⟨gh,oh+2,none⟩=some (.slice Am m cm)) (hlt:¬since < after):
  Calls Tryz.prog 77 #[.pointer (some ⟨bl,0,none⟩),.pointer (some ⟨bb,0,none⟩)] w (StruckP w bl bb gh oh n c after fails Am m cm):=by
 have hbl:bl≠bb:=hl.ne_of hb (by decide);have c0:=hl.cell 0;have c1:=hb.cell 0;have f0:=hl.free 0;have f1:=hb.free 0;have hl1:=hl.lt;have hl2:=hb.lt;have hl3:=World.block_lt_of_cell? w _ h0;simp only at hl3;simp only[List.getElem?_cons_zero] at c0 c1;have hne:(n == 0)=false:=beq_eq_false_iff_ne.2 (by omega);have hne2:((n:Int) == 0)=false:=beq_eq_false_iff_ne.2 (by omega)
 have hlti:¬(since:Int) < (after:Int):=by omega
 have hn1:(0:Int) < (n:Int):=by omega
 have hn2:(1:Int)≤(n:Int):=by omega
 unfold maxLen at hc;have Hl:=jH hl;have Hb:=jH hb;clear hl hb
 by_cases hc1:c=1
 ·have hn3:n=1:=by omega
  subst hc1 hn3;go_enter Tryz.func77,Tryz.ntmps77;go_wp2;go_quiet (fail);go_wp2;refine bodyPost_ret (v:=.tuple #[.agg #[.int .i64 (after:Nat),.bool fails,.slice Am m cm],.bool true]) (by simp[results,Tryz.results77,go_sem]) rfl ?_;obtain⟨e1,e2,e3⟩:=struck_end hbl hl1 hl2 _ _ _ _ _ _ Hl.out Hb.out _ _ _ nq rfl _ rfl;exact⟨rfl,⟨_,e1,fun h=>absurd h (by omega)⟩,e2,e3⟩
 ·have hc2:¬(c:Int)=1:=by omega
  go_enter Tryz.func77,Tryz.ntmps77;go_wp2;go_quiet (fail);go_wp2;refine bodyPost_ret (v:=.tuple #[.agg #[.int .i64 (after:Nat),.bool fails,.slice Am m cm],.bool true]) (by simp[results,Tryz.results77,go_sem]) rfl ?_;obtain⟨e1,e2,e3⟩:=struck_end hbl hl1 hl2 _ _ _ _ _ _ Hl.out Hb.out _ _ _ nq rfl _ rfl;exact⟨rfl,⟨_,e1,fun _=>rfl⟩,e2,e3⟩
end
section
set_option maxRecDepth 100000
open Go.ChangeShapes Go.WideShapes Go.ChangeAt Go.RowKit
def MadeP (w : World) (a b c d : Int) (A : Option Addr) (n cn : Nat) (B : Option Addr) (m cm : Nat) (e : Ending) (w' : World) : Prop :=
  ∃ g bl bb, e = .returned (.pointer (some ⟨g, 0, none⟩)) ∧ Blk w' g 56 [.int .i64 a, .int .i64 b, .int .i64 c, .int .i64 d, .slice A n cn, .slice B m cm, .bool false, .int .i64 0, .func (.func 77) #[] #[.pointer (some ⟨bl, 0, none⟩), .pointer (some ⟨bb, 0, none⟩)]] ∧
    Blk w' bl 60 [.slice none 0 0] ∧ Blk w' bb 3 [.int .i64 0] ∧ w.heap.size ≤ g ∧ w.heap.size ≤ bl ∧ w.heap.size ≤ bb ∧ New w w'
theorem made_any (a b c d : Int) (A : Option Addr) (n cn : Nat) (B : Option Addr) (m cm : Nat) (w : World) :
    Calls Tryz.prog 54 #[.agg #[.int .i64 a, .int .i64 b, .int .i64 c, .int .i64 d], .slice A n cn, .slice B m cm] w (MadeP w a b c d A n cn B m cm) := by
  go_enter Tryz.func54, Tryz.ntmps54
  go_wp2_with fail
  go_region_held3 (fun w' => w'.cell? ⟨w.heap.size, 0, none⟩ = some (.int .i64 a) ∧ w'.cell? ⟨w.heap.size, 1, none⟩ = some (.int .i64 b) ∧ w'.cell? ⟨w.heap.size, 2, none⟩ = some (.int .i64 c) ∧ w'.cell? ⟨w.heap.size, 3, none⟩ = some (.int .i64 d))
    (first | go_keep | (go_split_ands; refine ⟨?_, ?_, ?_, ?_⟩ <;> (refine HK.out.cell ?_ (fun f => f); assumption)))
    (first | (go_at_call 41; refine (striking_any _ _ _ _).mono ?_; rintro e w1 ⟨bl, bb, rfl, h1, h2, h3, h4, h5⟩; have H1 := jH h1; have H2 := jH h2; have H3 := jH h3; have H4 := jH h4; have HK := jH h5; clear h1 h2 h3 h4 h5))
  go_wp2
  go_ret
  have K1 : New w w1 := ((kR.alloc _).drew).new HK.out
  have h3 := H3.out
  have h4 := H4.out
  simp at h3 h4
  exact ⟨w1.heap.size, bl, bb, rfl, Blk.made w1 _ _, H1.out.alloc _, H2.out.alloc _, K1.size, by omega, by omega, K1.alloc _⟩
def ChipP (w : World) (s : CSt) (e : Ending) (w' : World) : Prop :=
  ∃ g Q, e = .returned (.tuple #[.pointer (some ⟨g, 0, none⟩), .int .i64 0]) ∧ NChip Q w' g s ∧ (∀ b, Q b → w.heap.size ≤ b) ∧ New w w'
theorem NRep.of_new {w w' : World} {s : CSt} {g gc gb bl bb cc cb : Nat} (ok : s.Ok) (hh : s.hits = []) (hs : s.since = 0) (hd : s.dead = false) (hn : s.deeds = 0)
    (chip : Blk w' g 56 [.int .i64 (s.nb : Nat), .int .i64 (s.np : Nat), .int .i64 (s.nz : Nat), .int .i64 (s.ns : Nat), .slice (some ⟨gc, 0, none⟩) s.by_.length cc, .slice (some ⟨gb, 0, none⟩) s.bad.length cb,
      .bool false, .int .i64 0, .func (.func 77) #[] #[.pointer (some ⟨bl, 0, none⟩), .pointer (some ⟨bb, 0, none⟩)]])
    (cells : ∃ junk, Blk w' gc 5 (s.by_.map byt ++ junk)) (ccap : s.by_.length ≤ cc ∧ cc ≤ maxLen) (bads : ∃ junk, Blk w' gb 4 (s.bad.map boolV ++ junk)) (bcap : s.bad.length ≤ cb ∧ cb ≤ maxLen)
    (list : Blk w' bl 60 [.slice none 0 0]) (cnt : Blk w' bb 3 [.int .i64 0]) (hg : w.heap.size ≤ g) (hc : w.heap.size ≤ gc) (hb : w.heap.size ≤ gb) (hl : w.heap.size ≤ bl) (hbb : w.heap.size ≤ bb) :
    NRep (fun b => w.heap.size ≤ b ∧ b < w'.heap.size) w' g gc gb bl bb cc cb none 0 s := by
  obtain ⟨j1, h1⟩ := cells
  obtain ⟨j2, h2⟩ := bads
  exact { low := fun b h => h.2, ok := ok, qg := ⟨hg, chip.lt⟩, qc := ⟨hc, h1.lt⟩, qb := ⟨hb, h2.lt⟩, ql := ⟨hl, list.lt⟩, qn := ⟨hbb, cnt.lt⟩, chip := by rw [hd, hn]; exact chip,
          cells := ⟨j1, h1⟩, ccap := ccap, bads := ⟨j2, h2⟩, bcap := bcap, list := by rw [hh]; exact list, hcap := by rw [hh]; exact ⟨Nat.le_refl _, by simp⟩, cnt := by rw [hs]; exact cnt, hits := by rw [hh]; exact HitsT.nil _ _ _ _ }
theorem madeBools (n : Nat) : madeCells (Value.cells (.bool false)) n = ((List.replicate n false).map boolV).toArray := by
  simp [madeCells, Value.cells, boolV]
  apply Array.ext
  · simp
  · intro i h1 h2; simp [Nat.mod_one]
theorem run_make_bools {P : Program} (t e : TypeId) (i : TypeInfo) (ht : P.underlying t = some (.slice e)) (hi : P.info? e = some i) (hz : i.zero = some (.bool false)) (hs : i.size = 1) (hby : i.bytes = 1)
    (kl kc : IntKind) (n : Nat) (hb : n ≤ 281474976710656) (u : World) :
    (Instr.makeSlice t (.int kl n) (.int kc n)).run P u = .ok (.slice (some ⟨u.heap.size, 0, none⟩) n n) (u.alloc (.cells (((List.replicate n false).map boolV).toArray) e)) := by
  have h := run_make (P := P) u t e i (.bool false) ht hi hz kl kc n n (by omega) (by omega) (by rw [hby]; omega) (by omega)
  simp only [Int.toNat_natCast] at h
  rw [h, hs, Nat.mul_one, madeBools]
theorem newS_end {w w4 : World} {a b c d g gE gB bl bb : Nat} {jE : List Value} (ok : (newS a b c d).Ok)
    (h1 : Blk w4 g 56 [.int .i64 a, .int .i64 b, .int .i64 c, .int .i64 d, .slice (some ⟨gE, 0, none⟩) (a * b * c) (a * b * c), .slice (some ⟨gB, 0, none⟩) a a, .bool false, .int .i64 0, .func (.func 77) #[] #[.pointer (some ⟨bl, 0, none⟩), .pointer (some ⟨bb, 0, none⟩)]])
    (h2 : Blk w4 bl 60 [.slice none 0 0]) (h3 : Blk w4 bb 3 [.int .i64 0]) (hE : Blk w4 gE 5 ((List.replicate (a * b * c) 255).map byt ++ jE)) (hB : Blk w4 gB 4 ((List.replicate a false).map boolV))
    (s1 : w.heap.size ≤ g) (s2 : w.heap.size ≤ bl) (s3 : w.heap.size ≤ bb) (s4 : w.heap.size ≤ gE) (s5 : w.heap.size ≤ gB) (hk : New w w4) :
    ChipP w (newS a b c d) (.returned (.tuple #[.pointer (some ⟨g, 0, none⟩), .int .i64 0])) w4 := by
  have hsz := ok.size
  have hnb := ok.nb2
  have e1 : (newS a b c d).by_.length = a * b * c := by simp [newS]
  have e2 : (newS a b c d).bad.length = a := by simp [newS]
  have e3 : (newS a b c d).nb = a := rfl
  refine ⟨g, _, rfl, ⟨gE, gB, bl, bb, a * b * c, a, none, 0, NRep.of_new ok rfl rfl rfl rfl ?_ ⟨jE, hE⟩ (by rw [e1] at hsz; rw [e1]; unfold maxLen; omega) ⟨[], by simpa [newS] using hB⟩ (by rw [e3] at hnb; rw [e2]; unfold maxLen; omega) h2 h3 s1 s4 s5 s2 s3⟩, fun b hb => hb.1, hk⟩
  rw [e1, e2]
  exact h1
theorem nNew_ok (a b c d : Nat) (w : World) (h : geoOk a b c d) :
    Calls Tryz.prog 26 #[.agg #[.int .i64 a, .int .i64 b, .int .i64 c, .int .i64 d]] w (ChipP w (newS a b c d)) := by
  have hok := newS_ok a b c d h
  have e1 : decide (geoOk a b c d) = true := decide_eq_true h
  obtain ⟨i0, hi, hz0, hz1, hz2⟩ := info_parts info_bool
  have hmk := fun u => run_make_bools (P := Tryz.prog) 53 4 i0 Tryz.underlying53 hi hz0 hz1 hz2 .i64 .i64 a (by have := h.1.2; omega) u
  have hb1 : 2 ≤ a * b * c := by
    have h1 : 8 * 4 ≤ a * b := Nat.mul_le_mul (by have := h.1; omega) (by have := h.2.1; omega)
    have h2 : 8 * 4 * 128 ≤ a * b * c := Nat.mul_le_mul h1 (by have := h.2.2.1; omega)
    omega
  have hb2 : a * b * c ≤ 524288 := prod_le (by have := h.1; omega) (by have := h.2.1; omega) (by have := h.2.2.1; omega)
  have HO := jH hok
  have HG := jH h
  have HB1 := jH hb1
  have HB2 := jH hb2
  clear h hok hb1 hb2 hz0 hz1 hz2 hi
  go_enter Tryz.func26, Tryz.ntmps26
  go_wp2_with fail
  refine (isGeo_any _ _ _ _ _).mono ?_
  rintro e w1 ⟨rfl, hk⟩
  rw [e1]
  clear e1
  have hc0 := hk.cell (show (w.alloc (.cells #[.int .i64 a, .int .i64 b, .int .i64 c, .int .i64 d] 51)).cell? ⟨w.heap.size, 0, none⟩ = some (.int .i64 a) from (Blk.made w _ _).cell 0) (fun f => f)
  have hc1 := hk.cell (show (w.alloc (.cells #[.int .i64 a, .int .i64 b, .int .i64 c, .int .i64 d] 51)).cell? ⟨w.heap.size, 1, none⟩ = some (.int .i64 b) from (Blk.made w _ _).cell 1) (fun f => f)
  have hc2 := hk.cell (show (w.alloc (.cells #[.int .i64 a, .int .i64 b, .int .i64 c, .int .i64 d] 51)).cell? ⟨w.heap.size, 2, none⟩ = some (.int .i64 c) from (Blk.made w _ _).cell 2) (fun f => f)
  have hc3 := hk.cell (show (w.alloc (.cells #[.int .i64 a, .int .i64 b, .int .i64 c, .int .i64 d] 51)).cell? ⟨w.heap.size, 3, none⟩ = some (.int .i64 d) from (Blk.made w _ _).cell 3) (fun f => f)
  have K1 : Hid (New w w1) := (kR.alloc _).new hk
  clear hk
  go_wp2_with fail
  go_region_held3 (fun w' => w'.cell? ⟨w.heap.size, 0, none⟩ = some (.int .i64 (a : Int)) ∧ w'.cell? ⟨w.heap.size, 1, none⟩ = some (.int .i64 (b : Int)) ∧ w'.cell? ⟨w.heap.size, 2, none⟩ = some (.int .i64 (c : Int)) ∧ w'.cell? ⟨w.heap.size, 3, none⟩ = some (.int .i64 (d : Int)))
    (first
      | go_keep
      | (go_split_ands; refine ⟨?_, ?_, ?_, ?_⟩ <;> (refine KM.out.cell ?_ (fun f => f); assumption))
      | (go_split_ands; refine ⟨?_, ?_, ?_, ?_⟩ <;> (refine KE.out.cell ?_ (fun f => f); assumption))
      | (go_split_ands; refine ⟨?_, ?_, ?_, ?_⟩ <;> (refine KA.out.cell ?_ (fun f => f); assumption)))
    (first
      | (go_at_call 52; refine (bytesOf_any _ _ _ _ _ (by have := HG.out.1; omega) (by have := HG.out.2.1; omega) (by have := HG.out.2.2.1; omega)).mono ?_; rintro e w2 ⟨rfl, hk⟩; have KA := jH hk; clear hk)
      | (go_at_call 45; refine (erased_any _ _ HB1.out HB2.out).mono ?_; rintro e w3 ⟨gE, jE, rfl, hE, hgE, hk⟩; have BE := jH hE; have GE := jH hgE; have KE := jH hk; clear hE hgE hk)
      | (go_at_call 54; refine (made_any _ _ _ _ _ _ _ _ _ _ _).mono ?_; rintro e w4 ⟨g, bl, bb, rfl, h1, h2, h3, h4, h5, h6, h7⟩; have H1 := jH h1; have H2 := jH h2; have H3 := jH h3; have H4 := jH h4; have H5 := jH h5; have H6 := jH h6; have KM := jH h7; clear h1 h2 h3 h4 h5 h6 h7))
  · have h1 := H1.out
    have h2 := H2.out
    have h3 := H3.out
    have KA2 : Hid (New w w2) := (K1.out.drew).new KA.out
    have KE2 : Hid (New w w3) := KA2.out.new KE.out
    have KB : Hid (Blk w4 w3.heap.size 4 ((List.replicate a false).map boolV)) := by
      have := (Blk.made w3 4 (Array.replicate a (boolV false))).new KM.out
      simpa [Hid] using this
    have r := newS_end HO.out h1 h2 h3 ((BE.out.alloc _).new KM.out) KB.out (Nat.le_trans KE2.out.size (by have := H4.out; simp at this; omega)) (Nat.le_trans KE2.out.size (by have := H5.out; simp at this; omega)) (Nat.le_trans KE2.out.size (by have := H6.out; simp at this; omega)) (Nat.le_trans KA2.out.size GE.out) KE2.out.size ((KE2.out.alloc _).new KM.out)
    have R := jH r
    clear h1 h2 h3 r
    go_wp2
    go_ret2
    exact R.out
  · have h1 := H1.out
    have h2 := H2.out
    have h3 := H3.out
    have KA2 : Hid (New w w2) := (K1.out.drew).new KA.out
    have KE2 : Hid (New w w3) := (KA2.out.alloc _).new KE.out
    have KB : Hid (Blk w4 w2.heap.size 4 ((List.replicate a false).map boolV)) := by
      have := ((Blk.made w2 4 (Array.replicate a (boolV false))).new KE.out).new KM.out
      simpa [Hid] using this
    have r := newS_end HO.out h1 h2 h3 (BE.out.new KM.out) KB.out (Nat.le_trans KE2.out.size H4.out) (Nat.le_trans KE2.out.size H5.out) (Nat.le_trans KE2.out.size H6.out) (Nat.le_trans KA2.out.size (by have := GE.out; simp at this; omega)) KA2.out.size (KE2.out.new KM.out)
    have R := jH r
    clear h1 h2 h3 r
    go_wp2
    go_ret2
    exact R.out
  · have h1 := H1.out
    have h2 := H2.out
    have h3 := H3.out
    have KA2 : Hid (New w w2) := ((K1.out.alloc _).drew).new KA.out
    have KE2 : Hid (New w w3) := KA2.out.new KE.out
    have KB : Hid (Blk w4 w1.heap.size 4 ((List.replicate a false).map boolV)) := by
      have := (((Blk.made w1 4 (Array.replicate a (boolV false))).drew.new KA.out).new KE.out).new KM.out
      simpa [Hid] using this
    have r := newS_end HO.out h1 h2 h3 (BE.out.new KM.out) KB.out (Nat.le_trans KE2.out.size H4.out) (Nat.le_trans KE2.out.size H5.out) (Nat.le_trans KE2.out.size H6.out) (Nat.le_trans KA2.out.size GE.out) K1.out.size (KE2.out.new KM.out)
    have R := jH r
    clear h1 h2 h3 r
    go_wp2
    go_ret2
    exact R.out
end
section
set_option maxRecDepth 100000
open Go.ChangeShapes Go.WideShapes Go.ChangeAt Go.RowKit
theorem there_dec (s:CSt) (b p:Int):decide (there s b p)=(inB b 0 (s.nb - 1) && inB p 0 (s.np - 1)):=by
 rw[Bool.eq_iff_iff,decide_eq_true_iff];unfold there inB;simp only[Bool.and_eq_true,decide_eq_true_iff];omega
theorem refuses_any (Q:Nat→Prop) (g gc gb bl bb cc cb:Nat) (Ah:Option Addr) (ch:Nat) (s:CSt) (b p:Int) (w:World) (h:NRep Q w g gc gb bl bb cc cb Ah ch s):
  Calls Tryz.prog 42 #[.pointer (some ⟨g,0,none⟩),.int .i64 b,.int .i64 p] w fun e w'=>e=.returned (.int .i64 (refE s b p))∧w=w':=by
 have c0:=h.c0;have c1:=h.c1;have c6:=h.c6;have hnb:=h.ok.nb2;have hnp:=h.ok.np2;have hnb1:=h.ok.nb1;have hnp1:=h.ok.np1;have H:=jH h;have HT:=jH (there_dec s b p);clear h
 by_cases hd:s.dead=true
 ·have e:refE s b p=10:=by unfold refE;rw[if_pos hd]
  rw[e];rw[hd] at c6;clear e hd;go_enter Tryz.func42,Tryz.ntmps42
  go_wp2_with (go_at_call 38;refine (cNone_no _ _ _ _ _ _ _ _ _ _ _ _ H.out).mono ?_;rintro e w' ⟨rfl,rfl⟩)
  go_ret;exact⟨rfl,rfl⟩
 ·have hd':s.dead=false:=by simpa using hd
  rw[hd'] at c6
  have er:refE s b p=if decide (there s b p)=true then 0 else 2:=by unfold refE;rw[if_neg hd];simp
  rw[er,HT.out];clear er hd hd';have HH:=jH H.out.chip;generalize hx:inB b 0 ((s.nb:Int) - 1)=x at *;have HX:=jH hx;clear hx;generalize hy:inB p 0 ((s.np:Int) - 1)=y at *;have HY:=jH hy;clear hy;cases x
  ·go_enter Tryz.func42,Tryz.ntmps42
   go_wp2_with (first
    | (go_at_call 38;refine (cNone_no _ _ _ _ _ _ _ _ _ _ _ _ H.out).mono ?_;rintro e w' ⟨rfl,rfl⟩)
    | (go_at_call 53;refine (within_any _ _ _ _).mono ?_;rintro e w' ⟨rfl,rfl⟩;(first|rw[HX.out]|rw[HY.out])))
   go_ret;exact⟨rfl,rfl⟩
  ·cases y
   all_goals
    go_enter Tryz.func42,Tryz.ntmps42
    go_wp2_with (first
     | (go_at_call 38;refine (cNone_no _ _ _ _ _ _ _ _ _ _ _ _ H.out).mono ?_;rintro e w' ⟨rfl,rfl⟩)
     | (go_at_call 53;refine (within_any _ _ _ _).mono ?_;rintro e w' ⟨rfl,rfl⟩;(first|rw[HX.out]|rw[HY.out])))
    go_ret;exact⟨rfl,rfl⟩
theorem mul_i64 {a b k:Nat} (h:a*b=k) (hk:k≤524288):IntKind.i64.wrap ((a:Int)*(b:Int))=(k:Int)∧wrap64 ((a:Int)*(b:Int))=(k:Int):=by
 subst h;rw[prod_int];exact⟨wrap_nat (by omega),wrap64_of (by omega) (by omega)⟩
theorem ret_sl {A:Option Addr} {n c n' c':Nat} (h1:n=n') (h2:c=c'):Ending.returned (.slice A n c)=.returned (.slice A n' c'):=by rw[h1,h2]
theorem blockOf_any (Q:Nat→Prop) (g gc gb bl bb cc cb:Nat) (Ah:Option Addr) (ch:Nat) (s:CSt) (b:Nat) (w:World) (h:NRep Q w g gc gb bl bb cc cb Ah ch s) (hb:b < s.nb):
  Calls Tryz.prog 43 #[.pointer (some ⟨g,0,none⟩),.int .i64 b] w (RetV w (.slice (some ⟨gc,b*(s.np*s.nz),none⟩) (s.np*s.nz) (s.np*s.nz))):=by
 have c1:=h.c1;have c2:=h.c2;have c4:=h.c4;have hcap:=h.ccap;have hsz:=h.ok.size;have hlen:=h.ok.len;have hz1:=h.ok.nz1;have hp1:=h.ok.np1;have hlt:g < w.heap.size:=h.chip.lt
 have hm1:s.np*s.nz≤8192:=by have:=Nat.mul_le_mul h.ok.np2 h.ok.nz2;omega
 have hm0:0 < s.np*s.nz:=Nat.mul_pos (by omega) (by omega)
 have hfit:b*(s.np*s.nz)+s.np*s.nz≤s.by_.length:=by
  rw[hlen,Nat.mul_assoc]
  have:=Nat.mul_le_mul_right (s.np*s.nz) (show b+1≤s.nb from hb)
  rw[Nat.add_mul,Nat.one_mul] at this;exact this
 have hbb:b*(s.np*s.nz)≤524288:=by omega
 obtain⟨w1,w1'⟩:=mul_i64 (rfl:s.np*s.nz=_) (by omega);obtain⟨w2,w2'⟩:=mul_i64 (rfl:b*(s.np*s.nz)=_) hbb;unfold maxLen at hcap;have hc1:=hcap.1;have hc2:=hcap.2;clear h hb hlen hz1 hp1 hcap;generalize s.np*s.nz=z at *;generalize b*z=o at *;generalize s.by_.length=L at *
 have hne:¬(cc:Int)=(o:Int):=by omega
 have hne2:¬cc=o:=by omega
 have w3:IntKind.i64.wrap ((o:Int)+(z:Int))=((o+z:Nat):Int):=by rw[IntKind.wrap_i64];omega
 have q1:(0:Int)≤(o:Int):=by omega
 have q2:(o:Int)≤((o+z:Nat):Int):=by omega
 have q3:((o+z:Nat):Int)≤(cc:Int):=by omega
 go_enter Tryz.func43,Tryz.ntmps43;go_wp2;go_quiet (fail);go_wp2;go_ret;exact⟨nq,ret_sl (by omega) (by omega),rfl⟩
theorem pageOf_any (Q:Nat→Prop) (g gc gb bl bb cc cb:Nat) (Ah:Option Addr) (ch:Nat) (s:CSt) (b p:Nat) (w:World) (h:NRep Q w g gc gb bl bb cc cb Ah ch s) (hb:b < s.nb) (hp:p < s.np):
  Calls Tryz.prog 65 #[.pointer (some ⟨g,0,none⟩),.int .i64 b,.int .i64 p] w (RetV w (.slice (some ⟨gc,(b*s.np+p)*s.nz,none⟩) s.nz s.nz)):=by
 have c2:=h.c2;have hz1:=h.ok.nz1;have hz2:=h.ok.nz2;have H:=jH h;have hlt:g < w.heap.size:=h.chip.lt
 have hm1:s.np*s.nz≤8192:=by have:=Nat.mul_le_mul h.ok.np2 h.ok.nz2;omega
 have hpz:p*s.nz+s.nz≤s.np*s.nz:=by
  have:=Nat.mul_le_mul_right s.nz (show p+1≤s.np from hp)
  rw[Nat.add_mul,Nat.one_mul] at this;exact this
 obtain⟨w1,w1'⟩:=mul_i64 (rfl:p*s.nz=_) (by omega)
 have heq:(b*s.np+p)*s.nz=b*(s.np*s.nz)+p*s.nz:=by rw[Nat.add_mul,Nat.mul_assoc]
 rw[heq];have HB:=jH hb;clear h hb hp heq;generalize hZ:s.np*s.nz=Z at *;have HZ:=jH hZ;clear hZ;generalize p*s.nz=o at *;generalize hO:b*Z=O at *;have HO:=jH hO;clear hO;generalize hz:s.nz=z at *;have Hz:=jH hz;clear hz
 have hne:¬(Z:Int)=(o:Int):=by omega
 have hne2:¬Z=o:=by omega
 have w3:IntKind.i64.wrap ((o:Int)+(z:Int))=((o+z:Nat):Int):=by rw[IntKind.wrap_i64];omega
 have hoz:o+z - o=z:=by omega
 go_enter Tryz.func65,Tryz.ntmps65;go_wp2_with fail;refine (blockOf_any _ _ _ _ _ _ _ _ _ _ _ _ _ H.out HB.out).mono ?_;rintro e w' ⟨q,rfl,rfl⟩;rw[Hz.out,HZ.out,HO.out];go_wp2;go_ret;exact⟨q,ret_sl (by omega) (by omega),rfl⟩
theorem quiet_ret {f:FuncId} {args:Array Value} {w:World} {n:Nat} {v:Value} (h:Calls Tryz.prog f args (w.drewN n) (RetV (w.drewN n) v)):Calls Tryz.prog f args (w.drewN n) fun e w''=>e=.returned v∧∃m,w''=w.drewN m:=
 h.mono fun _ _ ⟨m,he,hm⟩=>⟨he,n+m,by rw[hm,World.drewN_drewN]⟩
theorem NRep.cellBts {Q:Nat→Prop} {w:World} {g gc gb bl bb cc cb:Nat} {Ah:Option Addr} {ch:Nat} {s:CSt} (h:NRep Q w g gc gb bl bb cc cb Ah ch s) (off n:Nat) (hf:off+n≤s.by_.length):
  Bts w (some ⟨gc,off,none⟩) n ((s.by_.drop off).take n):=by
 obtain⟨j,hj⟩:=h.cells;refine⟨by simp;omega,fun x hx=>h.ok.bytes x (List.mem_of_mem_drop (List.mem_of_mem_take hx)),fun _=>⟨gc,off,rfl,fun i x hx=>?_⟩⟩;rw[List.getElem?_take] at hx
 split at hx
 ·rw[List.getElem?_drop] at hx;have hi:off+i < s.by_.length:=(List.getElem?_eq_some_iff.1 hx).1;rw[hj.cell,List.getElem?_append_left (by simpa using hi),List.getElem?_map,hx]
  rfl
 ·cases hx
theorem isFree_any (Q:Nat→Prop) (g gc gb bl bb cc cb:Nat) (Ah:Option Addr) (ch:Nat) (s:CSt) (b p:Nat) (w:World) (h:NRep Q w g gc gb bl bb cc cb Ah ch s) (hb:b < s.nb) (hp:p < s.np):
  Calls Tryz.prog 64 #[.pointer (some ⟨g,0,none⟩),.int .i64 b,.int .i64 p] w (RetV w (.bool (blank (tailL s b p)))):=by
 have c2:=h.c2;have hz1:=h.ok.nz1;have hz2:=h.ok.nz2;have H:=jH h;have hlt:g < w.heap.size:=h.chip.lt
 have hm1:s.np*s.nz≤8192:=by have:=Nat.mul_le_mul h.ok.np2 h.ok.nz2;omega
 have hpz:p*s.nz+s.nz≤s.np*s.nz:=by
  have:=Nat.mul_le_mul_right s.nz (show p+1≤s.np from hp)
  rw[Nat.add_mul,Nat.one_mul] at this;exact this
 have hof:=off_fit s h.ok b p ⟨⟨by omega,by omega⟩,by omega,by omega⟩
 have heq:offP s b p=b*(s.np*s.nz)+p*s.nz:=by simp[offP];rw[Nat.add_mul,Nat.mul_assoc]
 have hsub:(s.np - p)*s.nz=s.np*s.nz - p*s.nz:=Nat.sub_mul _ _ _
 have HBt:=jH (show Bts w (some ⟨gc,b*(s.np*s.nz)+p*s.nz,none⟩) (s.np*s.nz - p*s.nz) (tailL s b p) from by
  have:=h.cellBts (offP s b p) ((s.np - p)*s.nz) (by simpa using hof.1)
  rw[heq,hsub] at this;unfold tailL;rw[heq,Int.toNat_natCast,hsub]
  exact this)
 obtain⟨w1,w1'⟩:=mul_i64 (rfl:p*s.nz=_) (by omega);have HB:=jH hb;clear h hb hp heq hof hsub;generalize tailL s b p=T at *;generalize hZ:s.np*s.nz=Z at *;have HZ:=jH hZ;clear hZ;generalize p*s.nz=o at *;generalize hO:b*Z=O at *;have HO:=jH hO;clear hO
 have hne:¬(Z:Int)=(o:Int):=by omega
 have hne2:¬Z=o:=by omega
 have q1:(o:Int)≤(Z:Int):=by omega
 have HC:Hid (∀n,Calls Tryz.prog 43 #[.pointer (some ⟨g,0,none⟩),.int .i64 b] (w.drewN n) (RetV (w.drewN n) (.slice (some ⟨gc,O,none⟩) Z Z))):=by
  intro n
  have:=blockOf_any _ _ _ _ _ _ _ _ _ _ _ b _ (H.out.drewN n) HB.out
  rw[HZ.out,HO.out] at this;exact this
 clear HZ HO;go_enter Tryz.func64,Tryz.ntmps64;go_wp2_with fail
 go_quiet ((first
  | (go_at_call 43;exact quiet_ret (HC.out _))
  | (go_at_call 96;exact Calls.quiet_of_same ((sBlank_any _ _ _ T _ (HBt.out.drewN _) (by unfold maxLen;omega)).mono fun _ _ h=>⟨h.1,h.2.symm⟩))))
 go_wp2;go_ret;exact⟨nq,rfl,rfl⟩
end
section
set_option maxRecDepth 100000
open Go.ChangeShapes Go.WideShapes Go.ChangeAt Go.RowKit
theorem nat_of {b:Int} {n:Nat} (h:0≤b∧b < n):∃k:Nat,b=k∧k < n:=⟨b.toNat,by omega,by omega⟩
theorem nRead_any (Q:Nat→Prop) (g:Nat) (s:CSt) (b p:Int) (w:World) (h:NChip Q w g s):
  Calls Tryz.prog 32 #[.pointer (some ⟨g,0,none⟩),.int .i64 b,.int .i64 p] w (RetB w (readL s b p) (readE s b p)):=by
 obtain⟨gc,gb,bl,bb,cc,cb,Ah,ch,h⟩:=h;have H:=jH h
 by_cases hr:refE s b p=0
 ·obtain⟨hd,ht⟩:=refE_ok hr
  have e1:readL s b p=pgL s b p:=by unfold readL;rw[if_pos hr]
  have e2:readE s b p=0:=hr;rw[e1,e2];obtain⟨b',rfl,hb⟩:=nat_of ht.1;obtain⟨p',rfl,hp⟩:=nat_of ht.2;have HBt:=jH (h.cellBts (offP s b' p') s.nz (off_fit s h.ok _ _ ht).2.2);have HL:=jH (pg_len s h.ok _ _ ht);have HR:=jH hr;have HB:=jH hb;have HP:=jH hp;have hz2:=h.ok.nz2;have hz1:=h.ok.nz1;clear h hr hd ht e1 e2 hb hp;go_enter Tryz.func32,Tryz.ntmps32;go_wp2_with fail;refine (refuses_any _ _ _ _ _ _ _ _ _ _ _ _ _ _ H.out).mono ?_;rintro e w' ⟨rfl,rfl⟩;rw[HR.out];go_wp2_with fail;refine (pageOf_any _ _ _ _ _ _ _ _ _ _ _ _ _ _ H.out HB.out HP.out).mono ?_;rintro e w' ⟨q,rfl,rfl⟩;go_wp2_with fail
  refine (clone_any _ s.nz s.nz (pgL s b' p') _ ?_ (by omega) (by intro h;cases h)).mono ?_
  ·have:=HBt.out
   unfold offP at this;simp only[Int.toNat_natCast] at this;unfold pgL offP;simp only[Int.toNat_natCast];exact this
  rintro e w2 ⟨A2,c2,rfl,ho,hk⟩;have HO:=jH ho;have HK:=jH hk;clear ho hk;rw[HL.out];go_wp2;go_ret2;exact⟨A2,c2,by rw[HL.out];rfl,HO.out,HK.out.of_drewN⟩
 ·have e1:readL s b p=[]:=by unfold readL;rw[if_neg hr]
  have e2:readE s b p=refE s b p:=rfl;rw[e1,e2];have hq:(refE s b p == 0)=false:=beq_eq_false_iff_ne.2 hr;clear h e1 e2 hr;generalize hx:refE s b p=x at *;have HX:=jH hx;clear hx;go_enter Tryz.func32,Tryz.ntmps32;go_wp2_with fail;refine (refuses_any _ _ _ _ _ _ _ _ _ _ _ _ _ _ H.out).mono ?_;rintro e w' ⟨rfl,rfl⟩;rw[HX.out];go_wp2;go_ret2;exact RetB.nil _ _ _ kR
theorem badAt_cell {Q:Nat→Prop} {w:World} {g gc gb bl bb cc cb:Nat} {Ah:Option Addr} {ch:Nat} {s:CSt} (h:NRep Q w g gc gb bl bb cc cb Ah ch s) (b:Nat) (hb:b < s.nb):
  w.cell? ⟨gb,b,none⟩=some (.bool (badAt s b)):=by
 obtain⟨j,hj⟩:=h.bads
 have hl:b < s.bad.length:=by rw[h.ok.badl];exact hb
 rw[hj.cell,List.getElem?_append_left (by simpa using hl),List.getElem?_map,List.getElem?_eq_getElem hl];simp[badAt,List.getD_eq_getElem?_getD,List.getElem?_eq_getElem hl,boolV]
def badE (s:CSt) (b:Int):Bool:=decide (0≤b∧b < s.nb) && badAt s b.toNat
theorem nBad_any (Q:Nat→Prop) (g:Nat) (s:CSt) (b:Int) (w:World) (h:NChip Q w g s):
  Calls Tryz.prog 98 #[.pointer (some ⟨g,0,none⟩),.int .i64 b] w fun e w'=>e=.returned (.bool (badE s b))∧w=w':=by
 obtain⟨gc,gb,bl,bb,cc,cb,Ah,ch,h⟩:=h;have c0:=h.c0;have c5:=h.c5;have hnb2:=h.ok.nb2;have hnb1:=h.ok.nb1;have hbl:=h.ok.badl;rw[hbl] at c5;have H:=jH h
 by_cases hb:0≤b∧b < s.nb
 ·have HX:=jH (inB_yes (show 0≤b∧b≤(s.nb:Int) - 1 by omega));obtain⟨k,rfl,hk⟩:=nat_of hb;have hc:=badAt_cell h k hk
  have e:badE s k=badAt s k:=by unfold badE;rw[decide_eq_true hb];simp
  rw[e];clear h hb e hbl;go_enter Tryz.func98,Tryz.ntmps98
  go_wp2_with (first
   | (go_at_call 38;refine (cNone_no _ _ _ _ _ _ _ _ _ _ _ _ H.out).mono ?_;rintro e w' ⟨rfl,rfl⟩)
   | (go_at_call 53;refine (within_any _ _ _ _).mono ?_;rintro e w' ⟨rfl,rfl⟩;rw[HX.out]))
  go_ret;exact⟨rfl,rfl⟩
 ·have HX:=jH (inB_no (show ¬(0≤b∧b≤(s.nb:Int) - 1) by omega))
  have e:badE s b=false:=by unfold badE;rw[decide_eq_false hb];rfl
  rw[e];clear h hb e hbl;go_enter Tryz.func98,Tryz.ntmps98
  go_wp2_with (first
   | (go_at_call 38;refine (cNone_no _ _ _ _ _ _ _ _ _ _ _ _ H.out).mono ?_;rintro e w' ⟨rfl,rfl⟩)
   | (go_at_call 53;refine (within_any _ _ _ _).mono ?_;rintro e w' ⟨rfl,rfl⟩;rw[HX.out]))
  go_ret;exact⟨rfl,rfl⟩
theorem nGeo_any (Q:Nat→Prop) (g:Nat) (s:CSt) (w:World) (h:NChip Q w g s):
  Calls Tryz.prog 34 #[.pointer (some ⟨g,0,none⟩)] w fun e w'=>e=.returned (.agg #[.int .i64 (s.nb:Nat),.int .i64 (s.np:Nat),.int .i64 (s.nz:Nat),.int .i64 (s.ns:Nat)])∧New w w':=by
 obtain⟨gc,gb,bl,bb,cc,cb,Ah,ch,h⟩:=h;have c0:=h.c0;have c1:=h.c1;have c2:=h.c2;have c3:=h.c3;have hlt:g < w.heap.size:=h.chip.lt;have H:=jH h;clear h;go_enter Tryz.func34,Tryz.ntmps34;go_wp2_with fail;refine (cNone_no _ _ _ _ _ _ _ _ _ _ _ _ (H.out.new (kR.alloc _))).mono ?_;rintro e w' ⟨rfl,rfl⟩;go_wp2;refine bodyPost_ret (v:=.agg #[.int .i64 (s.nb:Nat),.int .i64 (s.np:Nat),.int .i64 (s.nz:Nat),.int .i64 (s.ns:Nat)]) (by simp[results,Tryz.results34,go_sem]) rfl ⟨rfl,kR.alloc _⟩
end
end Go.Proofs.YtbiihjdjbknibaaGreat
