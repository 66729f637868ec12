/-
  Layer 7: contracts (Nb Nc Nd).
-/
import Derived.Test.YtbiihjdjbknibaaGreatC08
namespace Go.Proofs.YtbiihjdjbknibaaGreat
set_option maxRecDepth 100000
set_option maxHeartbeats 8000000
set_option linter.unusedSimpArgs false
set_option linter.unusedVariables false
section
set_option maxRecDepth 100000
open Go.ChangeShapes Go.WideShapes Go.ChangeAt Go.RowKit
theorem repeat_low (A:Option Addr) (n:Nat) (w:World) (ha:Bts w A 1 [255]) (h1:2≤n) (h2:n≤8192):
  Calls Tryz.prog 79 #[.slice A 1 1,.int .i64 n] w (OnesP w n):=by
 obtain⟨cs,hrunM,hle,hmax⟩:=Lib.run_makeNoZero (P:=Tryz.prog) w #[3] 52 5 Tryz.underlying52 n (by omega)
 have hcall:(callFunc 105 #[.int .i64 (n:Int)]).run Tryz.prog w=.ok (.value (.slice (some ⟨w.heap.size,0,none⟩) n cs.size)) ((w.alloc (.cells cs 5)).drewN 2):=by
  rw[run_callFunc_extern Tryz.func105 (by kernel_rfl) (by kernel_rfl) (by kernel_rfl) (e:=Extern.BytealgMakeNoZero.makeNoZero #[3] #[52]) (by kernel_rfl),hrunM]
  rfl
 clear hrunM
 have i1:(n:Int)≤(cs.size:Int):=by omega
 have Ha:=jH ha;clear ha hmax;go_enter Tryz.func79,Tryz.ntmps79
 go_wp2_with (first
  | (go_at_call 104;refine (mul_big n _ (by omega)).mono ?_;rintro e w' ⟨rfl,rfl⟩)
  | (with_reducible refine wpList_copy_blk (o:=⟨some 60,_,_,_,_,_⟩) rfl (.tmp 58) (.tmp 59) rfl (some ⟨w.heap.size,0,none⟩) n n rfl A 1 1 rfl w.heap.size 0 cs.toList ?_ [255] ?_ 1 ?_ (fun _=>rfl) ?_ [255] rfl ?_))
 ·exact (Blk.made w 5 cs).drewN 2
 ·exact (Ha.out.new (kR.alloc _)).drewN 2
 ·exact (Nat.min_eq_left (by omega)).symm
 ·simp;omega
 intro w2 HB HK;clear hcall
 have HB2:Hid (Blk w2 w.heap.size 5 ((List.replicate 1 255).map byt++cs.toList.drop 1)):=by
  have:=HB.out
  unfold lay at this;simpa [Hid] using this
 have HN2:Hid (New w w2):=((kR.alloc _).drewN 2).trans HK.out (fun i hi h=>by omega)
 have hcl:Hid (n≤cs.toList.length):=by simpa [Hid] using hle
 clear HB HK i1 hle Ha;go_wp2
 go_loopw [10] (fun bp wr=>∃j:Nat,1≤j∧j≤n∧bp=.int .i64 j∧Blk wr w.heap.size 5 ((List.replicate j 255).map byt++cs.toList.drop j)∧New w wr) (fun bp _=>n - (intOf bp).toNat)
 case atStart=>exact⟨1,by omega,by omega,rfl,HB2.out,HN2.out⟩
 case round=>
  obtain⟨j,hj1,hj2,rfl,hblk,hnew⟩:=hrel;have HB:=jH hblk;have HN:=jH hnew;clear hblk hnew HB2 HN2
  by_cases hlt:j < n
  ·have hm:Nat.min j (n - j)≤n - j:=Nat.min_le_right _ _;have hm1:Nat.min j (n - j)≤j:=Nat.min_le_left _ _;have hm2:1≤Nat.min j (n - j):=Nat.le_min.2 ⟨hj1,by omega⟩;generalize hmm:Nat.min j (n - j)=m at hm hm1 hm2;have HM:=jH hmm.symm;clear hmm
   have hsrc:Hid (Bts wr (some ⟨w.heap.size,0,none⟩) j (List.replicate j 255)):=by
    refine⟨by simp,fun x hx=>by have:=List.eq_of_mem_replicate hx;omega,fun _=>⟨_,0,rfl,fun i x hx=>?_⟩⟩
    have hi:i < j:=by have:=(List.getElem?_eq_some_iff.1 hx).1;simpa using this
    rw[Nat.zero_add,HB.out.cell,List.getElem?_append_left (by simpa using hi),List.getElem?_map,hx]
    rfl
   have hlen:Hid (j+m≤((List.replicate j 255).map byt++cs.toList.drop j).length):=by
    have:=hcl.out
    show _≤_
    rw[List.length_append,List.length_map,List.length_replicate,List.length_drop];omega
   have htk:Hid (List.replicate m 255=(List.replicate j 255).take m):=by
    show _=_
    rw[List.take_replicate,Nat.min_eq_left hm1]
   have hwr:IntKind.i64.wrap ((j:Int)+(m:Int))=((j+m:Nat):Int):=by
    rw[IntKind.wrap_i64];omega
   have hnj:¬n=j:=fun h=>by omega
   go_wp2
   go_region_law (with_reducible refine step_copy_blk (o:=⟨some 74,_,_,_,_,_⟩) rfl (.tmp 70) (.tmp 73) rfl (some ⟨w.heap.size,j,none⟩) (n - j) (n - j) ?hd (some ⟨w.heap.size,0,none⟩) j n ?hs w.heap.size j _ HB.out.drew (List.replicate j 255) hsrc.out.drew m HM.out (fun _=>rfl) hlen.out (List.replicate m 255) htk.out ?hh;(case hd=>go_simp);(case hs=>go_simp);intro w3 HB3 HK3)
   go_simp
   go_wp2;go_roundw
   case rel=>
    refine⟨j+m,by omega,by omega,by go_num,?_,HN.out.trans (S':=(·=w.heap.size)) ⟨HK3.out.os,HK3.out.tape,HK3.out.output,HK3.out.size,HK3.out.block⟩ (fun i hi h=>by omega)⟩
    have:=HB3.out
    unfold lay at this;rw[List.take_left' (by simp),List.length_map,List.length_replicate,List.drop_append,List.drop_of_length_le (by simp)] at this;rw[←List.replicate_append_replicate,List.map_append,List.append_assoc];rw[show j+m - (List.map byt (List.replicate j 255)).length=m from by simp] at this;simpa using this
   case measure=>simp[intOf];omega
  ·go_wp2;go_ret
   obtain rfl:j=n:=by omega
   exact⟨w.heap.size,cs.toList.drop j,rfl,HB.out,Nat.le_refl _,HN.out⟩
theorem repeat_high (A:Option Addr) (n:Nat) (w:World) (ha:Bts w A 1 [255]) (h1:8192 < n) (h2:n≤524288):
  Calls Tryz.prog 79 #[.slice A 1 1,.int .i64 n] w (OnesP w n):=by
 obtain⟨cs,hrunM,hle,hmax⟩:=Lib.run_makeNoZero (P:=Tryz.prog) w #[3] 52 5 Tryz.underlying52 n (by omega)
 have hcall:(callFunc 105 #[.int .i64 (n:Int)]).run Tryz.prog w=.ok (.value (.slice (some ⟨w.heap.size,0,none⟩) n cs.size)) ((w.alloc (.cells cs 5)).drewN 2):=by
  rw[run_callFunc_extern Tryz.func105 (by kernel_rfl) (by kernel_rfl) (by kernel_rfl) (e:=Extern.BytealgMakeNoZero.makeNoZero #[3] #[52]) (by kernel_rfl),hrunM]
  rfl
 clear hrunM
 have i1:(n:Int)≤(cs.size:Int):=by omega
 have Ha:=jH ha;clear ha hmax;go_enter Tryz.func79,Tryz.ntmps79
 go_wp2_with (first
  | (go_at_call 104;refine (mul_big n _ (by omega)).mono ?_;rintro e w' ⟨rfl,rfl⟩)
  | (with_reducible refine wpList_copy_blk (o:=⟨some 60,_,_,_,_,_⟩) rfl (.tmp 58) (.tmp 59) rfl (some ⟨w.heap.size,0,none⟩) n n rfl A 1 1 rfl w.heap.size 0 cs.toList ?_ [255] ?_ 1 ?_ (fun _=>rfl) ?_ [255] rfl ?_))
 ·exact (Blk.made w 5 cs).drewN 2
 ·exact (Ha.out.new (kR.alloc _)).drewN 2
 ·exact (Nat.min_eq_left (by omega)).symm
 ·simp;omega
 intro w2 HB HK;clear hcall
 have HB2:Hid (Blk w2 w.heap.size 5 ((List.replicate 1 255).map byt++cs.toList.drop 1)):=by
  have:=HB.out
  unfold lay at this;simpa [Hid] using this
 have HN2:Hid (New w w2):=((kR.alloc _).drewN 2).trans HK.out (fun i hi h=>by omega)
 have hcl:Hid (n≤cs.toList.length):=by simpa [Hid] using hle
 clear HB HK i1 hle Ha;go_wp2
 go_loopw [10] (fun bp wr=>∃j:Nat,1≤j∧j≤n∧bp=.int .i64 j∧Blk wr w.heap.size 5 ((List.replicate j 255).map byt++cs.toList.drop j)∧New w wr) (fun bp _=>n - (intOf bp).toNat)
 case atStart=>exact⟨1,by omega,by omega,rfl,HB2.out,HN2.out⟩
 case round=>
  obtain⟨j,hj1,hj2,rfl,hblk,hnew⟩:=hrel;have HB:=jH hblk;have HN:=jH hnew;clear hblk hnew HB2 HN2
  by_cases hlt:j < n
  ·rcases Nat.lt_or_ge 8192 j with hj8|hj8
   ·obtain⟨q,hq⟩:∃q:Nat,q=8192:=⟨_,rfl⟩;have HQ:=jH hq;clear hq
    have h8n:(8192:Int)≤(n:Int):=by omega
    have h8n2:8192≤n:=by omega
    have h8j:(8192:Int) < (j:Int):=by omega
    have hm:Nat.min 8192 (n - j)≤n - j:=Nat.min_le_right _ _;have hm1:Nat.min 8192 (n - j)≤8192:=Nat.min_le_left _ _;have hm2:1≤Nat.min 8192 (n - j):=Nat.le_min.2 ⟨by omega,by omega⟩;generalize hmm:Nat.min 8192 (n - j)=m at hm hm1 hm2;have HM:=jH hmm.symm;clear hmm
    have hsrc:Hid (Bts wr (some ⟨w.heap.size,0,none⟩) 8192 (List.replicate q 255)):=by
     refine⟨by rw[List.length_replicate];exact HQ.out,fun x hx=>by have:=List.eq_of_mem_replicate hx;omega,fun _=>⟨_,0,rfl,fun i x hx=>?_⟩⟩
     have hi:i < q:=by have:=(List.getElem?_eq_some_iff.1 hx).1;rw[List.length_replicate] at this;exact this
     have hx2:(List.replicate j 255)[i]?=some 255:=by rw[List.getElem?_replicate,if_pos (by have:=HQ.out;omega)]
     have hx3:x=255:=List.eq_of_mem_replicate (List.mem_of_getElem? hx);rw[Nat.zero_add,HB.out.cell,List.getElem?_append_left (by rw[List.length_map,List.length_replicate];have:=HQ.out;omega),List.getElem?_map,hx2,hx3]
     rfl
    have hlen:Hid (j+m≤((List.replicate j 255).map byt++cs.toList.drop j).length):=by
     have:=hcl.out
     show _≤_
     rw[List.length_append,List.length_map,List.length_replicate,List.length_drop];omega
    have htk:Hid (List.replicate m 255=(List.replicate q 255).take m):=by
     show _=_
     rw[List.take_replicate,Nat.min_eq_left (by have:=HQ.out;omega)]
    have hwr:IntKind.i64.wrap ((j:Int)+(m:Int))=((j+m:Nat):Int):=by
     rw[IntKind.wrap_i64];omega
    have hnj:¬n=j:=fun h=>by omega
    go_wp2
    go_region_law (with_reducible refine step_copy_blk (o:=⟨some 74,_,_,_,_,_⟩) rfl (.tmp 70) (.tmp 73) rfl (some ⟨w.heap.size,j,none⟩) (n - j) (n - j) ?hd (some ⟨w.heap.size,0,none⟩) 8192 n ?hs w.heap.size j _ HB.out.drew (List.replicate q 255) hsrc.out.drew m HM.out (fun _=>rfl) hlen.out (List.replicate m 255) htk.out ?hh;(case hd=>go_simp);(case hs=>go_simp);intro w3 HB3 HK3)
    go_simp
    go_wp2;go_roundw
    case rel=>
     refine⟨j+m,by omega,by omega,by go_num,?_,HN.out.trans (S':=(·=w.heap.size)) ⟨HK3.out.os,HK3.out.tape,HK3.out.output,HK3.out.size,HK3.out.block⟩ (fun i hi h=>by omega)⟩
     have:=HB3.out
     unfold lay at this;rw[List.take_left' (by simp),List.length_map,List.length_replicate,List.drop_append,List.drop_of_length_le (by simp)] at this;rw[←List.replicate_append_replicate,List.map_append,List.append_assoc];rw[show j+m - (List.map byt (List.replicate j 255)).length=m from by simp] at this;simpa using this
    case measure=>simp[intOf];omega
   ·have hj9:¬(8192:Int) < (j:Int):=by omega
    have hjn:(j:Int)≤(n:Int):=by omega
    have hm:Nat.min j (n - j)≤n - j:=Nat.min_le_right _ _;have hm1:Nat.min j (n - j)≤j:=Nat.min_le_left _ _;have hm2:1≤Nat.min j (n - j):=Nat.le_min.2 ⟨by omega,by omega⟩;generalize hmm:Nat.min j (n - j)=m at hm hm1 hm2;have HM:=jH hmm.symm;clear hmm
    have hsrc:Hid (Bts wr (some ⟨w.heap.size,0,none⟩) j (List.replicate j 255)):=by
     refine⟨by simp,fun x hx=>by have:=List.eq_of_mem_replicate hx;omega,fun _=>⟨_,0,rfl,fun i x hx=>?_⟩⟩
     have hi:i < j:=by have:=(List.getElem?_eq_some_iff.1 hx).1;rw[List.length_replicate] at this;exact this
     have hx2:(List.replicate j 255)[i]?=some 255:=by rw[List.getElem?_replicate,if_pos (by omega)]
     have hx3:x=255:=List.eq_of_mem_replicate (List.mem_of_getElem? hx);rw[Nat.zero_add,HB.out.cell,List.getElem?_append_left (by rw[List.length_map,List.length_replicate];omega),List.getElem?_map,hx2,hx3]
     rfl
    have hlen:Hid (j+m≤((List.replicate j 255).map byt++cs.toList.drop j).length):=by
     have:=hcl.out
     show _≤_
     rw[List.length_append,List.length_map,List.length_replicate,List.length_drop];omega
    have htk:Hid (List.replicate m 255=(List.replicate j 255).take m):=by
     show _=_
     rw[List.take_replicate,Nat.min_eq_left hm1]
    have hwr:IntKind.i64.wrap ((j:Int)+(m:Int))=((j+m:Nat):Int):=by
     rw[IntKind.wrap_i64];omega
    have hnj:¬n=j:=fun h=>by omega
    go_wp2
    go_region_law (with_reducible refine step_copy_blk (o:=⟨some 74,_,_,_,_,_⟩) rfl (.tmp 70) (.tmp 73) rfl (some ⟨w.heap.size,j,none⟩) (n - j) (n - j) ?hd2 (some ⟨w.heap.size,0,none⟩) j n ?hs2 w.heap.size j _ HB.out.drew (List.replicate j 255) hsrc.out.drew m HM.out (fun _=>rfl) hlen.out (List.replicate m 255) htk.out ?hh2;(case hd2=>go_simp);(case hs2=>go_simp);intro w3 HB3 HK3)
    go_simp
    go_wp2;go_roundw
    case rel=>
     refine⟨j+m,by omega,by omega,by go_num,?_,HN.out.trans (S':=(·=w.heap.size)) ⟨HK3.out.os,HK3.out.tape,HK3.out.output,HK3.out.size,HK3.out.block⟩ (fun i hi h=>by omega)⟩
     have:=HB3.out
     unfold lay at this;rw[List.take_left' (by simp),List.length_map,List.length_replicate,List.drop_append,List.drop_of_length_le (by simp)] at this;rw[←List.replicate_append_replicate,List.map_append,List.append_assoc];rw[show j+m - (List.map byt (List.replicate j 255)).length=m from by simp] at this;simpa using this
    case measure=>simp[intOf];omega
  ·go_wp2;go_ret
   obtain rfl:j=n:=by omega
   exact⟨w.heap.size,cs.toList.drop j,rfl,HB.out,Nat.le_refl _,HN.out⟩
theorem repeat_ones (A:Option Addr) (n:Nat) (w:World) (ha:Bts w A 1 [255]) (h1:2≤n) (h2:n≤524288):
  Calls Tryz.prog 79 #[.slice A 1 1,.int .i64 n] w (OnesP w n):=by
 rcases Nat.lt_or_ge 8192 n with h|h
 ·exact repeat_high A n w ha h h2
 ·exact repeat_low A n w ha h1 h
theorem erased_any (n:Nat) (w:World) (h1:2≤n) (h2:n≤524288):
  Calls Tryz.prog 45 #[.int .i64 n] w (OnesP w n):=by
 have H1:=jH h1;have H2:=jH h2;clear h1 h2;go_enter Tryz.func45,Tryz.ntmps45;go_wp2_with fail;refine (repeat_ones _ n _ (Bts.one w 5 255 _ (by omega) rfl) H1.out H2.out).mono ?_;rintro e w1 ⟨g,junk,rfl,hblk,hg,hkp⟩
 have HG:Hid (w.heap.size≤g):=by have:=hg;simp at this;exact Nat.le_of_lt this
 have K1:Hid (New w w1):=(kR.alloc _).new hkp;have B1:=jH hblk;clear hblk hg hkp;go_wp2;go_ret;exact⟨g,junk,rfl,B1.out,HG.out,K1.out⟩
end
section
set_option maxRecDepth 100000
open Go.ChangeShapes Go.WideShapes Go.ChangeAt Go.RowKit
def RetV2 (w : World) (t : TypeId) (sz n : Nat) (vs : List Value) (e : Ending) (w' : World) : Prop :=
  ∃ A c, e = .returned (.slice A n c) ∧ OwnV w' t sz w.heap.size A n c vs ∧ New w w'
theorem cloneHits_any (A : Option Addr) (n c : Nat) (vs : List Value) (w : World) (ha : RowV w A n 3 vs) (h1 : ∀ u ∈ vs, u.oneCell' = true) (hn : n * 40 ≤ 140737488351232) (hA : A = none → c = 0 ∧ n = 0) :
    Calls Tryz.prog 39 #[.slice A n c] w (RetV2 w 59 3 n vs) := by
  obtain ⟨i0, hi, hz0, hz1, hz2⟩ := info_parts info_hit
  have hq := fun w a n c => Lib.run_eql_slice_nil (P := Tryz.prog) w 60 59 a n c 0 0 Tryz.underlying60
  have H1 := jH h1
  rcases A with _ | a
  · obtain ⟨rfl, rfl⟩ := hA rfl
    obtain rfl : vs = [] := List.eq_nil_of_length_eq_zero (by simpa using ha.1)
    clear hA ha h1
    go_enter Tryz.func39, Tryz.ntmps39
    go_wp2
    go_ret
    exact ⟨none, 0, rfl, OwnV.nil _ _ _ _, kR⟩
  · have Ha := jH ha
    have Hz : Hid (3 = i0.size) := hz1.symm
    clear hA ha h1
    go_enter Tryz.func39, Tryz.ntmps39
    go_wp2_with (at_builtin; refine wpList_append_rowV _ rfl _ _ _ rfl 59 i0 (.agg #[.int .i64 0, .bool false, .slice none 0 0]) Tryz.underlying60 hi hz0 ?_ ?_ w.heap.size (some ⟨w.heap.size, 0, none⟩) 0 0 [] rfl ?_ (some a) n c vs rfl ?_ H1.out ?_ ?_ ?_ ?_)
    · rw [← Hz.out]; rfl
    · rw [← Hz.out]; omega
    · exact ⟨by simp, Nat.le_refl _, by simp, .inr ⟨_, [], rfl, Nat.le_refl _, Blk.made w 59 #[], by simp⟩⟩
    · rw [← Hz.out]; exact Ha.out.new (kR.alloc _)
    · rw [hz2]; omega
    · omega
    · simp
    intro A2 c2 w2 hown hg _
    go_wp2
    go_ret
    exact ⟨A2, c2, by simp, by simpa using hown.out, (kR.alloc _).grown hg.out (by simp; omega)⟩
def MaskAt (Q : Nat → Prop) (w : World) (gc : Nat) (A : Option Addr) (c : Nat) (l : List Nat) : Prop :=
  Bts w A l.length l ∧ l.length ≤ c ∧ c ≤ maxLen ∧ ∀ a, A = some a → Q a.block ∧ a.block ≠ gc ∧ At w a.block 5
def HitsT (Q : Nat → Prop) (w : World) (gc : Nat) (A : Option Addr) (hs : List Hit) : Prop :=
  0 < hs.length → ∃ g o, A = some ⟨g, o, none⟩ ∧ Q g ∧ At w g 59 ∧ ∀ (i : Nat) (h : Hit), hs[i]? = some h →
    w.cell? ⟨g, o + 3 * i, none⟩ = some (.int .i64 (h.after : Nat)) ∧ w.cell? ⟨g, o + 3 * i + 1, none⟩ = some (.bool h.fails) ∧
      ∃ Am cm, w.cell? ⟨g, o + 3 * i + 2, none⟩ = some (.slice Am h.mask.length cm) ∧ MaskAt Q w gc Am cm h.mask
section
variable {Q Q' S : Nat → Prop} {w w' : World} {gc : Nat} {A : Option Addr} {c : Nat} {l : List Nat} {hs : List Hit}
theorem MaskAt.kept (h : MaskAt Q w gc A c l) (hk : Kept S w w') (hn : ∀ b, Q b → b ≠ gc → At w b 5 → ¬ S b) (hq : ∀ b, Q b → b < w.heap.size → Q' b) : MaskAt Q' w' gc A c l := by
  obtain ⟨h1, h2, h3, h4⟩ := h
  have hne : ∀ a, A = some a → ¬ S a.block := fun a ha => hn _ (h4 a ha).1 (h4 a ha).2.1 (h4 a ha).2.2
  exact ⟨h1.kept hk hne, h2, h3, fun a ha => ⟨hq _ (h4 a ha).1 (h4 a ha).2.2.lt, (h4 a ha).2.1, (h4 a ha).2.2.kept hk (hne a ha)⟩⟩
theorem HitsT.kept (h : HitsT Q w gc A hs) (hk : Kept S w w') (h1 : ∀ b, Q b → At w b 59 → ¬ S b) (hn : ∀ b, Q b → b ≠ gc → At w b 5 → ¬ S b) (hq : ∀ b, Q b → b < w.heap.size → Q' b) : HitsT Q' w' gc A hs := by
  intro h0
  obtain ⟨g, o, rfl, hg, ht, hc⟩ := h h0
  have hS := h1 g hg ht
  refine ⟨g, o, rfl, hq g hg ht.lt, ht.kept hk hS, fun i x hx => ?_⟩
  obtain ⟨c1, c2, Am, cm, c3, hm⟩ := hc i x hx
  exact ⟨hk.cell c1 hS, hk.cell c2 hS, Am, cm, hk.cell c3 hS, hm.kept hk hn hq⟩
theorem HitsT.nil (Q : Nat → Prop) (w : World) (gc : Nat) (A : Option Addr) : HitsT Q w gc A [] := fun h => absurd h (by simp)
end
def boolV (b : Bool) : Value := .bool b
structure NRep (Q : Nat → Prop) (w : World) (g gc gb bl bb cc cb : Nat) (Ah : Option Addr) (ch : Nat) (s : CSt) : Prop where
  low : ∀ b, Q b → b < w.heap.size
  ok : s.Ok
  qg : Q g
  qc : Q gc
  qb : Q gb
  ql : Q bl
  qn : Q bb
  chip : Blk w g 56 [.int .i64 (s.nb : Nat), .int .i64 (s.np : Nat), .int .i64 (s.nz : Nat), .int .i64 (s.ns : Nat), .slice (some ⟨gc, 0, none⟩) s.by_.length cc, .slice (some ⟨gb, 0, none⟩) s.bad.length cb,
    .bool s.dead, .int .i64 (s.deeds : Nat), .func (.func 77) #[] #[.pointer (some ⟨bl, 0, none⟩), .pointer (some ⟨bb, 0, none⟩)]]
  cells : ∃ junk, Blk w gc 5 (s.by_.map byt ++ junk)
  ccap : s.by_.length ≤ cc ∧ cc ≤ maxLen
  bads : ∃ junk, Blk w gb 4 (s.bad.map boolV ++ junk)
  bcap : s.bad.length ≤ cb ∧ cb ≤ maxLen
  list : Blk w bl 60 [.slice Ah s.hits.length ch]
  hcap : s.hits.length ≤ ch ∧ ch ≤ maxLen
  cnt : Blk w bb 3 [.int .i64 (s.since : Nat)]
  hits : HitsT Q w gc Ah s.hits
def NChip (Q : Nat → Prop) (w : World) (g : Nat) (s : CSt) : Prop := ∃ gc gb bl bb cc cb Ah ch, NRep Q w g gc gb bl bb cc cb Ah ch s
section
variable {Q Q' S : Nat → Prop} {w w' : World} {g gc gb bl bb cc cb : Nat} {Ah : Option Addr} {ch : Nat} {s : CSt}
theorem NRep.kept (h : NRep Q w g gc gb bl bb cc cb Ah ch s) (hk : Kept S w w') (hn : ∀ b, Q b → ¬ S b) : NRep Q w' g gc gb bl bb cc cb Ah ch s where
  low := fun b hb => Nat.lt_of_lt_of_le (h.low b hb) hk.size
  ok := h.ok
  qg := h.qg
  qc := h.qc
  qb := h.qb
  ql := h.ql
  qn := h.qn
  chip := h.chip.kept hk (hn _ h.qg)
  cells := by obtain ⟨j, hj⟩ := h.cells; exact ⟨j, hj.kept hk (hn _ h.qc)⟩
  ccap := h.ccap
  bads := by obtain ⟨j, hj⟩ := h.bads; exact ⟨j, hj.kept hk (hn _ h.qb)⟩
  bcap := h.bcap
  list := h.list.kept hk (hn _ h.ql)
  hcap := h.hcap
  cnt := h.cnt.kept hk (hn _ h.qn)
  hits := h.hits.kept hk (fun b hb _ => hn b hb) (fun b hb _ _ => hn b hb) (fun _ hb _ => hb)
theorem NRep.new (h : NRep Q w g gc gb bl bb cc cb Ah ch s) (hk : New w w') : NRep Q w' g gc gb bl bb cc cb Ah ch s := h.kept hk fun _ _ f => f
theorem NRep.drewN (h : NRep Q w g gc gb bl bb cc cb Ah ch s) (n : Nat) : NRep Q (w.drewN n) g gc gb bl bb cc cb Ah ch s := h.new (kR.drewN n)
theorem NChip.kept (h : NChip Q w g s) (hk : Kept S w w') (hn : ∀ b, Q b → ¬ S b) : NChip Q w' g s := by
  obtain ⟨gc, gb, bl, bb, cc, cb, Ah, ch, h⟩ := h
  exact ⟨gc, gb, bl, bb, cc, cb, Ah, ch, h.kept hk hn⟩
theorem NChip.new (h : NChip Q w g s) (hk : New w w') : NChip Q w' g s := h.kept hk fun _ _ f => f
theorem NChip.ok (h : NChip Q w g s) : s.Ok := by
  obtain ⟨gc, gb, bl, bb, cc, cb, Ah, ch, h⟩ := h
  exact h.ok
theorem NChip.low (h : NChip Q w g s) : ∀ b, Q b → b < w.heap.size := by
  obtain ⟨gc, gb, bl, bb, cc, cb, Ah, ch, h⟩ := h
  exact h.low
theorem NRep.mono (h : NRep Q w g gc gb bl bb cc cb Ah ch s) (hq : ∀ b, Q b → Q' b) (hl : ∀ b, Q' b → b < w.heap.size) : NRep Q' w g gc gb bl bb cc cb Ah ch s :=
  { h with low := hl, qg := hq _ h.qg, qc := hq _ h.qc, qb := hq _ h.qb, ql := hq _ h.ql, qn := hq _ h.qn, hits := h.hits.kept (Kept.refl (fun _ => False) w) (fun _ _ _ f => f) (fun _ _ _ _ f => f) (fun b hb _ => hq b hb) }
theorem NRep.ne (h : NRep Q w g gc gb bl bb cc cb Ah ch s) : g ≠ gc ∧ g ≠ gb ∧ g ≠ bl ∧ g ≠ bb ∧ gc ≠ gb ∧ gc ≠ bl ∧ gc ≠ bb ∧ gb ≠ bl ∧ gb ≠ bb ∧ bl ≠ bb := by
  obtain ⟨_, hc⟩ := h.cells
  obtain ⟨_, hb⟩ := h.bads
  exact ⟨h.chip.ne_of hc (by decide), h.chip.ne_of hb (by decide), h.chip.ne_of h.list (by decide), h.chip.ne_of h.cnt (by decide), hc.ne_of hb (by decide), hc.ne_of h.list (by decide), hc.ne_of h.cnt (by decide),
    hb.ne_of h.list (by decide), hb.ne_of h.cnt (by decide), h.list.ne_of h.cnt (by decide)⟩
theorem NRep.setChip (h : NRep Q w g gc gb bl bb cc cb Ah ch s) (hk : Kept (· = g) w w') (dead : Bool) (deeds : Nat) (hd : deeds ≤ 4611686018427387904)
    (hb : Blk w' g 56 [.int .i64 (s.nb : Nat), .int .i64 (s.np : Nat), .int .i64 (s.nz : Nat), .int .i64 (s.ns : Nat), .slice (some ⟨gc, 0, none⟩) s.by_.length cc, .slice (some ⟨gb, 0, none⟩) s.bad.length cb,
      .bool dead, .int .i64 (deeds : Nat), .func (.func 77) #[] #[.pointer (some ⟨bl, 0, none⟩), .pointer (some ⟨bb, 0, none⟩)]]) :
    NRep Q w' g gc gb bl bb cc cb Ah ch { s with dead := dead, deeds := deeds } := by
  obtain ⟨n1, n2, n3, n4, _⟩ := h.ne
  exact { low := fun b hb => Nat.lt_of_lt_of_le (h.low b hb) hk.size, ok := { h.ok with deeds := hd }, qg := h.qg, qc := h.qc, qb := h.qb, ql := h.ql, qn := h.qn, chip := hb,
          cells := by obtain ⟨j, hj⟩ := h.cells; exact ⟨j, hj.kept hk (Ne.symm n1)⟩, ccap := h.ccap,
          bads := by obtain ⟨j, hj⟩ := h.bads; exact ⟨j, hj.kept hk (Ne.symm n2)⟩, bcap := h.bcap,
          list := h.list.kept hk (Ne.symm n3), hcap := h.hcap, cnt := h.cnt.kept hk (Ne.symm n4),
          hits := h.hits.kept hk (fun b _ hb => hb.ne_of h.chip.at_ (by decide)) (fun b _ _ hb => hb.ne_of h.chip.at_ (by decide)) (fun _ hb _ => hb) }
theorem NRep.setCells (h : NRep Q w g gc gb bl bb cc cb Ah ch s) (hk : Kept (· = gc) w w') (l : List Nat) (hl : l.length = s.by_.length) (hb : IsBytes l) (junk : List Value) (hblk : Blk w' gc 5 (l.map byt ++ junk)) :
    NRep Q w' g gc gb bl bb cc cb Ah ch { s with by_ := l } := by
  obtain ⟨n1, n2, n3, n4, n5, n6, n7, _⟩ := h.ne
  obtain ⟨_, hc⟩ := h.cells
  exact { low := fun b hb => Nat.lt_of_lt_of_le (h.low b hb) hk.size, ok := { h.ok with len := hl.trans h.ok.len, bytes := hb }, qg := h.qg, qc := h.qc, qb := h.qb, ql := h.ql, qn := h.qn,
          chip := by have := h.chip.kept hk n1; rw [← hl] at this; exact this,
          cells := ⟨junk, hblk⟩, ccap := by show l.length ≤ _ ∧ _; rw [hl]; exact h.ccap,
          bads := by obtain ⟨j, hj⟩ := h.bads; exact ⟨j, hj.kept hk (Ne.symm n5)⟩, bcap := h.bcap,
          list := h.list.kept hk (Ne.symm n6), hcap := h.hcap, cnt := h.cnt.kept hk (Ne.symm n7),
          hits := h.hits.kept hk (fun b _ hb => hb.ne_of hc.at_ (by decide)) (fun b _ hne _ => hne) (fun _ hb _ => hb) }
theorem NRep.setBads (h : NRep Q w g gc gb bl bb cc cb Ah ch s) (hk : Kept (· = gb) w w') (l : List Bool) (hl : l.length = s.bad.length) (junk : List Value) (hblk : Blk w' gb 4 (l.map boolV ++ junk)) :
    NRep Q w' g gc gb bl bb cc cb Ah ch { s with bad := l } := by
  obtain ⟨n1, n2, n3, n4, n5, n6, n7, n8, n9, _⟩ := h.ne
  obtain ⟨_, hb⟩ := h.bads
  exact { low := fun b hb => Nat.lt_of_lt_of_le (h.low b hb) hk.size, ok := { h.ok with badl := hl.trans h.ok.badl }, qg := h.qg, qc := h.qc, qb := h.qb, ql := h.ql, qn := h.qn,
          chip := by have := h.chip.kept hk n2; rw [← hl] at this; exact this,
          cells := by obtain ⟨j, hj⟩ := h.cells; exact ⟨j, hj.kept hk n5⟩, ccap := h.ccap,
          bads := ⟨junk, hblk⟩, bcap := by show l.length ≤ _ ∧ _; rw [hl]; exact h.bcap,
          list := h.list.kept hk (Ne.symm n8), hcap := h.hcap, cnt := h.cnt.kept hk (Ne.symm n9),
          hits := h.hits.kept hk (fun b _ h' => h'.ne_of hb.at_ (by decide)) (fun b _ _ h' => h'.ne_of hb.at_ (by decide)) (fun _ hb _ => hb) }
theorem NRep.setHits (h : NRep Q w g gc gb bl bb cc cb Ah ch s) (hk : Kept (fun b => b = bl ∨ b = bb) w w') (hs : List Hit) (since : Nat) (Ah' : Option Addr) (ch' : Nat) (hcap : hs.length ≤ ch' ∧ ch' ≤ maxLen) (hok : ∀ x ∈ hs, HitOk x) (hsi : since ≤ 9223372036854775807)
    (hl : Blk w' bl 60 [.slice Ah' hs.length ch']) (hc : Blk w' bb 3 [.int .i64 (since : Nat)]) (hh : HitsT Q w gc Ah' hs) :
    NRep Q w' g gc gb bl bb cc cb Ah' ch' { s with hits := hs, since := since } := by
  obtain ⟨n1, n2, n3, n4, n5, n6, n7, n8, n9, _⟩ := h.ne
  have hne : ∀ {b : Nat} {t : TypeId}, At w b t → t ≠ 60 → t ≠ 3 → ¬ (b = bl ∨ b = bb) := fun hb h1 h2 hx => by
    rcases hx with hx | hx
    · exact hb.ne_of h.list.at_ h1 hx
    · exact hb.ne_of h.cnt.at_ h2 hx
  exact { low := fun b hb => Nat.lt_of_lt_of_le (h.low b hb) hk.size, ok := { h.ok with hits := hok, since := hsi }, qg := h.qg, qc := h.qc, qb := h.qb, ql := h.ql, qn := h.qn,
          chip := h.chip.kept hk (hne h.chip.at_ (by decide) (by decide)),
          cells := by obtain ⟨j, hj⟩ := h.cells; exact ⟨j, hj.kept hk (hne hj.at_ (by decide) (by decide))⟩, ccap := h.ccap,
          bads := by obtain ⟨j, hj⟩ := h.bads; exact ⟨j, hj.kept hk (hne hj.at_ (by decide) (by decide))⟩, bcap := h.bcap,
          list := hl, hcap := hcap, cnt := hc,
          hits := hh.kept hk (fun b _ h' => hne h' (by decide) (by decide)) (fun b _ _ h' => hne h' (by decide) (by decide)) (fun _ hb _ => hb) }
end
end
section
set_option maxRecDepth 100000
open Go.ChangeShapes Go.WideShapes Go.ChangeAt Go.RowKit
section
variable {Q:Nat→Prop} {w:World} {g gc gb bl bb cc cb:Nat} {Ah:Option Addr} {ch:Nat} {s:CSt}
theorem NRep.c0 (h:NRep Q w g gc gb bl bb cc cb Ah ch s):w.cell? ⟨g,0,none⟩=some (.int .i64 (s.nb:Nat)):=h.chip.cell 0
theorem NRep.c1 (h:NRep Q w g gc gb bl bb cc cb Ah ch s):w.cell? ⟨g,1,none⟩=some (.int .i64 (s.np:Nat)):=h.chip.cell 1
theorem NRep.c2 (h:NRep Q w g gc gb bl bb cc cb Ah ch s):w.cell? ⟨g,2,none⟩=some (.int .i64 (s.nz:Nat)):=h.chip.cell 2
theorem NRep.c3 (h:NRep Q w g gc gb bl bb cc cb Ah ch s):w.cell? ⟨g,3,none⟩=some (.int .i64 (s.ns:Nat)):=h.chip.cell 3
theorem NRep.c4 (h:NRep Q w g gc gb bl bb cc cb Ah ch s):w.cell? ⟨g,4,none⟩=some (.slice (some ⟨gc,0,none⟩) s.by_.length cc):=h.chip.cell 4
theorem NRep.c5 (h:NRep Q w g gc gb bl bb cc cb Ah ch s):w.cell? ⟨g,5,none⟩=some (.slice (some ⟨gb,0,none⟩) s.bad.length cb):=h.chip.cell 5
theorem NRep.c6 (h:NRep Q w g gc gb bl bb cc cb Ah ch s):w.cell? ⟨g,6,none⟩=some (.bool s.dead):=h.chip.cell 6
theorem NRep.c7 (h:NRep Q w g gc gb bl bb cc cb Ah ch s):w.cell? ⟨g,7,none⟩=some (.int .i64 (s.deeds:Nat)):=h.chip.cell 7
theorem NRep.c8 (h:NRep Q w g gc gb bl bb cc cb Ah ch s):w.cell? ⟨g,8,none⟩=some (.func (.func 77) #[] #[.pointer (some ⟨bl,0,none⟩),.pointer (some ⟨bb,0,none⟩)]):=h.chip.cell 8
end
theorem run_eql_func {P:Program} (w:World) (t:TypeId) {ps rs:Array TypeId} {v:Bool} (f:Fn) (a b:Array Value) (ht:P.underlying t=some (.func ps rs v)):(binOp .eql t (.func f a b) .nilFunc).run P w=.ok (.bool false) w:=by
 have h:∀d:Nat,(Op.equalIn (d+1) t (.func f a b) .nilFunc).run P w=.ok false w:=fun d=>by
  simp[Op.equalIn,run_underlying ht]
 simp only[binOp];simp[Op.equal,Op.maxDepth,h 9999]
theorem run_eql_func_nil {P:Program} (w:World) (t:TypeId) {ps rs:Array TypeId} {v:Bool} (ht:P.underlying t=some (.func ps rs v)):(binOp .eql t .nilFunc .nilFunc).run P w=.ok (.bool true) w:=by
 have h:∀d:Nat,(Op.equalIn (d+1) t .nilFunc .nilFunc).run P w=.ok true w:=fun d=>by
  simp[Op.equalIn,run_underlying ht]
 simp only[binOp];simp[Op.equal,Op.maxDepth,h 9999]
theorem cNone_no (Q:Nat→Prop) (g gc gb bl bb cc cb:Nat) (Ah:Option Addr) (ch:Nat) (s:CSt) (w:World) (h:NRep Q w g gc gb bl bb cc cb Ah ch s):
  Calls Tryz.prog 38 #[.pointer (some ⟨g,0,none⟩)] w fun e w'=>e=.returned (.bool false)∧w=w':=by
 have c8:=h.c8
 have hq:=fun w a b=>run_eql_func (P:=Tryz.prog) w 54 (.func 77) a b Tryz.underlying54
 clear h;go_enter Tryz.func38,Tryz.ntmps38;go_wp2;go_ret;exact⟨rfl,rfl⟩
theorem cNone_nil (w:World):
  Calls Tryz.prog 38 #[.pointer none] w fun e w'=>e=.returned (.bool true)∧w=w':=by
 go_enter Tryz.func38,Tryz.ntmps38;go_wp2;go_ret;exact⟨rfl,rfl⟩
theorem cNone_zero (g:Nat) (w:World) (c8:w.cell? ⟨g,8,none⟩=some Value.nilFunc):
  Calls Tryz.prog 38 #[.pointer (some ⟨g,0,none⟩)] w fun e w'=>e=.returned (.bool true)∧w=w':=by
 have hq:=fun w=>run_eql_func_nil (P:=Tryz.prog) w 54 Tryz.underlying54
 go_enter Tryz.func38,Tryz.ntmps38;go_wp2;go_ret;exact⟨rfl,rfl⟩
end
end Go.Proofs.YtbiihjdjbknibaaGreat
