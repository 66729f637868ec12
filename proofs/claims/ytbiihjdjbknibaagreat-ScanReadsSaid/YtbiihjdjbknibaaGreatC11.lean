/-
  Layer 7: contracts (Ni Nj Nk).
-/
import Derived.Test.YtbiihjdjbknibaaGreatC10
namespace Go.Proofs.YtbiihjdjbknibaaGreat
set_option maxRecDepth 100000
set_option maxHeartbeats 8000000
set_option linter.unusedSimpArgs false
set_option linter.unusedVariables false
section
set_option maxRecDepth 100000
open Go.ChangeShapes Go.WideShapes Go.ChangeAt Go.RowKit
theorem lay_take_zero (cur M:List Nat) (off:Nat) (_h:off≤cur.length):lay cur off (M.take 0)=cur:=by
 simp[lay]
theorem lay_take_step (cur M:List Nat) (off k x:Nat) (hx:M[k]?=some x) (hf:off+M.length≤cur.length):(lay cur off (M.take k)).set (off+k) x=lay cur off (M.take (k+1)):=by
 have hk:k < M.length:=(List.getElem?_eq_some_iff.1 hx).1;have e:M[k]=x:=(List.getElem?_eq_some_iff.1 hx).2
 have hl:(M.take k).length=k:=by simp;omega
 have hl2:(M.take (k+1)).length=k+1:=by simp;omega
 unfold lay;rw[hl,hl2,List.take_succ_eq_append_getElem hk,e]
 have hc:off+k < cur.length:=by omega
 rw[List.set_append_right _ _ (by simp;omega),List.set_append_right _ _ (by simp;omega)]
 have e1:off+k - (cur.take off).length - (M.take k).length=0:=by simp;omega
 rw[e1,List.drop_eq_getElem_cons hc];simp[Nat.add_assoc]
theorem lay_take_get (cur M:List Nat) (off k:Nat) (hk:k < M.length) (hf:off+M.length≤cur.length):(lay cur off (M.take k))[off+k]?=cur[off+k]?:=by
 have hl:(M.take k).length=k:=by simp;omega
 unfold lay;rw[List.getElem?_append_right (by simp;omega),List.getElem?_append_right (by simp;omega),hl,List.getElem?_drop]
 have e1:off+k+(off+k - (cur.take off).length - k)=off+k:=by simp;omega
 rw[e1]
def LaidM (w:World) (gc off:Nat) (cur:List Nat) (junk:List Value) (M:List Nat) (e:Ending) (w':World):Prop:=
 e=.returned (.tuple #[])∧Blk w' gc 5 ((lay cur off M).map byt++junk)∧Kept (·=gc) w w'
theorem changeMasked_any (gc off n c:Nat) (cur:List Nat) (junk:List Value) (G:Option Addr) (c2:Nat) (gl:List Nat) (A:Option Addr) (m c3:Nat) (ml:List Nat) (w:World)
  (hb:Blk w gc 5 (cur.map byt++junk)) (hcur:IsBytes cur) (hf:off+n≤cur.length) (hn:n≤9223372036854775806) (hg:Bts w G n gl) (hg1:∀a,G=some a→a.block≠gc)
  (hm:Bts w A m ml) (hm1:∀a,A=some a→a.block≠gc) (hm2:m≤9223372036854775807):
  Calls Tryz.prog 78 #[.slice (some ⟨gc,off,none⟩) n c,.slice G n c2,.slice A m c3] w (LaidM w gc off cur junk (mixF (maskF ml) ((cur.drop off).take n) gl)):=by
 by_cases h0:m=0
 ·subst h0;obtain rfl:ml=[]:=List.eq_nil_of_length_eq_zero hm.1
  have e:lay cur off (mixF (maskF []) ((cur.drop off).take n) gl)=cur:=by
   rw[mixF_none _ _ (fun x hx=>hcur x (List.mem_of_mem_drop (List.mem_of_mem_take hx)))];unfold lay
   have hl:((cur.drop off).take n).length=n:=by simp;omega
   rw[hl,←List.drop_drop,List.take_append_drop,List.take_append_drop]
  have HB:Hid (Blk w gc 5 ((lay cur off (mixF (maskF []) ((cur.drop off).take n) gl)).map byt++junk)):=by rw[e];exact hb
  generalize mixF (maskF []) ((cur.drop off).take n) gl=R at *;clear hb hg hm e hcur hg1 hm1;go_enter Tryz.func78,Tryz.ntmps78;go_wp2;refine bodyPost_ret (results_none rfl _ _ _) rfl ?_;exact⟨rfl,HB.out,kR⟩
 ·obtain⟨M,hM⟩:∃M,M=mixF (maskF ml) ((cur.drop off).take n) gl:=⟨_,rfl⟩;rw[←hM]
  have hMl:M.length=n:=by rw[hM,mixF_length];simp;omega
  have hMg:∀k x y,k < n→cur[off+k]?=some x→gl[k]?=some y→M[k]?=some (mixB x y (ml.getD (k % m) 0)):=by
   intro k x y hk hx hy;rw[hM,mixF_get _ _ _ _ (by simp;omega)]
   have e1:((cur.drop off).take n).getD k 0=x:=by
    rw[List.getD_eq_getElem?_getD,List.getElem?_take,if_pos hk,List.getElem?_drop,hx];rfl
   have e2:gl.getD k 0=y:=by rw[List.getD_eq_getElem?_getD,hy];rfl
   rw[e1,e2];unfold maskF;rw[hm.1]
  have HMl:=jH hMl;have HMg:=jH hMg
  have HB0:Hid (Blk w gc 5 ((lay cur off (M.take 0)).map byt++junk)):=by rw[lay_take_zero _ _ _ (by omega)];exact hb
  have HC:=jH hcur;have HF:=jH hf;have HG:=jH hg;have HG1:=jH hg1;have HM:=jH hm;have HM1:=jH hm1;have hm0:(m == 0)=false:=beq_eq_false_iff_ne.2 h0;have hm0':((m:Int) == 0)=false:=beq_eq_false_iff_ne.2 (by omega)
  have hmp:0 < m:=by omega
  have hmi:¬(m:Int)=0:=by omega
  clear hb hcur hf hg hg1 hm hm1 hM hMl hMg;go_enter Tryz.func78,Tryz.ntmps78;go_wp2
  go_loopw [13] (fun i wr=>∃k:Nat,k≤n∧i=.int .i64 k∧Hid (Blk wr gc 5 ((lay cur off (M.take k)).map byt++junk))∧Hid (Kept (·=gc) w wr)) (fun i _=>n - (intOf i).toNat)
  case atStart=>exact⟨0,Nat.zero_le _,rfl,HB0,kR⟩
  case round=>
   obtain⟨k,hk,rfl,VB,VK⟩:=hrel;clear HB0
   by_cases hlt:k < n
   ·have hfl:off+k < cur.length:=by have:=HF.out;omega
    obtain⟨x,hx⟩:∃x,cur[off+k]?=some x:=⟨_,List.getElem?_eq_getElem hfl⟩;have hxb:x < 256:=HC.out x (List.mem_of_getElem? hx);have hlayl:(lay cur off (M.take k)).length=cur.length:=lay_length _ _ _ (by simp;have:=HF.out;omega);have HLL:=jH hlayl
    have hcell:wr.cell? ⟨gc,off+k,none⟩=some (.int .u8 (x:Int)):=by
     rw[VB.out.cell,List.getElem?_append_left (by rw[List.length_map,HLL.out];exact hfl),List.getElem?_map,lay_take_get _ _ _ _ (by rw[HMl.out];exact hlt) (by rw[HMl.out];exact HF.out),hx]
     rfl
    have hfree:=VB.out.free (off+k);obtain⟨r,hr⟩:∃r,r=k % m:=⟨_,rfl⟩
    have hml:r < m:=by rw[hr];exact Nat.mod_lt _ hmp
    have HMk:=HM.out.kept VK.out HM1.out;have HGk:=HG.out.kept VK.out HG1.out;obtain⟨g3,o3,z,eA,hz,hzb,hc3⟩:=HMk.at_ (k:=r) hml;obtain⟨g4,o4,y,eG,hy,hyb,hc4⟩:=HGk.at_ (k:=k) hlt;have EA:=jH eA;have EG:=jH eG
    have hmod:((k:Int) % (m:Int))=(r:Int):=by rw[hr];omega
    have HR:=jH hr;have HX:=jH hx;have HY:=jH hy;have HZ:=jH hz;have v1:=u8_andNot_nat x z hxb hzb;have v2:=u8_and_nat y z hyb hzb;have b1:x &&& (255 - z) < 256:=Nat.and_lt_two_pow (n:=8) _ (by omega);have b2:y &&& z < 256:=Nat.lt_of_le_of_lt Nat.and_le_left hyb;have v3:=u8_or_nat _ _ b1 b2;have hMk:=HMg.out k x y hlt HX.out HY.out
    have hzd:ml.getD (k % m) 0=z:=by rw[←HR.out,List.getD_eq_getElem?_getD,HZ.out];rfl
    rw[hzd] at hMk;unfold mixB at hMk;have HMK:=jH hMk;generalize x &&& (255 - z)=p1 at *;generalize y &&& z=p2 at *
    generalize p1 ||| p2=p3 at *
    clear hr hx hy hz hlayl hMk hzd HMk HGk;subst eA eG;go_wp2
    go_region
    all_goals go_wp2
    all_goals go_roundw
    case rel=>
     refine⟨k+1,by omega,by go_num,?_,((VK.out.setCell (p:=⟨gc,off+k,none⟩) (fun _=>rfl) _).drew)⟩;have hb1:=(VB.out.put (off+k) (.int .u8 (p3:Int))).drew;rw[List.set_append_left _ _ (by rw[List.length_map,HLL.out];exact hfl),set_any _ (off+k) p3 (.int .u8 (p3:Int)) rfl,lay_take_step _ _ _ _ _ HMK.out (by rw[HMl.out];exact HF.out)] at hb1;exact hb1
    case measure=>simp[intOf];omega
   ·obtain rfl:k=n:=by omega
    have HE:Hid (Blk wr gc 5 ((lay cur off M).map byt++junk)):=by
     have:=VB.out
     rw[List.take_of_length_le (by rw[HMl.out];exact Nat.le_refl _)] at this;exact this
    go_wp2
    go_end0
    exact⟨rfl,HE.out,VK.out⟩
end
section
set_option maxRecDepth 100000
open Go.ChangeShapes Go.WideShapes Go.ChangeAt Go.RowKit
def DeedP (Q:Nat→Prop) (w:World) (g:Nat) (s':CSt) (er:Int) (e:Ending) (w':World):Prop:=
 e=.returned (.int .i64 er)∧NChip Q w' g s'∧Kept Q w w'
theorem deed1 {Q:Nat→Prop} {w:World} {g gc gb bl bb cc cb:Nat} {Ah:Option Addr} {ch:Nat} {s:CSt} (h:NRep Q w g gc gb bl bb cc cb Ah ch s) (hd:s.deeds < 4611686018427387904):
  NRep Q (w.setCell ⟨g,7,none⟩ (.int .i64 ((s.deeds:Int)+1))) g gc gb bl bb cc cb Ah ch { s with deeds:=s.deeds+1 }:=by
 have hb:=h.chip.put 7 (.int .i64 ((s.deeds:Int)+1));have hk:Kept (·=g) w (w.setCell ⟨g,7,none⟩ (.int .i64 ((s.deeds:Int)+1))):=Kept.set1 w g 7 _
 have:=h.setChip hk s.dead (s.deeds+1) (by omega) (by simpa using hb)
 exact this
theorem NRep.laid {Q:Nat→Prop} {w w':World} {g gc gb bl bb cc cb:Nat} {Ah:Option Addr} {ch:Nat} {s:CSt} (h:NRep Q w g gc gb bl bb cc cb Ah ch s) (hk:Kept (·=gc) w w') (off:Nat) (M:List Nat) (hM:IsBytes M) (hf:off+M.length≤s.by_.length) (junk:List Value)
  (hb:Blk w' gc 5 ((lay s.by_ off M).map byt++junk)):NRep Q w' g gc gb bl bb cc cb Ah ch { s with by_:=lay s.by_ off M }:=
 h.setCells hk (lay s.by_ off M) (lay_length _ _ _ hf) (lay_bytes _ _ _ h.ok.bytes hM) junk hb
def AskP (Q:Nat→Prop) (w:World) (g gc gb bl bb cc cb:Nat) (s2:CSt) (w':World):Prop:=(∃Ah ch,NRep Q w' g gc gb bl bb cc cb Ah ch s2)∧Kept Q w w'
theorem deed_unstruck (Q:Nat→Prop) (g gc gb bl bb cc cb:Nat) (Ah:Option Addr) (ch:Nat) (s s2:CSt) (b off n:Nat) (G:Option Addr) (c2:Nat) (gl:List Nat) (w:World) (h:NRep Q w g gc gb bl bb cc cb Ah ch s) (hd:s.deeds < 4611686018427387904)
  (hg:Bts w G n gl) (hg1:∀a,G=some a→¬Q a.block) (hf:off+n≤s.by_.length) (_hn:n≤524288) (hby:s2.by_=s.by_)
  (hc:∀w1,NRep Q w1 g gc gb bl bb cc cb Ah ch { s with deeds:=s.deeds+1 }→Calls Tryz.prog 77 #[.pointer (some ⟨bl,0,none⟩),.pointer (some ⟨bb,0,none⟩)] w1
   fun e w2=>e=.returned (.tuple #[.agg #[.int .i64 0,.bool false,.slice none 0 0],.bool false])∧AskP Q w1 g gc gb bl bb cc cb s2 w2):
  Calls Tryz.prog 44 #[.pointer (some ⟨g,0,none⟩),.int .i64 b,.slice (some ⟨gc,off,none⟩) n n,.slice G n c2] w (DeedP Q w g { s2 with by_:=lay s2.by_ off gl } 0):=by
 have c7:=h.c7;have c8:=h.c8;have f7:=h.chip.free 7;have h1:=deed1 h hd;have hQg:=h.qg;have hQc:=h.qc;have hlt:=h.chip.lt
 have hdi:(s.deeds:Int) < 4611686018427387904:=by omega
 have k1:Kept Q w (w.setCell ⟨g,7,none⟩ (.int .i64 ((s.deeds:Int)+1))):=kR.setCell (p:=⟨g,7,none⟩) (fun _=>hQg) _;have H1:=jH h1;have HG:=jH hg;have HG1:=jH hg1;have HF:=jH hf
 have HBy:=jH hby
 have HC:=jH hc;have K1:=jH k1;have HQ:=jH hQg;have HQC:=jH hQc;clear h hg hg1 hf hby hc h1 k1 hd hQg hQc;go_enter Tryz.func44,Tryz.ntmps44;go_wp2_with fail;refine (HC.out _ H1.out).mono ?_;rintro e w2 ⟨rfl,⟨Ah2,ch2,h2⟩,k2⟩;have H2:=jH h2
 have K2:Hid (Kept Q w w2):=K1.out.trans k2 fun _ _ x=>x
 clear h2 k2 H1 K1 c7 c8 f7 HC;have K3:Hid (Kept Q w (w2.alloc (.cells #[.int .i64 0,.bool false,.slice none 0 0] 59))):=K2.out.alloc _;have H3:Hid (NRep Q (w2.alloc (.cells #[.int .i64 0,.bool false,.slice none 0 0] 59)) g gc gb bl bb cc cb Ah2 ch2 s2):=H2.out.new (kR.alloc _);have G3:Hid (Bts (w2.alloc (.cells #[.int .i64 0,.bool false,.slice none 0 0] 59)) G n gl):=HG.out.kept K3.out HG1.out;obtain⟨junk,hj⟩:=H3.out.cells;have HJ:=jH hj;clear hj
 go_wp2_with (with_reducible refine wpList_copy_blk (o:=⟨some 30,_,_,_,_,_⟩) rfl (.tmp 28) (.tmp 29) rfl (some ⟨gc,off,none⟩) n n rfl G n c2 rfl gc off _ HJ.out gl G3.out n ?_ (fun _=>rfl) ?_ gl ?_ ?_)
 ·exact (Nat.min_self n).symm
 ·rw[List.length_append,List.length_map,HBy.out];have:=HF.out;omega
 ·rw[List.take_of_length_le (by rw[HG.out.1];exact Nat.le_refl _)]
 intro w4 HB HK
 have HL:Hid (off+gl.length≤s2.by_.length):=by rw[HBy.out,HG.out.1];exact HF
 have HB2:Hid (Blk w4 gc 5 ((lay s2.by_ off gl).map byt++junk)):=by rw[←lay_map _ _ _ _ HL.out];exact HB
 have H4:Hid (NChip Q w4 g { s2 with by_:=lay s2.by_ off gl }):=⟨_,_,_,_,_,_,_,_,H3.out.laid HK.out off gl HG.out.2.1 HL.out junk HB2.out⟩
 have K4:Hid (Kept Q w w4):=K3.out.trans (S':=(·=gc)) HK.out fun i _ h=>by rw[h];exact HQC.out
 clear HB HK HB2 HJ G3 K3 H3 K2 H2;go_wp2;go_ret;exact⟨rfl,H4.out,K4.out⟩
def AskS (Q:Nat→Prop) (w:World) (g gc gb bl bb cc cb:Nat) (s2:CSt) (Am:Option Addr) (cm:Nat) (ml:List Nat) (w':World):Prop:=(∃Ah ch,NRep Q w' g gc gb bl bb cc cb Ah ch s2)∧Kept Q w w'∧MaskAt Q w' gc Am cm ml
def hitE (fails:Bool):Int:=if fails=true then 9 else 10
def hitS (s2:CSt) (b off:Nat) (gl:List Nat) (fails:Bool) (ml:List Nat):CSt:=
 { s2 with by_:=lay s2.by_ off (mixF (maskF ml) ((s2.by_.drop off).take gl.length) gl),bad:=if fails=true then s2.bad.set b true else s2.bad,dead:=!fails }
theorem deed_struck (Q:Nat→Prop) (g gc gb bl bb cc cb:Nat) (Ah:Option Addr) (ch:Nat) (s s2:CSt) (b off n:Nat) (G:Option Addr) (c2:Nat) (gl:List Nat) (after:Nat) (fails:Bool) (m:Nat) (ml:List Nat) (w:World) (h:NRep Q w g gc gb bl bb cc cb Ah ch s) (hd:s.deeds < 4611686018427387904)
  (hg:Bts w G n gl) (hg1:∀a,G=some a→¬Q a.block) (hf:off+n≤s.by_.length) (_hn:n≤524288) (hby:s2.by_=s.by_) (hb:b < s2.nb) (hm:m=ml.length) (hdd:s2.dead=false)
  (hc:∀w1,NRep Q w1 g gc gb bl bb cc cb Ah ch { s with deeds:=s.deeds+1 }→Calls Tryz.prog 77 #[.pointer (some ⟨bl,0,none⟩),.pointer (some ⟨bb,0,none⟩)] w1
   fun e w2=>∃Am cm,e=.returned (.tuple #[.agg #[.int .i64 after,.bool fails,.slice Am m cm],.bool true])∧AskS Q w1 g gc gb bl bb cc cb s2 Am cm ml w2):
  Calls Tryz.prog 44 #[.pointer (some ⟨g,0,none⟩),.int .i64 b,.slice (some ⟨gc,off,none⟩) n n,.slice G n c2] w (DeedP Q w g (hitS s2 b off gl fails ml) (hitE fails)):=by
 have c7:=h.c7;have c8:=h.c8;have f7:=h.chip.free 7;have h1:=deed1 h hd;have hQg:=h.qg;have hQc:=h.qc;have hQb:=h.qb;have hlt:=h.chip.lt
 have hdi:(s.deeds:Int) < 4611686018427387904:=by omega
 have k1:Kept Q w (w.setCell ⟨g,7,none⟩ (.int .i64 ((s.deeds:Int)+1))):=kR.setCell (p:=⟨g,7,none⟩) (fun _=>hQg) _;have H1:=jH h1;have HG:=jH hg;have HG1:=jH hg1;have HF:=jH hf
 have HBy:=jH hby
 have HC:=jH hc;have K1:=jH k1;have HQ:=jH hQg;have HQC:=jH hQc;have HQB:=jH hQb;have Hm:=jH hm;have Hb:=jH hb;have HDD:=jH hdd;clear h hg hg1 hf hby hc h1 k1 hd hQg hQc hQb hm hdd hb;go_enter Tryz.func44,Tryz.ntmps44;go_wp2_with fail;refine (HC.out _ H1.out).mono ?_;rintro e w2 ⟨Am,cm,rfl,⟨Ah2,ch2,h2⟩,k2,m2⟩;have H2:=jH h2;have M2:=jH m2
 have K2:Hid (Kept Q w w2):=K1.out.trans k2 fun _ _ x=>x
 clear h2 k2 m2 H1 K1 c7 c8 f7 HC;have kal:New w2 (w2.alloc (.cells #[.int .i64 after,.bool fails,.slice Am m cm] 59)):=kR.alloc _;have K3:Hid (Kept Q w (w2.alloc (.cells #[.int .i64 after,.bool fails,.slice Am m cm] 59))):=K2.out.alloc _;have H3:Hid (NRep Q (w2.alloc (.cells #[.int .i64 after,.bool fails,.slice Am m cm] 59)) g gc gb bl bb cc cb Ah2 ch2 s2):=H2.out.new kal;have M3:Hid (MaskAt Q (w2.alloc (.cells #[.int .i64 after,.bool fails,.slice Am m cm] 59)) gc Am cm ml):=M2.out.kept kal (fun _ _ _ _ f=>f) (fun _ h _=>h);have G3:Hid (Bts (w2.alloc (.cells #[.int .i64 after,.bool fails,.slice Am m cm] 59)) G n gl):=HG.out.kept K3.out HG1.out
 have B3:Hid (Blk (w2.alloc (.cells #[.int .i64 after,.bool fails,.slice Am m cm] 59)) w2.heap.size 59 [.int .i64 after,.bool fails,.slice Am m cm]):=Blk.made _ _ _;obtain⟨junk,hj⟩:=H3.out.cells;have HJ:=jH hj;clear hj kal
 have hcap:m≤9223372036854775807:=by
  have h1:=M3.out.2.1;have h2:=M3.out.2.2.1;unfold maxLen at h2;have h3:=Hm.out;omega
 go_wp2_with fail;refine (changeMasked_any gc off n n s2.by_ junk G c2 gl Am m cm ml _ HJ.out H3.out.ok.bytes (by rw[HBy.out];exact HF.out) (by omega) G3.out (fun a ha e=>HG1.out a ha (by rw[e];exact HQC.out)) (by have:=M3.out.1;rw[←Hm.out] at this;exact this) (fun a ha=>(M3.out.2.2.2 a ha).2.1) hcap).mono ?_;rintro e w4 ⟨rfl,hB,hK⟩
 have HL:Hid (off+(mixF (maskF ml) ((s2.by_.drop off).take n) gl).length≤s2.by_.length):=by
  show _≤_
  rw[mixF_length,HBy.out]
  have:=HF.out
  simp;omega
 have HBm:Hid (IsBytes (mixF (maskF ml) ((s2.by_.drop off).take n) gl)):=mixF_bytes _ _ _ HG.out.2.1;have H4:Hid (NRep Q w4 g gc gb bl bb cc cb Ah2 ch2 { s2 with by_:=lay s2.by_ off (mixF (maskF ml) ((s2.by_.drop off).take n) gl) }):=H3.out.laid hK off _ HBm.out HL.out junk hB
 have K4:Hid (Kept Q w w4):=K3.out.trans (S':=(·=gc)) hK fun i _ h=>by rw[h];exact HQC.out
 have hne:¬w2.heap.size=gc:=by have:=H2.out.low gc HQC.out;omega
 have c1:w4.cell? ⟨w2.heap.size,1,none⟩=some (.bool fails):=hK.cell (B3.out.cell 1) hne;have HGl:=jH HG.out.1;clear hB hK HJ G3 M3 B3 K3 H3 K2 M2 H2 hcap;have c5:=H4.out.c5;have c6:=H4.out.c6;have hlg:=H4.out.chip.lt;have f6:=H4.out.chip.free 6
 have hbi:(b:Int) < ((s2.nb:Nat):Int):=by have:=Hb.out;omega
 have hbl:=H4.out.ok.badl;simp only at hbl c5 c6;rw[hbl] at c5;rw[HDD.out] at c6;obtain⟨jb,hjb⟩:=H4.out.bads;simp only at hjb;have hcb:w4.cell? ⟨gb,b,none⟩=some (.bool (badAt s2 b)):=badAt_cell H4.out b Hb.out;have hfb:=hjb.free b;have HJB:=jH hjb;have HBL:=jH hbl;clear hjb hbl;cases fails
 ·have H5:Hid (NRep Q (w4.setCell ⟨g,6,none⟩ (.bool true)) g gc gb bl bb cc cb Ah2 ch2 (hitS s2 b off gl false ml)):=by
   have hb:=H4.out.chip.put 6 (.bool true);have hk:Kept (·=g) w4 (w4.setCell ⟨g,6,none⟩ (.bool true)):=Kept.set1 w4 g 6 _
   have:=H4.out.setChip hk true s2.deeds H4.out.ok.deeds (by simpa using hb)
   unfold hitS;rw[HGl.out];exact this
  have K5:Hid (Kept Q w (w4.setCell ⟨g,6,none⟩ (.bool true))):=K4.out.setCell (p:=⟨g,6,none⟩) (fun _=>HQ.out) _;go_wp2;go_ret;exact⟨rfl,⟨_,_,_,_,_,_,_,_,H5.out⟩,K5.out⟩
 ·have H5:Hid (NRep Q (w4.setCell ⟨gb,b,none⟩ (.bool true)) g gc gb bl bb cc cb Ah2 ch2 (hitS s2 b off gl true ml)):=by
   have hb:=HJB.out.put b (.bool true);have hk:Kept (·=gb) w4 (w4.setCell ⟨gb,b,none⟩ (.bool true)):=Kept.set1 w4 gb b _
   have:=H4.out.setBads hk (s2.bad.set b true) (by simp) jb (by
    rw[List.set_append_left _ _ (by rw[List.length_map,HBL.out];exact Hb.out)] at hb;rw[List.map_set]
    exact hb)
   unfold hitS;rw[HGl.out];simp only[if_true,Bool.not_true];rw[←HDD.out];exact this
  have K5:Hid (Kept Q w (w4.setCell ⟨gb,b,none⟩ (.bool true))):=K4.out.setCell (p:=⟨gb,b,none⟩) (fun _=>HQB.out) _;go_wp2;go_ret;exact⟨rfl,⟨_,_,_,_,_,_,_,_,H5.out⟩,K5.out⟩
theorem deed_any (Q:Nat→Prop) (g gc gb bl bb cc cb:Nat) (Ah:Option Addr) (ch:Nat) (s:CSt) (b off n:Nat) (G:Option Addr) (c2:Nat) (gl:List Nat) (w:World) (h:NRep Q w g gc gb bl bb cc cb Ah ch s) (hd:s.deeds < 4611686018427387904)
  (hg:Bts w G n gl) (hg1:∀a,G=some a→¬Q a.block) (hf:off+n≤s.by_.length) (hn:n≤524288) (hb:b < s.nb) (hal:s.dead=false):
  Calls Tryz.prog 44 #[.pointer (some ⟨g,0,none⟩),.int .i64 b,.slice (some ⟨gc,off,none⟩) n n,.slice G n c2] w (DeedP Q w g (deedS s b off gl) (deedE s)):=by
 cases hh:s.hits with
 | nil=>
  have e1:deedE s=0:=by unfold deedE;rw[hh]
  have e2:deedS s b off gl={ { s with deeds:=s.deeds+1 } with by_:=lay s.by_ off gl }:=by unfold deedS;rw[hh]
  rw[e1,e2]
  refine deed_unstruck Q g gc gb bl bb cc cb Ah ch s { s with deeds:=s.deeds+1 } b off n G c2 gl w h hd hg hg1 hf hn rfl fun w1 h1=>?_
  have hl:=h1.list;simp only[hh] at hl;refine (struck_none bl bb _ _ _ hl).mono ?_;rintro e w2 ⟨rfl,hk⟩;exact⟨rfl,⟨_,_,h1.new hk⟩,hk.mono fun _ _ f=>f.elim⟩
 | cons x t=>
  have hx:=h.ok.hits x (by rw[hh];simp)
  have h0:0 < s.hits.length:=by rw[hh];simp
  by_cases hlt:s.since < x.after
  ·have e1:deedE s=0:=by unfold deedE;rw[hh];simp[hlt]
   have e2:deedS s b off gl={ { s with deeds:=s.deeds+1,since:=s.since+1 } with by_:=lay s.by_ off gl }:=by unfold deedS;rw[hh];simp[hlt]
   rw[e1,e2]
   refine deed_unstruck Q g gc gb bl bb cc cb Ah ch s { s with deeds:=s.deeds+1,since:=s.since+1 } b off n G c2 gl w h hd hg hg1 hf hn rfl fun w1 h1=>?_
   obtain⟨gh,oh,rfl,hq,ht,hc⟩:=h1.hits h0;obtain⟨c1,_⟩:=hc 0 x (by show s.hits[0]?=_;rw[hh];rfl);refine (struck_not bl bb gh oh _ _ _ _ _ h1.list h0 h1.cnt c1 hlt hx.after).mono ?_;rintro e w2 ⟨rfl,hb2,hk⟩
   have hk':Kept (fun k=>k=bl∨k=bb) w1 w2:=hk.mono fun _ _ h=>.inr h
   have hne:=h1.ne;exact⟨rfl,⟨_,_,h1.setHits hk' s.hits (s.since+1) _ _ h1.hcap h1.ok.hits (by have:=hx.after;omega) (h1.list.kept hk hne.2.2.2.2.2.2.2.2.2) hb2 h1.hits⟩,hk.mono fun k _ h=>by rw[h];exact h1.qn⟩
  ·have e1:deedE s=hitE x.fails:=by unfold deedE hitE;rw[hh];simp[hlt]
   have e2:deedS s b off gl=hitS { s with deeds:=s.deeds+1,hits:=t,since:=0 } b off gl x.fails x.mask:=by unfold deedS hitS;rw[hh];simp[hlt]
   rw[e1,e2]
   refine deed_struck Q g gc gb bl bb cc cb Ah ch s { s with deeds:=s.deeds+1,hits:=t,since:=0 } b off n G c2 gl x.after x.fails x.mask.length x.mask w h hd hg hg1 hf hn rfl hb rfl hal fun w1 h1=>?_
   obtain⟨gh,oh,rfl,hq,ht,hc⟩:=h1.hits h0;obtain⟨c1,c2',Am,cm,c3,hm⟩:=hc 0 x (by show s.hits[0]?=_;rw[hh];rfl);have hcp:=h1.hcap;refine (struck_yes bl bb gh oh s.hits.length ch s.since x.after x.fails Am x.mask.length cm w1 h1.list h0 hcp.1 hcp.2 h1.cnt c1 c2' c3 hlt).mono ?_;rintro e w2 ⟨rfl,⟨A',hA,hA2⟩,hb2,hk⟩
   have hlen:s.hits.length - 1=t.length:=by rw[hh];simp
   have hlen1:s.hits.length=t.length+1:=by rw[hh];simp
   have hT:HitsT Q w1 gc A' t:=by
    intro ht0;refine⟨gh,oh+3,hA2 (by omega),hq,ht,fun i y hy=>?_⟩
    have:=hc (i+1) y (by show s.hits[i+1]?=_;rw[hh];simpa using hy)
    rw[show oh+3*(i+1)=oh+3+3*i from by omega] at this;exact this
   have hcp1:s.hits.length≤ch∧ch≤maxLen:=hcp;rw[hlen] at hA;have hne:=h1.ne;refine⟨Am,cm,rfl,⟨_,_,h1.setHits hk t 0 A' (ch - 1) (by omega) (fun z hz=>h1.ok.hits z (by show z∈s.hits;rw[hh];exact List.mem_cons_of_mem _ hz)) (by omega) hA hb2 hT⟩,hk.mono (fun k _ h=>?_),?_⟩
   ·rcases h with h|h
    ·rw[h];exact h1.ql
    ·rw[h];exact h1.qn
   ·refine hm.kept hk (fun b hb1 hb2 hb3 hx=>?_) (fun _ h _=>h)
    rcases hx with hx|hx
    ·exact hb3.ne_of h1.list.at_ (by decide) hx
    ·exact hb3.ne_of h1.cnt.at_ (by decide) hx
end
section
set_option maxRecDepth 100000
open Go.ChangeShapes Go.WideShapes Go.ChangeAt Go.RowKit
theorem DeedP.stay {Q:Nat→Prop} {w w':World} {g:Nat} {s:CSt} (h:NChip Q w g s) (hk:New w w') (er:Int):DeedP Q w g s er (.returned (.int .i64 er)) w':=
 ⟨rfl,h.new hk,hk.mono fun _ _ f=>f.elim⟩
theorem nProg_any (Q:Nat→Prop) (g:Nat) (s:CSt) (b p:Int) (n:Nat) (G:Option Addr) (c2:Nat) (gl:List Nat) (w:World) (h:NChip Q w g s) (hd:s.deeds < 4611686018427387904)
  (hg:Bts w G n gl) (hg1:∀a,G=some a→¬Q a.block):
  Calls Tryz.prog 27 #[.pointer (some ⟨g,0,none⟩),.int .i64 b,.int .i64 p,.slice G n c2] w (DeedP Q w g (progS s b p gl) (progE s b p gl)):=by
 have hstay:=fun (w':World) (hk:New w w') (er:Int)=>DeedP.stay h hk er
 obtain⟨gc,gb,bl,bb,cc,cb,Ah,ch,h⟩:=h;have hlen:=hg.1;have H:=jH h;have HS:=jH hstay
 by_cases hr:refE s b p=0
 ·obtain⟨hdd,ht⟩:=refE_ok hr;have HT:=jH ht;obtain⟨b',rfl,hb⟩:=nat_of ht.1;obtain⟨p',rfl,hp⟩:=nat_of ht.2;have HR:=jH hr;have HB:=jH hb;have HP:=jH hp;have HD:=jH hd;have HDD:=jH hdd;have HG:=jH hg;have HG1:=jH hg1;have HL:=jH hlen;have d2:=h.c2;have c5:=h.c5;rw[h.ok.badl] at c5;have hlt:=h.chip.lt
  have hbi:(b':Int) < ((s.nb:Nat):Int):=by omega
  have hcb:=badAt_cell h b' hb;have hnz1:=h.ok.nz1;have hnz2:=h.ok.nz2
  by_cases hn:n=s.nz
  ·have hni:(n:Int)=(s.nz:Int):=by omega
   by_cases hbad:badAt s b'=true
   ·have e0:progR s b' p' gl.length=9:=by unfold progR;rw[hr,hlen];simp[hn,hbad]
    have e1:progE s b' p' gl=9:=by unfold progE;rw[e0];rfl
    have e2:progS s b' p' gl=s:=by unfold progS;rw[e0];rfl
    rw[e1,e2];rw[hbad] at hcb;have HNI:=jH hni;clear h hr hdd ht hb hp hd hg hg1 hlen e0 e1 e2 hbad hstay;subst hn;go_enter Tryz.func27,Tryz.ntmps27;go_wp2_with fail;refine (refuses_any _ _ _ _ _ _ _ _ _ _ _ _ _ _ H.out).mono ?_;rintro e w' ⟨rfl,rfl⟩;rw[HR.out];go_wp2;go_ret;exact HS.out _ kR 9
   ·have hbad':badAt s b'=false:=by simpa using hbad
    rw[hbad'] at hcb
    by_cases hfree:blank (tailL s b' p')=true
    ·have e0:progR s b' p' gl.length=0:=by unfold progR;rw[hr,hlen];simp[hn,hbad',hfree]
     have e1:progE s b' p' gl=deedE s:=by unfold progE;rw[e0];rfl
     have e2:progS s b' p' gl=deedS s b' ((b'*s.np+p')*s.nz) gl:=by unfold progS offP;rw[e0];simp
     rw[e1,e2];have HFR:=jH hfree;have hfit:=(off_fit s h.ok b' p' ht).2.2;unfold offP at hfit;simp only[Int.toNat_natCast] at hfit;have HFI:=jH hfit;generalize hE:deedE s=E;have HE:=jH hE;generalize hS:deedS s b' ((b'*s.np+p')*s.nz) gl=S2;have HS2:=jH hS;clear h hr hdd ht hb hp hd hg hg1 hlen e0 e1 e2 hbad hbad' hfree hfit hE hS hstay;subst hn;go_enter Tryz.func27,Tryz.ntmps27;go_wp2_with fail;refine (refuses_any _ _ _ _ _ _ _ _ _ _ _ _ _ _ H.out).mono ?_;rintro e w' ⟨rfl,rfl⟩;rw[HR.out];go_wp2_with fail;refine (isFree_any _ _ _ _ _ _ _ _ _ _ _ _ _ _ H.out HB.out HP.out).mono ?_;rintro e w' ⟨q,rfl,rfl⟩
     rw[HFR.out];go_wp2_with fail;refine (pageOf_any _ _ _ _ _ _ _ _ _ _ _ _ _ _ (H.out.drewN q) HB.out HP.out).mono ?_;rintro e w' ⟨q2,rfl,rfl⟩;go_wp2_with fail;refine (deed_any Q g gc gb bl bb cc cb Ah ch s b' ((b'*s.np+p')*s.nz) s.nz G _ gl _ (H.out.drewN (q+q2)) HD.out (HG.out.drewN (q+q2)) HG1.out HFI.out (by omega) HB.out HDD.out).mono ?_;rw[HE.out,HS2.out];rintro e w4 ⟨rfl,hc,hk⟩;have HC:=jH hc;have HK:Hid (Kept Q w w4):=Kept.of_drewN hk;clear hc hk;go_wp2;go_ret;exact⟨rfl,HC.out,HK.out⟩
    ·have hfree':blank (tailL s b' p')=false:=by simpa using hfree
     have e0:progR s b' p' gl.length=8:=by unfold progR;rw[hr,hlen];simp[hn,hbad',hfree']
     have e1:progE s b' p' gl=8:=by unfold progE;rw[e0];rfl
     have e2:progS s b' p' gl=s:=by unfold progS;rw[e0];rfl
     rw[e1,e2];have HFR:=jH hfree';clear h hr hdd ht hb hp hd hg hg1 hlen e0 e1 e2 hbad hbad' hfree hfree' hstay;subst hn;go_enter Tryz.func27,Tryz.ntmps27;go_wp2_with fail;refine (refuses_any _ _ _ _ _ _ _ _ _ _ _ _ _ _ H.out).mono ?_;rintro e w' ⟨rfl,rfl⟩;rw[HR.out];go_wp2_with fail;refine (isFree_any _ _ _ _ _ _ _ _ _ _ _ _ _ _ H.out HB.out HP.out).mono ?_;rintro e w' ⟨q,rfl,rfl⟩;rw[HFR.out];go_wp2;go_ret;exact HS.out _ (kR.drewN q) 8
  ·have e0:progR s b' p' gl.length=2:=by unfold progR;rw[hr,hlen];simp[hn]
   have e1:progE s b' p' gl=2:=by unfold progE;rw[e0];rfl
   have e2:progS s b' p' gl=s:=by unfold progS;rw[e0];rfl
   rw[e1,e2];have hn1:((n:Int) == (s.nz:Int))=false:=beq_eq_false_iff_ne.2 (by omega);have hn2:(n == s.nz)=false:=beq_eq_false_iff_ne.2 hn;clear h hr hdd ht hb hp hd hg hg1 hlen e0 e1 e2 hstay;go_enter Tryz.func27,Tryz.ntmps27;go_wp2_with fail;refine (refuses_any _ _ _ _ _ _ _ _ _ _ _ _ _ _ H.out).mono ?_;rintro e w' ⟨rfl,rfl⟩;rw[HR.out];go_wp2;go_ret;exact HS.out _ kR 2
 ·have e0:progR s b p gl.length=refE s b p:=by unfold progR;rw[if_pos hr]
  have e1:progE s b p gl=refE s b p:=by unfold progE;rw[e0,if_neg hr]
  have e2:progS s b p gl=s:=by unfold progS;rw[e0,if_neg hr]
  rw[e1,e2];have hq:(refE s b p == 0)=false:=beq_eq_false_iff_ne.2 hr;clear h e0 e1 e2 hr hg hg1 hlen hd hstay;generalize hx:refE s b p=x at *;have HX:=jH hx;clear hx;go_enter Tryz.func27,Tryz.ntmps27;go_wp2_with fail;refine (refuses_any _ _ _ _ _ _ _ _ _ _ _ _ _ _ H.out).mono ?_;rintro e w' ⟨rfl,rfl⟩;rw[HX.out];go_wp2;go_ret;exact HS.out _ kR x
theorem bts_of_ones {w:World} {g n:Nat} {j:List Value} (h:Blk w g 5 ((List.replicate n 255).map byt++j)):Bts w (some ⟨g,0,none⟩) n (List.replicate n 255):=by
 refine⟨by simp,rep_bytes n,fun _=>⟨g,0,rfl,fun i x hx=>?_⟩⟩;have hi:=(List.getElem?_eq_some_iff.1 hx).1;rw[Nat.zero_add,h.cell,List.getElem?_append_left (by simpa using hi),List.getElem?_map,hx]
 rfl
theorem nErase_any (Q:Nat→Prop) (g:Nat) (s:CSt) (b:Int) (w:World) (h:NChip Q w g s) (hd:s.deeds < 4611686018427387904):
  Calls Tryz.prog 18 #[.pointer (some ⟨g,0,none⟩),.int .i64 b] w (DeedP Q w g (erasS s b) (erasE s b)):=by
 have hstay:=fun (w':World) (hk:New w w') (er:Int)=>DeedP.stay h hk er
 obtain⟨gc,gb,bl,bb,cc,cb,Ah,ch,h⟩:=h;have H:=jH h;have HS:=jH hstay
 by_cases hr:refE s b 0=0
 ·obtain⟨hdd,ht⟩:=refE_ok hr;obtain⟨b',rfl,hb⟩:=nat_of ht.1;have HR:=jH hr;have HB:=jH hb;have HD:=jH hd;have HDD:=jH hdd;have c5:=h.c5;rw[h.ok.badl] at c5;have hlt:=h.chip.lt
  have hbi:(b':Int) < ((s.nb:Nat):Int):=by omega
  have hcb:=badAt_cell h b' hb
  by_cases hbad:badAt s b'=true
  ·have e0:erasR s b'=9:=by unfold erasR;rw[hr];simp[hbad]
   have e1:erasE s b'=9:=by unfold erasE;rw[e0];rfl
   have e2:erasS s b'=s:=by unfold erasS;rw[e0];rfl
   rw[e1,e2];rw[hbad] at hcb;clear h hr hdd ht hb hd e0 e1 e2 hbad hstay;go_enter Tryz.func18,Tryz.ntmps18;go_wp2_with fail;refine (refuses_any _ _ _ _ _ _ _ _ _ _ _ _ _ _ H.out).mono ?_;rintro e w' ⟨rfl,rfl⟩;rw[HR.out];go_wp2;go_ret;exact HS.out _ kR 9
  ·have hbad':badAt s b'=false:=by simpa using hbad
   rw[hbad'] at hcb
   have e0:erasR s b'=0:=by unfold erasR;rw[hr];simp[hbad']
   have e1:erasE s b'=deedE s:=by unfold erasE;rw[e0];rfl
   have e3:offP s b' 0=b'*(s.np*s.nz):=by unfold offP;simp[Nat.mul_assoc]
   have e2:erasS s b'=deedS s b' (b'*(s.np*s.nz)) (List.replicate (s.np*s.nz) 255):=by unfold erasS;rw[e0,e3];rfl
   rw[e1,e2];have hfit:=(off_fit s h.ok b' 0 ht).1;rw[e3] at hfit;simp only[Int.toNat_zero,Nat.sub_zero] at hfit;have HFI:=jH hfit
   have hm1:s.np*s.nz≤8192:=by have:=Nat.mul_le_mul h.ok.np2 h.ok.nz2;omega
   have hm0:2≤s.np*s.nz:=by have:=Nat.mul_le_mul h.ok.np1 h.ok.nz1;omega
   have HM0:=jH hm0;have HM1:=jH hm1;generalize hE:deedE s=E;have HE:=jH hE;generalize hS:deedS s b' (b'*(s.np*s.nz)) (List.replicate (s.np*s.nz) 255)=S2;have HS2:=jH hS;have HSz:=jH h.ok.size;clear h hr hdd ht hb hd e0 e1 e2 e3 hbad hbad' hfit hE hS hstay hm0 hm1;go_enter Tryz.func18,Tryz.ntmps18;go_wp2_with fail;refine (refuses_any _ _ _ _ _ _ _ _ _ _ _ _ _ _ H.out).mono ?_;rintro e w' ⟨rfl,rfl⟩;rw[HR.out];go_wp2_with fail;refine (blockOf_any _ _ _ _ _ _ _ _ _ _ _ _ _ H.out HB.out).mono ?_;rintro e w' ⟨q,rfl,rfl⟩;go_wp2_with fail;refine (erased_any _ _ HM0.out (by have:=HM1.out;omega)).mono ?_
   rintro e w3 ⟨gE,jE,rfl,hE,hgE,hk⟩;have BE:=jH (bts_of_ones hE);have GE:=jH hgE;have K3:Hid (New w w3):=hk.of_drewN;have H3:=jH (H.out.new K3.out);clear hE hgE hk;go_wp2_with fail;refine (deed_any Q g gc gb bl bb cc cb Ah ch s b' (b'*(s.np*s.nz)) (s.np*s.nz) _ _ _ _ H3.out HD.out BE.out (fun a ha hq=>?_) HFI.out (by have:=HM1.out;omega) HB.out HDD.out).mono ?_
   ·injection ha with ha
    subst ha;have h1:=H.out.low _ hq;have h2:=GE.out;simp at h1 h2;omega
   rw[HE.out,HS2.out];rintro e w4 ⟨rfl,hc,hk⟩;have HC:=jH hc
   have HK:Hid (Kept Q w w4):=(K3.out.mono (S':=Q) fun _ _ f=>f.elim).trans hk fun _ _ x=>x
   clear hc hk;go_wp2;go_ret;exact⟨rfl,HC.out,HK.out⟩
 ·have e0:erasR s b=refE s b 0:=by unfold erasR;rw[if_pos hr]
  have e1:erasE s b=refE s b 0:=by unfold erasE;rw[e0,if_neg hr]
  have e2:erasS s b=s:=by unfold erasS;rw[e0,if_neg hr]
  rw[e1,e2];have hq:(refE s b 0 == 0)=false:=beq_eq_false_iff_ne.2 hr;clear h e0 e1 e2 hr hd hstay;generalize hx:refE s b 0=x at *;have HX:=jH hx;clear hx;go_enter Tryz.func18,Tryz.ntmps18;go_wp2_with fail;refine (refuses_any _ _ _ _ _ _ _ _ _ _ _ _ _ _ H.out).mono ?_;rintro e w' ⟨rfl,rfl⟩;rw[HX.out];go_wp2;go_ret;exact HS.out _ kR x
end
end Go.Proofs.YtbiihjdjbknibaaGreat
