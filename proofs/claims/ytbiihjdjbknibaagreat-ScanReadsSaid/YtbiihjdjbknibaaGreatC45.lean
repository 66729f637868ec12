/-
  Layer 7: contracts (Ad Ae).
-/
import Derived.Test.YtbiihjdjbknibaaGreatC44
import Derived.Test.YtbiihjdjbknibaaGreatC18
namespace Go.Proofs.YtbiihjdjbknibaaGreat
set_option maxRecDepth 100000
set_option maxHeartbeats 8000000
set_option linter.unusedSimpArgs false
set_option linter.unusedVariables false
section
set_option maxRecDepth 100000
open Go.RowKit
theorem rPages_any (Q:Nat→Prop) (g:Nat) (s:CSt) (b:Int) (w:World) (h:NChip Q w g s):
  Calls Tryz.prog 15 #[.pointer (some ⟨g,0,none⟩),.int .i64 b] w (PsP w (pgsU (fun q=>readL s b (q:Nat)) (s.np - 1))):=by
 have hok:s.Ok:=by obtain⟨_,_,_,_,_,_,_,_,h⟩:=h;exact h.ok
 have hnp1:=hok.np1;have hnp2:=hok.np2;have H:=jH h
 have HGe:=fun u hu=>jH (nGeo_any Q g s u (h.new hu))
 have CRd:=fun (k:Nat) u hu=>jH (nRead_any Q g s b ((k:Int)+1) u (H.out.new hu))
 clear h hok;generalize hF:(fun q:Nat=>readL s b (q:Nat))=F at *
 have HF:Hid (∀q:Nat,readL s b ((q:Int)+1)=F (q+1)):=fun q=>by rw[←hF];rfl
 clear hF
 have hfd:∀w:World,(Instr.field 51 (.agg #[.int .i64 (s.nb:Nat),.int .i64 (s.np:Nat),.int .i64 (s.nz:Nat),.int .i64 (s.ns:Nat)]) 1).run Tryz.prog w=.ok (.int .i64 (s.np:Nat)) w:=fun _=>by kernel_rfl
 obtain⟨m,hm⟩:∃m,m=s.np - 1:=⟨_,rfl⟩;rw[←hm];generalize s.np=np at *
 have hmn:m+1=np:=by omega
 have hm32:m≤32:=by omega
 clear hm;go_enter Tryz.func15,Tryz.ntmps15;go_wp2_with fail
 go_loopw [5,6] (fun o i wr=>∃(k:Nat) (A':Option Addr) (c':Nat) (pl:List PE) (n':Nat),k≤m∧i=.int .i64 ((k:Int)+1)∧o=.slice A' n' c'∧n'≤k∧Hid (pl.length=n')∧Hid (POwn wr w.heap.size A' c' pl)∧Hid (pvs pl=pgsU F k)∧Hid (New w wr)) (fun _ i _=>np - (intOf i).toNat)
 case atStart=>exact⟨0,none,0,[],0,Nat.zero_le _,rfl,rfl,Nat.le_refl _,rfl,POwn.nil _ _,rfl,kR⟩
 case round=>
  obtain⟨k,A',c',pl,n',hk,rfl,rfl,hn',HLN,VO,VC,VN⟩:=hrel;have HST:Hid (pgsU F (k+1)=if rdOk (F (k+1))=true then pgsU F k++[⟨k+1,rdC (F (k+1)),rdD (F (k+1))⟩] else pgsU F k):=rfl
  have HB:Hid (n'+1≤33):=by rw[Hid];omega
  go_wp2_with fail;refine (HGe _ VN.out).out.mono ?_;rintro e w1 ⟨rfl,k1⟩;have VO1:=jH (VO.out.new k1);have N1:=jH (VN.out.new k1);clear k1 VO VN
  by_cases hlt:k < m
  ·have hlt2:(k:Int)+1 < (np:Int):=by omega
   have CR:=CRd k w1 N1.out;rw[HF.out] at CR;generalize readE s b ((k:Int)+1)=re at *;go_wp2_with fail;refine CR.out.mono ?_;rintro e w2 ⟨A2,c2,rfl,o2,k2⟩;have N2:=jH (N1.out.new k2);have V2:=jH (VO1.out.new k2);have CG:=jH (rGet_any A2 (F (k+1)).length c2 (F (k+1)) w2 o2.bts o2.le.1 (by have:=o2.le.2;unfold maxLen at this;omega));clear o2 k2 CR VO1 N1;generalize hL:F (k+1)=L at *;clear hL;generalize L.length=ln at *;go_wp2_with fail;refine CG.out.mono ?_;rintro e w3 ⟨A3,c3,rfl,o3,k3⟩;have N3:=jH (N2.out.new k3);have V3:=jH (V2.out.new k3);have O3:=jH o3;clear o3 k3 CG V2 N2
   have HGO:Hid (rdOk L=false→pvs pl=pgsU F (k+1)):=fun h=>by rw[HST.out,h,if_neg (by decide)];exact VC.out
   have HYE:Hid (rdOk L=true→pvs pl++[⟨k+1,rdC L,rdD L⟩]=pgsU F (k+1)):=fun h=>by rw[HST.out,h,if_pos rfl,VC.out]
   clear HST VC
   by_cases h0:sGetE L=0
   ·have hsm:=sGet_small h0;have H2':=jH (fun h=>rd_2 h0 h);have H3':=jH (fun h=>rd_3 h0 h);have HX:=jH (fun h h2=>rd_x (l:=L) h h2);rw[h0];clear h0;generalize sGetK L=kk at *;generalize sGetL L=bd at *;have hbi:Hid (∀x∈bd,x < 256):=O3.out.1;generalize hbl:bd.length=bl at *;have HBL:=jH hbl;clear hbl
    have T3:Hid (Bts w3 A3 bl bd):=by have:=O3.out.bts;rwa [HBL.out] at this
    have hc3:Hid (bl≤c3∧c3≤maxLen):=by have:=O3.out.le;rwa [HBL.out] at this
    have HS3:Hid (w.heap.size≤w3.heap.size):=N3.out.size;clear O3
    by_cases k2:kk=2
    ·obtain⟨r1,r2,r3⟩:=H2'.out k2;subst k2;have CR:=jH (rrecGet_any A3 bl c3 bd w3 T3.out (by omega));have R1:=jH r1;have R2:=jH r2;have R3:=jH r3;clear r1 r2 r3 H2' H3' HX T3;go_wp2_with fail;refine CR.out.mono ?_;rintro e w4 ⟨A4,c4,es4,rfl,e4,o4,k4⟩;have N4:=jH (N3.out.new k4);have V4:=jH (V3.out.new k4);have O4:Hid (COwn w4 w.heap.size A4 c4 es4):=o4.mono HS3.out;have E4:=jH e4;clear e4 o4 k4 N3 V3 CR;generalize hel:es4.length=el at *;have HEL:=jH hel;clear hel
     by_cases hg:geE bd=0
     ·have hok:rdOk L=true:=R1.out.trans (decide_eq_true hg)
      have HC:Hid (pvs pl++[⟨k+1,cts es4,0⟩]=pgsU F (k+1)):=by rw[Hid,E4.out,←R2.out,←R3.out];exact HYE.out hok
      rw[hg];clear HGO HYE hg hok R1 R2 R3 E4;have hb:=HB.out
      have hp1:(0:Int)≤(k:Int)+1:=by omega
      obtain⟨w5,hw5⟩:∃w5,w5=w4.alloc (.cells #[.int .i64 ((k:Int)+1),.slice A4 el c4,.int .u64 0] 47):=⟨_,rfl⟩
      have m5:New w4 w5:=by rw[hw5];exact kR.alloc _
      have BY5:Hid (Blk w5 w4.heap.size 47 (pcl ((k:Int)+1) A4 el c4 0)):=by rw[hw5];exact Blk.made w4 _ _
      have V5:=jH (V4.out.new m5);have O5:Hid (COwn w5 w.heap.size A4 c4 es4):=O4.out.new m5;have N5:=jH (N4.out.new m5)
      have W5:Hid (OwnV w5 47 3 w.heap.size A' n' c' (pes pl)):=by have:=V5.out.1;rwa [HLN.out] at this
      have HW5:=jH hw5;clear m5 hw5 V4 N4
      go_wp2_with (at_builtin;rw[←HW5.out];refine wpList_append_page rfl _ _ rfl w.heap.size A' n' c' (pes pl) rfl W5.out w4.heap.size 1 (pcl ((k:Int)+1) A4 el c4 0) rfl BY5.out rfl (pcl_one _ _ _ _ _) (by omega) N5.out.size ?_)
      intro A6 c6 w6 O6 K6;have V6:Hid (POwn w6 w.heap.size A6 c6 (pl++[⟨k+1,es4,A4,c4,0⟩])):=POwn.more V5.out O5.out HLN.out K6.out (by have:=O6.out;rw[←HEL.out] at this;exact this);have N6:Hid (New w w6):=new_row N5.out W5.out K6.out
      have HC2:Hid (pvs (pl++[(⟨k+1,es4,A4,c4,0⟩:PE)])=pgsU F (k+1)):=by rw[Hid,pvs_append];exact HC.out
      have HLN2:Hid ((pl++[(⟨k+1,es4,A4,c4,0⟩:PE)]).length=n'+1):=by rw[Hid,List.length_append,HLN.out];rfl
      clear O6 K6 V5 O5 N5 W5 HW5 HC BY5 HLN;go_wp2;go_roundw
      case rel=>exact⟨k+1,A6,c6,_,n'+1,by omega,by first|go_num|rfl,rfl,by omega,HLN2,V6,HC2,N6⟩
      case measure=>simp[intOf];omega
     ·have HC:=jH (HGO.out (R1.out.trans (decide_eq_false hg)));have b0:(geE bd == 0)=false:=beq_eq_false_iff_ne.2 hg;clear HGO HYE hg R1 R2 R3 E4;generalize geE bd=ge at *;go_wp2;go_roundw
      case rel=>exact⟨k+1,A',c',pl,n',by omega,by first|go_num|rfl,rfl,by omega,HLN,V4,HC,N4⟩
      case measure=>simp[intOf];omega
    ·have d2:((kk:Int) == 2)=false:=beq_eq_false_iff_ne.2 (by omega)
     by_cases k3:kk=3
     ·obtain⟨r1,r2,r3⟩:=H3'.out k3;subst k3;have CR:=jH (rgetDrop_any A3 bl c3 bd w3 T3.out hc3.out.1 hc3.out.2);have R1:=jH r1;have R2:=jH r2;have R3:=jH r3;clear r1 r2 r3 H2' H3' HX T3 k2;go_wp2_with fail;refine CR.out.mono ?_;rintro e w4 ⟨rfl,k4⟩;have N4:=jH (N3.out.new k4);have V4:=jH (V3.out.new k4);clear k4 N3 V3 CR
      by_cases hg:gdE bd=0
      ·have hok:rdOk L=true:=R1.out.trans (decide_eq_true hg)
       have HC:Hid (pvs pl++[⟨k+1,cts [],gdV bd⟩]=pgsU F (k+1)):=by rw[Hid,←R3.out];have:=HYE.out hok;rw[R2.out] at this;exact this
       rw[hg];clear HGO HYE hg hok R1 R2 R3;generalize gdV bd=dv at *;have hb:=HB.out
       have hp1:(0:Int)≤(k:Int)+1:=by omega
       obtain⟨w5,hw5⟩:∃w5,w5=w4.alloc (.cells #[.int .i64 ((k:Int)+1),.slice none 0 0,.int .u64 (dv:Nat)] 47):=⟨_,rfl⟩
       have m5:New w4 w5:=by rw[hw5];exact kR.alloc _
       have BY5:Hid (Blk w5 w4.heap.size 47 (pcl ((k:Int)+1) none 0 0 dv)):=by rw[hw5];exact Blk.made w4 _ _
       have V5:=jH (V4.out.new m5);have O5:Hid (COwn w5 w.heap.size none 0 []):=COwn.nil _ _;have N5:=jH (N4.out.new m5)
       have W5:Hid (OwnV w5 47 3 w.heap.size A' n' c' (pes pl)):=by have:=V5.out.1;rwa [HLN.out] at this
       have HW5:=jH hw5;clear m5 hw5 V4 N4
       go_wp2_with (at_builtin;rw[←HW5.out];refine wpList_append_page rfl _ _ rfl w.heap.size A' n' c' (pes pl) rfl W5.out w4.heap.size 1 (pcl ((k:Int)+1) none 0 0 dv) rfl BY5.out rfl (pcl_one _ _ _ _ _) (by omega) N5.out.size ?_)
       intro A6 c6 w6 O6 K6;have V6:Hid (POwn w6 w.heap.size A6 c6 (pl++[⟨k+1,[],none,0,dv⟩])):=POwn.more V5.out O5.out HLN.out K6.out (by have:=O6.out;exact this);have N6:Hid (New w w6):=new_row N5.out W5.out K6.out
       have HC2:Hid (pvs (pl++[(⟨k+1,[],none,0,dv⟩:PE)])=pgsU F (k+1)):=by rw[Hid,pvs_append];exact HC.out
       have HLN2:Hid ((pl++[(⟨k+1,[],none,0,dv⟩:PE)]).length=n'+1):=by rw[Hid,List.length_append,HLN.out];rfl
       clear O6 K6 V5 O5 N5 W5 HW5 HC BY5 HLN;go_wp2;go_roundw
       case rel=>exact⟨k+1,A6,c6,_,n'+1,by omega,by first|go_num|rfl,rfl,by omega,HLN2,V6,HC2,N6⟩
       case measure=>simp[intOf];omega
      ·have HC:=jH (HGO.out (R1.out.trans (decide_eq_false hg)));have b0:(gdE bd == 0)=false:=beq_eq_false_iff_ne.2 hg;clear HGO HYE hg R1 R2 R3;generalize gdE bd=ge at *;go_wp2;go_roundw
       case rel=>exact⟨k+1,A',c',pl,n',by omega,by first|go_num|rfl,rfl,by omega,HLN,V4,HC,N4⟩
       case measure=>simp[intOf];omega
     ·have HC:=jH (HGO.out (HX.out k2 k3));have d3:((kk:Int) == 3)=false:=beq_eq_false_iff_ne.2 (by omega);clear HGO HYE HX H2' H3' k2 k3 T3;go_wp2;go_roundw
      case rel=>exact⟨k+1,A',c',pl,n',by omega,by first|go_num|rfl,rfl,by omega,HLN,V3,HC,N3⟩
      case measure=>simp[intOf];omega
   ·have HC:=jH (HGO.out (rd_no h0));have b0:(sGetE L != 0)=true:=bne_iff_ne.2 h0;clear HGO HYE h0 O3;generalize sGetE L=se at *;generalize sGetK L=kk at *;generalize (sGetL L).length=bl at *;go_wp2;go_roundw
    case rel=>exact⟨k+1,A',c',pl,n',by omega,by first|go_num|rfl,rfl,by omega,HLN,V3,HC,N3⟩
    case measure=>simp[intOf];omega
  ·have hkm:k=m:=by omega
   have E9:Hid (PsP w (pgsU F m) (.returned (.slice A' n' c')) w1):=⟨A',c',pl,by rw[HLN.out],by rw[←hkm];exact VC.out,VO1.out,N1.out⟩;clear VO1 VC N1 HST
   have hlt2:¬(k:Int)+1 < (np:Int):=by omega
   go_wp2;go_ret;exact E9.out
end
section
set_option maxRecDepth 100000
open Go.RowKit
structure BV where
 b:Nat
 q:Nat
 l:List PV
structure BE where
 b:Nat
 q:Nat
 pl:List PE
 A:Option Addr
 c:Nat
def BE.cells (e:BE):List Value:=[.int .i64 (e.b:Nat),.int .u64 (e.q:Nat),.slice e.A e.pl.length e.c]
def BE.v (e:BE):BV:=⟨e.b,e.q,pvs e.pl⟩
def bes:List BE→List Value
 | []=>[]
 | e::r=>e.cells++bes r
def bvs (l:List BE):List BV:=l.map BE.v
theorem be_len (e:BE):e.cells.length=3:=rfl
theorem bes_len:∀(l:List BE),(bes l).length=l.length*3
 | []=>rfl
 | e::r=>by simp only[bes,List.length_append,be_len,bes_len r,List.length_cons];omega
theorem bes_append:∀(a b:List BE),bes (a++b)=bes a++bes b
 | [],b=>rfl
 | e::a,b=>by simp only[List.cons_append,bes,bes_append a b,List.append_assoc]
theorem bvs_append (a b:List BE):bvs (a++b)=bvs a++bvs b:=by unfold bvs;rw[List.map_append]
theorem bes_at:∀(l:List BE) (i j:Nat) (e:BE) (u:Value),l[i]?=some e→j < 3→e.cells[j]?=some u→(bes l)[i*3+j]?=some u
 | [],i,j,e,u,h,_,_=>by simp at h
 | x::r,0,j,e,u,h,hj,hu=>by
  simp at h;subst h;simp only[bes,Nat.zero_mul,Nat.zero_add];rw[List.getElem?_append_left (by rw[be_len];exact hj)];exact hu
 | x::r,i+1,j,e,u,h,hj,hu=>by
  simp only[bes];rw[List.getElem?_append_right (by rw[be_len];omega),be_len,show (i+1)*3+j - 3=i*3+j by omega];exact bes_at r i j e u (by simpa using h) hj hu
def BOwn (w:World) (B:Nat) (A:Option Addr) (c:Nat) (l:List BE):Prop:=
 OwnV w 82 3 B A l.length c (bes l)∧∀e∈l,POwn w B e.A e.c e.pl
theorem POwn.kept {S:Nat→Prop} {w w':World} {B c:Nat} {A:Option Addr} {l:List PE} (h:POwn w B A c l) (hk:Kept S w w') (h1:∀b,S b→¬At w b 47) (h2:∀b,S b→¬At w b 105) (h3:∀b,S b→¬At w b 5):POwn w' B A c l:=
 ⟨h.1.kept hk fun a ha hS=>h1 _ hS (h.1.at_ a ha).1,fun e he=>(h.2 e he).kept hk h2 h3⟩
section
variable {w w':World} {A:Option Addr} {c B:Nat} {l:List BE}
theorem BOwn.nil (w:World) (B:Nat):BOwn w B none 0 []:=⟨OwnV.nil _ _ _ _,by simp⟩
theorem BOwn.new (h:BOwn w B A c l) (hk:New w w'):BOwn w' B A c l:=⟨h.1.new hk,fun e he=>(h.2 e he).new hk⟩
theorem BOwn.mono {B':Nat} (h:BOwn w B A c l) (hB:B'≤B):BOwn w B' A c l:=⟨h.1.mono hB,fun e he=>(h.2 e he).mono hB⟩
theorem BOwn.more {w7:World} {c2 k:Nat} {A2:Option Addr} {x:BE} (h:BOwn w B A c l) (hx:POwn w7 B x.A x.c x.pl) (hk:l.length=k) (k7:Kept (InRow A) w w7)
  (o7:OwnV w7 82 3 B A2 (k+1) c2 (bes l++x.cells)):BOwn w7 B A2 c2 (l++[x]):=by
 refine⟨?_,fun e he=>?_⟩
 ·rw[List.length_append,bes_append,hk];simpa [bes] using o7
 ·rcases List.mem_append.1 he with he|he
  ·have hA:=fun a ha=>(h.1.at_ a ha).1
   exact (h.2 e he).kept k7 (fun b ⟨a,ha,e2⟩ ht=>ht.ne_of (e2 ▸ hA a ha) (by decide) rfl) (fun b ⟨a,ha,e2⟩ ht=>ht.ne_of (e2 ▸ hA a ha) (by decide) rfl) (fun b ⟨a,ha,e2⟩ ht=>ht.ne_of (e2 ▸ hA a ha) (by decide) rfl)
  ·simp only[List.mem_cons,List.not_mem_nil,or_false] at he;subst he;exact hx
end
theorem info_sblock:(Tryz.prog.info? 82).map (fun i=>(i.zero,i.size,i.bytes))=some (some (.agg #[.int .i64 0,.int .u64 0,.slice none 0 0]),3,40):=by kernel_rfl
theorem step_append_sblock {w wb:World} {ops:Array Oper} {o:Oper} {a:Act} {K:Act→World→Prop} {Q:Exit→Act→World→Prop} {E:Prop} (hgd:o.guard=none) (s x:Operand)
  (ho:o.op=.call { callee:=.builtin .append,args:=#[s,x],argTypes:=#[75,75] })
  (B:Nat) (A:Option Addr) (k ch:Nat) (vs:List Value) (hsv:a.eval s=.slice A k ch) (hown:OwnV wb 82 3 B A k ch vs) (hk:New wb w)
  (g c':Nat) (us:List Value) (hx:a.eval x=.slice (some ⟨g,0,none⟩) 1 c') (hb:Blk w g 82 us) (hul:us.length=3) (h1:∀u∈us,u.oneCell'=true) (hn:(k+1)*40≤140737488355328) (hbase:B≤wb.heap.size)
  (h:∀A2 c2 w',Hid (OwnV w' 82 3 B A2 (k+1) c2 (vs++us))→Hid (Kept (InRow A) wb w')→Hid (Kept (InRow A) w w')→K (a.put o.dst (.slice A2 (k+1) c2)) w'):
  if Region.wanted o (yielded ops a.tmps)=true then Oper.wp Tryz.prog o a w K Q else E:=by
 obtain⟨i0,hi,hz0,hz1,hz2⟩:=info_parts info_sblock
 have hr:RowV w (some ⟨g,0,none⟩) 1 i0.size us:=by
  rw[hz1];exact⟨by rw[hul],fun _=>⟨g,0,rfl,fun j v hj=>by rw[Nat.zero_add,hb.cell];exact hj⟩⟩
 have ho':OwnV w 82 i0.size B A k ch vs:=by rw[hz1];exact hown.new hk
 refine step_append_rowV w hgd s x 75 ho 82 i0 (.agg #[.int .i64 0,.int .u64 0,.slice none 0 0]) Tryz.underlying75 hi hz0 (by rw[hz1];rfl) (by rw[hz1];omega) B A k ch vs hsv ho' (some ⟨g,0,none⟩) 1 c' us hx hr h1 (by rw[hz2];omega) (by omega) (Nat.le_trans hbase hk.size) ?_;intro A2 c2 w' h3 h4 _;refine h A2 c2 w' (by have:=h3.out;rw[hz1] at this;exact this) ?_ ?_
 ·refine (hk.mono (S':=InRow A) fun _ _ f=>f.elim).grown h4.out fun q _ hA=>?_
  obtain⟨a,ha,e⟩:=Option.map_eq_some_iff.1 hA;exact⟨a,ha,e⟩
 ·refine (Kept.refl (InRow A) w).grown h4.out fun q _ hA=>?_
  obtain⟨a,ha,e⟩:=Option.map_eq_some_iff.1 hA;exact⟨a,ha,e⟩
def pgsB (s:CSt) (b:Nat):List PV:=pgsU (fun q=>readL s (b:Nat) (q:Nat)) (s.np - 1)
def eraV (s:CSt) (era:Nat):List TK→List BV
 | []=>[]
 | t::r=>if t.k=1∧t.e=era then ⟨t.b,t.s,pgsB s t.b⟩::eraV s era r else eraV s era r
theorem eraV_append (s:CSt) (era:Nat):∀(a b:List TK),eraV s era (a++b)=eraV s era a++eraV s era b
 | [],b=>rfl
 | t::a,b=>by
  simp only[List.cons_append,eraV,eraV_append s era a b]
  split<;>simp
theorem eraV_len (s:CSt) (era:Nat):∀(a:List TK),(eraV s era a).length≤a.length
 | []=>Nat.le_refl _
 | t::a=>by
  have:=eraV_len s era a
  simp only[eraV]
  split
  ·simp;omega
  ·simp;omega
theorem tkn_len (s:CSt) (p:PSt):(tknL s p).length≤s.nb:=by
 unfold tknL;rw[insG_len];exact tkUpto_len s p s.nb
def BksP (w:World) (l:List BV) (e:Ending) (w':World):Prop:=∃A c bl,e=.returned (.tuple #[.slice A bl.length c,.int .i64 0])∧bvs bl=l∧BOwn w' w.heap.size A c bl∧New w w'
theorem tk5 {w:World} {g:Nat} {t:TK} (h:Blk w g 90 t.cells):
  w.cell? ⟨g,0,none⟩=some (.int .i64 (t.b:Nat))∧w.cell? ⟨g,1,none⟩=some (.int .u8 (t.k:Nat))∧w.cell? ⟨g,2,none⟩=some (.int .u32 (t.e:Nat))∧w.cell? ⟨g,3,none⟩=some (.int .u64 (t.s:Nat))∧w.cell? ⟨g,4,none⟩=some (.bool t.bad):=
 ⟨h.cell 0,h.cell 1,h.cell 2,h.cell 3,h.cell 4⟩
theorem ownTk_at {w:World} {B n c i:Nat} {A:Option Addr} {l:List TK} (h:OwnV w 90 5 B A n c (tRow l [])) (hn:l.length=n) (hi:i < n):∃(g:Nat) (t:TK),A=some ⟨g,0,none⟩∧l[i]?=some t ∧
  w.cell? ⟨g,i*5,none⟩=some (.int .i64 (t.b:Nat))∧w.cell? ⟨g,i*5+1,none⟩=some (.int .u8 (t.k:Nat))∧w.cell? ⟨g,i*5+2,none⟩=some (.int .u32 (t.e:Nat))∧w.cell? ⟨g,i*5+3,none⟩=some (.int .u64 (t.s:Nat))∧w.cell? ⟨g,i*5+4,none⟩=some (.bool t.bad):=by
 obtain⟨h1,h2,h3,h4⟩:=h
 rcases h4 with ⟨_,h4⟩|⟨g,sp,rfl,hB,hb,_⟩
 ·omega
 have hi':i < l.length:=by omega
 have he:l[i]?=some l[i]:=List.getElem?_eq_getElem hi'
 have key:∀j u,j < 5→l[i].cells[j]?=some u→w.cell? ⟨g,i*5+j,none⟩=some u:=fun j u hj hu=>by
  have:=tRow_get [] l j u i _ he hj hu
  rw[hb.cell,List.getElem?_append_left (List.getElem?_eq_some_iff.1 this).1];exact this
 exact⟨g,l[i],rfl,he,key 0 _ (by omega) rfl,key 1 _ (by omega) rfl,key 2 _ (by omega) rfl,key 3 _ (by omega) rfl,key 4 _ (by omega) rfl⟩
theorem blocksOf_ok (Q:Nat→Prop) (g:Nat) (s:CSt) (era:Nat) (w:World) (h:NChip Q w g s) (hal:s.dead=false) (h19:s.nb≤19) (he:era≠0) (he2:era < 4294967296):
  Calls Tryz.prog 22 #[.pointer (some ⟨g,0,none⟩),.int .u32 (era:Nat)] w (BksP w (eraV s era (tknL s (scanS s)))):=by
 have H:=jH h
 have CS:=fun u hu=>jH (pScan_ok Q g s u (h.new hu) hal h19)
 have HNB:Hid ((tknL s (scanS s)).length≤19):=Nat.le_trans (tkn_len s _) h19
 have CT:=fun (gp gb:Nat) u (hu:PRep Q u gp gb g s (scanS s))=>jH (pTaken_any Q gp gb g s (scanS s) u hu h19)
 have CP:=fun (b:Nat) u hu=>jH (pagesOf_any Q g s (b:Nat) u (h.new hu))
 have d0:((era:Int) == 0)=false:=beq_eq_false_iff_ne.2 (by omega);clear h hal h19 he;generalize tknL s (scanS s)=tl at *;go_enter Tryz.func22,Tryz.ntmps22;go_wp2_with fail;refine (CS _ kR).out.mono ?_;rintro e w1 ⟨gp,gb,rfl,hp,_,_,k1⟩;have HT:=CT gp gb w1 hp;have K1:=jH k1;clear hp k1 CS CT;go_wp2_with fail;refine HT.out.mono ?_;rintro e w2 ⟨A2,c2,rfl,o2,k2⟩;have O2:=jH o2;have K2:=jH (K1.out.new k2);have hs1:w.heap.size≤w1.heap.size:=K1.out.size;clear o2 k2 HT K1;generalize htn:tl.length=tn at *;have HTN:=jH htn;clear htn;have htn19:=HNB.out;go_wp2_with fail
 go_loopw [8,24] (fun o i wr=>∃(k:Nat) (A':Option Addr) (c':Nat) (bl:List BE) (n':Nat),k≤tn∧i=.int .i64 k∧o=.slice A' n' c'∧n'≤k∧Hid (bl.length=n')∧Hid (BOwn wr w.heap.size A' c' bl)∧Hid (bvs bl=eraV s era (tl.take k))∧Hid (New w wr)∧Hid (OwnV wr 90 5 w1.heap.size A2 tn c2 (tRow tl []))) (fun _ i _=>tn - (intOf i).toNat)
 case atStart=>exact⟨0,none,0,[],0,Nat.zero_le _,rfl,rfl,Nat.le_refl _,rfl,BOwn.nil _ _,rfl,K2,O2⟩
 case round=>
  obtain⟨k,A',c',bl,n',hk,rfl,rfl,hn',HLN,VO,VC,VN,VT⟩:=hrel;clear O2 K2
  by_cases hlt:k < tn
  ·obtain⟨g2,t,eA,ht,x0,x1,x2,x3,x4⟩:=ownTk_at VT.out HTN.out hlt;subst eA
   have HST:Hid (eraV s era (tl.take (k+1))=if t.k=1∧t.e=era then eraV s era (tl.take k)++[⟨t.b,t.s,pgsB s t.b⟩] else eraV s era (tl.take k)):=by
    rw[Hid,List.take_add_one,ht,eraV_append]
    show _++(if t.k=1∧t.e=era then (⟨t.b,t.s,pgsB s t.b⟩:BV)::[] else [])=_
    split<;>simp
   have HB:Hid (n'+1≤20):=by rw[Hid];omega
   clear ht;obtain⟨w3,hw3⟩:∃w3,w3=wr.alloc (.cells #[.int .i64 (t.b:Nat),.int .u8 (t.k:Nat),.int .u32 (t.e:Nat),.int .u64 (t.s:Nat),.bool t.bad] 90):=⟨_,rfl⟩
   have m3:New wr w3:=by rw[hw3];exact kR.alloc _
   have BX3:Hid (Blk w3 wr.heap.size 90 t.cells):=by rw[hw3];exact Blk.made wr _ _
   have N3:=jH (VN.out.new m3);have V3:=jH (VO.out.new m3);have T3:=jH (VT.out.new m3);have HW3:=jH hw3;clear m3 hw3 VO VN VT;obtain⟨tb,tk,te,ts,tbad⟩:=t
   dsimp only at *
   go_upto_region 10 with fail
   rw[←HW3.out];clear HW3 x0 x1 x2 x3 x4;obtain⟨q0,q1,q2,q3,q4⟩:=tk5 BX3.out
   dsimp only at q0 q1 q2 q3 q4
   by_cases h1:tk=1
   ·by_cases h2:te=era
    ·have HC:Hid (eraV s era (tl.take (k+1))=eraV s era (tl.take k)++[⟨tb,ts,pgsB s tb⟩]):=HST.out.trans (if_pos ⟨h1,h2⟩)
     have S5:Hid (∀u,New w3 u→u.cell? ⟨wr.heap.size,0,none⟩=some (.int .i64 (tb:Nat))∧u.cell? ⟨wr.heap.size,3,none⟩=some (.int .u64 (ts:Nat))):=fun u hu=>by
      obtain⟨y0,_,_,y3,_⟩:=tk5 (BX3.out.kept hu id);exact⟨y0,y3⟩
     have CL:Hid (∀u,New w3 u→Calls Tryz.prog 33 #[.pointer (some ⟨g,0,none⟩),.int .i64 (tb:Nat)] u (PsP u (pgsB s tb))):=fun u hu=>(CP tb u (N3.out.new hu)).out
     have V5r:Hid (OwnV w3 82 3 w.heap.size A' n' c' (bes bl)):=by have:=V3.out.1;rwa [HLN.out] at this
     have ONE:Hid (∀(A4:Option Addr) (n4 c4:Nat),∀u∈[Value.int .i64 (tb:Nat),.int .u64 (ts:Nat),.slice A4 n4 c4],u.oneCell'):=by intro A4 n4 c4 u hu;simp at hu;rcases hu with rfl|rfl|rfl<;>rfl
     have MK:Hid (∀(wC:World) (A4:Option Addr) (n4 c4:Nat),Blk (wC.alloc (.cells #[.int .i64 (tb:Nat),.int .u64 (ts:Nat),.slice A4 n4 c4] 82)) wC.heap.size 82 [.int .i64 (tb:Nat),.int .u64 (ts:Nat),.slice A4 n4 c4]):=fun wC A4 n4 c4=>Blk.made wC _ _
     have hbt:(n'+1)*40≤140737488355328:=by have:=HB.out;omega
     have hB5:w.heap.size≤w3.heap.size:=N3.out.size;have K0:New w3 w3:=kR;subst h1 h2;clear HST
     go_upto_region 11 with fail
     go_region_law (first
      | (with_reducible refine step_append_sblock (wb:=w3) (o:=⟨some 51,_,_,_,_,_⟩) rfl (.tmp 39) (.tmp 50) rfl w.heap.size A' n' c' (bes bl) ?_ V5r.out (by first|exact NC.out.alloc _|exact (NC.out.alloc _).drew) wC.heap.size 1 [.int .i64 (tb:Nat),.int .u64 (ts:Nat),.slice A4 pl4.length c4] ?_ (by first|exact MK.out wC A4 pl4.length c4|exact (MK.out wC A4 pl4.length c4).drew) rfl (ONE.out A4 pl4.length c4) hbt hB5 ?_;(next=>go_simp);(next=>go_simp);intro A7 c7 w7 O7 K7 K8)
      | (go_simp;go_at_call 33;refine (CL.out _ (by first|exact K0|exact K0.drew)).mono ?_;rintro e wC ⟨A4,c4,pl4,rfl,e4,o4,k4⟩;have NC:Hid (New w3 wC):=(by first|exact k4|exact kR.drew.new k4);have O4:Hid (POwn wC w.heap.size A4 c4 pl4):=o4.mono hB5;have E4:=jH e4;clear o4 k4 e4;obtain⟨s0,s3⟩:=S5.out wC NC.out))
     all_goals
      have hty:∀b,InRow A' b→At w3 b 82:=fun b ⟨a,ha,e⟩=>e ▸ (V5r.out.at_ a ha).1
      have hty2:∀(u:World),New w3 u→∀b,InRow A' b→At u b 82:=fun u hu b hb=>(hty b hb).kept hu id
      have O8:Hid (POwn w7 w.heap.size A4 c4 pl4):=(O4.out.new (w':=wC.alloc (.cells #[.int .i64 (tb:Nat),.int .u64 (ts:Nat),.slice A4 pl4.length c4] 82)) (kR.alloc _)).kept (S:=InRow A')
       (by first|exact K8.out|exact ((Kept.refl (InRow A') _).drew.trans K8.out fun _ _ h=>h))
       (fun b hb ht=>ht.ne_of (hty2 _ (NC.out.alloc _) b hb) (by decide) rfl) (fun b hb ht=>ht.ne_of (hty2 _ (NC.out.alloc _) b hb) (by decide) rfl) (fun b hb ht=>ht.ne_of (hty2 _ (NC.out.alloc _) b hb) (by decide) rfl)
      have E1:Hid (BOwn w7 w.heap.size A7 c7 (bl++[⟨tb,ts,pl4,A4,c4⟩])):=BOwn.more V3.out O8.out HLN.out K7.out O7.out
      have E2:Hid (bvs (bl++[(⟨tb,ts,pl4,A4,c4⟩:BE)])=eraV s te (tl.take (k+1))):=by
       rw[Hid,bvs_append,HC.out,VC.out]
       show _++[(⟨tb,ts,pvs pl4⟩:BV)]=_
       rw[E4.out]
      have E3:Hid (New w w7):=new_row N3.out V5r.out K7.out
      have E5:Hid (OwnV w7 90 5 w1.heap.size (some ⟨g2,0,none⟩) tn c2 (tRow tl [])):=T3.out.kept K7.out fun a ha hb=>(T3.out.at_ a ha).1.ne_of (hty _ hb) (by decide) rfl
      have E6:Hid ((bl++[(⟨tb,ts,pl4,A4,c4⟩:BE)]).length=n'+1):=by rw[Hid,List.length_append,HLN.out];rfl
      clear O7 K7 K8 O4 O8 V3 V5r NC VC T3 HC HLN hty hty2 q0 q1 q2 q3 q4 s0 s3;go_wp2;go_roundw
      case rel=>exact⟨k+1,A7,c7,_,n'+1,by omega,by go_num,rfl,by omega,E6,E1,E2,E3,E5⟩
      case measure=>simp[intOf];omega
    ·have HC:Hid (bvs bl=eraV s era (tl.take (k+1))):=VC.out.trans (HST.out.trans (if_neg fun h=>h2 h.2)).symm;have b0:((te:Int) == (era:Int))=false:=beq_eq_false_iff_ne.2 (by omega);subst h1;clear HST VC BX3 h2;go_wp2;go_roundw
     case rel=>exact⟨k+1,A',c',bl,n',by omega,by go_num,rfl,by omega,HLN,V3,HC,N3,T3⟩
     case measure=>simp[intOf];omega
   ·have HC:Hid (bvs bl=eraV s era (tl.take (k+1))):=VC.out.trans (HST.out.trans (if_neg fun h=>h1 h.1)).symm;have b0:((tk:Int) == 1)=false:=beq_eq_false_iff_ne.2 (by omega);clear HST VC BX3 h1;go_wp2;go_roundw
    case rel=>exact⟨k+1,A',c',bl,n',by omega,by go_num,rfl,by omega,HLN,V3,HC,N3,T3⟩
    case measure=>simp[intOf];omega
  ·have hkn:k=tn:=by omega
   have E9:Hid (BksP w (eraV s era tl) (.returned (.tuple #[.slice A' n' c',.int .i64 0])) wr):=by
    have hc:=VC.out;rw[List.take_of_length_le (by rw[HTN.out];omega)] at hc;exact⟨A',c',bl,by rw[HLN.out],hc,VO.out,VN.out⟩
   clear VO VC VN VT;go_wp2;go_ret2;exact E9.out
end
end Go.Proofs.YtbiihjdjbknibaaGreat
