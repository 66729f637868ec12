/-
  Layer 7: contracts (Aj Ak Al).
-/
import Derived.Test.YtbiihjdjbknibaaGreatC46
namespace Go.Proofs.YtbiihjdjbknibaaGreat
set_option maxRecDepth 100000
set_option maxHeartbeats 8000000
set_option linter.unusedSimpArgs false
set_option linter.unusedVariables false
section
set_option maxRecDepth 100000
open Go.RowKit
theorem wpList_append_changes {w:World} {ops:Array Oper} {rest:List Oper} {o:Oper} {a:Act} {Q:Exit→Act→World→Prop} (hgd:o.guard=none) (s x:Operand)
  (ho:o.op=.call { callee:=.builtin .append,args:=#[s,x],argTypes:=#[44,44] })
  (B:Nat) (A:Option Addr) (k ch:Nat) (vs:List Value) (hsv:a.eval s=.slice A k ch) (hown:OwnV w 105 6 B A k ch vs)
  (A':Option Addr) (m c':Nat) (us:List Value) (hx:a.eval x=.slice A' m c') (hr:RowV w A' m 6 us) (h1:∀u∈us,u.oneCell'=true) (hn:(k+m)*72≤140737488355328) (hbase:B≤w.heap.size)
  (h:∀A2 c2 w',Hid (OwnV w' 105 6 B A2 (k+m) c2 (vs++us))→Hid (Kept (InRow A) w w')→wpList Tryz.prog ops Q rest (a.put o.dst (.slice A2 (k+m) c2)) w'):
  wpList Tryz.prog ops Q (o::rest) a w:=by
 obtain⟨i0,hi,hz0,hz1,hz2⟩:=info_parts info_change
 have hr':RowV w A' m i0.size us:=by rw[hz1];exact hr
 have ho':OwnV w 105 i0.size B A k ch vs:=by rw[hz1];exact hown
 refine wpList_append_rowV w hgd s x 44 ho 105 i0 (.agg #[.int .i64 0,.int .u8 0,.string ⟨#[]⟩,.int .i64 0,.slice none 0 0,.bool false]) Tryz.underlying44 hi hz0 (by rw[hz1];rfl) (by rw[hz1];omega) B A k ch vs hsv ho' A' m c' us hx hr' h1 (by rw[hz2];omega) (by omega) hbase ?_;intro A2 c2 w' h3 h4 h5;refine h A2 c2 w' (by have:=h3.out;rw[hz1] at this;exact this) ?_
 refine (Kept.refl (InRow A) w).grown h4.out fun q _ hA=>?_
 obtain⟨a,ha,e⟩:=Option.map_eq_some_iff.1 hA;exact⟨a,ha,e⟩
def pgCh (l:List PV):List CT:=l.flatMap (·.cs)
def bkCh (l:List BV):List CT:=l.flatMap fun b=>pgCh b.l
theorem pgCh_next {l:List PV} {k:Nat} {p:PV} (h:l[k]?=some p):pgCh (l.take (k+1))=pgCh (l.take k)++p.cs:=by
 unfold pgCh;rw[List.take_add_one,h,List.flatMap_append];simp
theorem bkCh_next {l:List BV} {k:Nat} {p:BV} (h:l[k]?=some p):bkCh (l.take (k+1))=bkCh (l.take k)++pgCh p.l:=by
 unfold bkCh;rw[List.take_add_one,h,List.flatMap_append];simp
def FcS (w w1 wr:World) (A:Option Addr) (c:Nat) (acc:List CE):Prop:=
 OwnV wr 105 6 w1.heap.size A acc.length c (ces acc)∧(∀e∈acc,OwnB wr 5 w.heap.size e.A e.c e.f.v∧e.f.v.length≤140737488351232∧e.f.k.n.size≤maxLen)∧New w1 wr
section
variable {w w1 wr w':World} {A A2:Option Addr} {c c2 k:Nat} {acc es:List CE}
theorem FcS.nil (hk:New w1 wr):FcS w w1 wr none 0 []:=⟨OwnV.nil _ _ _ _,by simp,hk⟩
theorem FcS.new (h:FcS w w1 wr A c acc) (hk:New wr w'):FcS w w1 w' A c acc:=⟨h.1.new hk,fun e he=>⟨(h.2.1 e he).1.new hk,(h.2.1 e he).2⟩,h.2.2.new hk⟩
theorem FcS.more (h:FcS w w1 wr A c acc) (hes:∀e∈es,OwnB wr 5 w.heap.size e.A e.c e.f.v∧e.f.v.length≤140737488351232∧e.f.k.n.size≤maxLen) (k7:Kept (InRow A) wr w')
  (o7:OwnV w' 105 6 w1.heap.size A2 (acc.length+es.length) c2 (ces acc++ces es)):FcS w w1 w' A2 c2 (acc++es):=by
 refine⟨by rw[List.length_append,ces_append];exact o7,fun e he=>?_,new_row h.2.2 h.1 k7⟩
 have hh:OwnB wr 5 w.heap.size e.A e.c e.f.v∧e.f.v.length≤140737488351232∧e.f.k.n.size≤maxLen:=by
  rcases List.mem_append.1 he with he|he
  ·exact h.2.1 e he
  ·exact hes e he
 exact⟨hh.1.kept k7 fun a ha ⟨b,hb,e2⟩=>(hh.1.at_ a ha).1.ne_of (e2 ▸ (h.1.at_ b hb).1) (by decide) rfl,hh.2⟩
theorem FcS.own (h:FcS w w1 wr A c acc) (hs:w.heap.size≤w1.heap.size):COwn wr w.heap.size A c acc:=⟨h.1.mono hs,h.2.1⟩
end
theorem pg_cs_len {s:CSt} {b:Nat} (ok:s.Ok):∀p∈pgsB s b,p.cs.length≤255:=by
 have key:∀k,∀p∈pgsU (fun q=>readL s (b:Nat) (q:Nat)) k,p.cs.length≤255:=by
  intro k
  induction k with
  | zero=>intro p hp;simp[pgsU] at hp
  | succ k ih=>
   intro p hp;unfold pgsU at hp
   split at hp
   ·rcases List.mem_append.1 hp with hp|hp
    ·exact ih p hp
    ·simp at hp;subst hp
     show (rdC _).length≤255
     unfold rdC
     split
     ·refine geC_len ?_
      have hb:∀x∈readL s (b:Nat) ((k+1:Nat):Int),x < 256:=by
       unfold readL
       split
       ·intro x hx;unfold pgL at hx;exact ok.bytes x (List.mem_of_mem_drop (List.mem_of_mem_take hx))
       ·intro x hx;cases hx
      intro x hx;unfold sGetL at hx
      split at hx
      ·exact hb x (List.mem_of_mem_drop (List.mem_of_mem_take hx))
      ·cases hx
     ·simp
   ·exact ih p hp
 exact key _
def FcsP (w:World) (l:List FT) (e:Ending) (w':World):Prop:=∃A c es,e=.returned (.tuple #[.slice A es.length c,.int .i64 0])∧fts es=l∧FOwn w' w.heap.size A c es∧New w w'
def eraF (s:CSt) (era:Nat):List FT:=apF [] (bkCh ((eraL s era).drop (eraR s era)))
theorem mem_v {l:List PE} {e:PE} (h:e∈l):e.v∈pvs l:=List.mem_map_of_mem h
theorem era_pages {s:CSt} {era:Nat} {bl:List BE} (ok:s.Ok) (hv:bvs bl=eraL s era):∀e∈bl,e.pl.length≤31∧∀p∈e.pl,p.es.length≤255:=by
 intro e he
 have hm:e.v∈eraL s era:=by rw[←hv];exact List.mem_map_of_mem he
 obtain⟨t,_,_,_,e3⟩:=eraV_mem hm;have e4:pvs e.pl=pgsB s t.b:=e3;refine⟨?_,fun p hp=>?_⟩
 ·have:e.pl.length=(pgsB s t.b).length:=by rw[←e4];unfold pvs;rw[List.length_map]
  rw[this];exact pgsB_len ok
 ·have:=pg_cs_len ok p.v (by rw[←e4];exact mem_v hp)
  have e5:p.v.cs=cts p.es:=rfl;rw[e5,cts_lenE] at this;exact this
theorem Facts_ok (Q:Nat→Prop) (g:Nat) (s:CSt) (era:Nat) (w:World) (h:NChip Q w g s) (hal:s.dead=false) (h19:s.nb≤19) (he:era≠0) (he2:era < 4294967296):
  Calls Tryz.prog 8 #[.pointer (some ⟨g,0,none⟩),.int .u32 (era:Nat)] w (FcsP w (eraF s era)):=by
 have ok:s.Ok:=by obtain⟨_,_,_,_,_,_,_,_,h⟩:=h;exact h.ok
 have C1:=fun u hu=>jH (blocksOf_ok Q g s era u (h.new hu) hal h19 he he2)
 have HF:=fun (u:World) (A:Option Addr) (c:Nat) (bl:List BE) ho hv=>jH (era_facts (era:=era) (w:=u) (B:=w.heap.size) (A:=A) (c:=c) (bl:=bl) ok h19 ho hv)
 have HPG:=fun (bl:List BE) hv=>jH (era_pages (era:=era) (bl:=bl) ok hv)
 clear h hal h19 he ok;have HE:Hid (eraV s era (tknL s (scanS s))=eraL s era):=rfl;have HR:Hid (eraR s era=ctB (lsB 0 (eraL s era)) (eraL s era)):=rfl;have HFF:Hid (eraF s era=apF [] (bkCh ((eraL s era).drop (eraR s era)))):=rfl;generalize eraF s era=ef at *;generalize eraR s era=r at *;go_enter Tryz.func8,Tryz.ntmps8;go_wp2_with fail;refine (C1 _ kR).out.mono ?_;rintro e w1 ⟨A1,c1,bl,rfl,e1,o1,k1⟩;have E1:Hid (bvs bl=eraL s era):=e1;obtain⟨f1,f2,f3,f4,f5,f6⟩:=(HF w1 A1 c1 bl o1 E1.out).out;have HP:=HPG bl E1.out;have CS:=jH (split_any A1 bl.length c1 bl w1 o1.in_ (by omega) f2 f3 f4 (fun e he=>Nat.le_trans (f5 e he) (by unfold maxLen;omega)) f6)
 rw[E1.out,←HR.out] at CS;have K1:=jH k1;have BO1:=jH o1;have HB1:Hid (bl.length≤19):=f1
 have HRL:Hid (r≤bl.length):=by
  rw[Hid,HR.out]
  have:=ctB_le (lsB 0 (eraL s era)) (eraL s era)
  have e:(eraL s era).length=bl.length:=by rw[←E1.out];unfold bvs;rw[List.length_map]
  omega
 clear e1 o1 k1 f1 f2 f3 f4 f5 f6 HF C1 HR HPG;generalize hbn:bl.length=bn at *;clear hbn;go_wp2_with fail;refine CS.out.mono ?_;rintro e w2 ⟨A2,c2,rfl,_,i2,_,_,k2⟩;have I2:=jH i2;have K2:=jH (K1.out.new k2);have BO2:=jH (BO1.out.new k2);have hb1:=HB1.out;have hrl:=HRL.out
 have HDL:Hid (bvs (bl.drop r)=(eraL s era).drop r):=by rw[Hid,bvs_drop,E1.out]
 have HMEM:Hid (∀e∈bl.drop r,e∈bl):=fun e he=>List.mem_of_mem_drop he
 clear i2 k2 K1 CS BO1 E1 HE;generalize bl.drop r=dl at *;generalize hdn:bn - r=dn at *
 have hdn19:dn≤19:=by omega
 have HLD:Hid (dl.length=dn):=I2.out.len;clear hdn HB1 HRL hb1 hrl;have hsz:w.heap.size≤w2.heap.size:=K2.out.size;go_wp2_with fail
 go_loopw [8,31] (fun o i wr=>∃(k:Nat) (A':Option Addr) (c':Nat) (acc:List CE) (n':Nat),k≤dn∧i=.int .i64 k∧o=.slice A' n' c'∧n'≤7905*k∧Hid (acc.length=n')∧Hid (FcS w w2 wr A' c' acc)∧Hid (cts acc=bkCh ((bvs dl).take k))) (fun _ i _=>dn - (intOf i).toNat)
 case atStart=>exact⟨0,none,0,[],0,Nat.zero_le _,rfl,rfl,Nat.le_refl _,rfl,FcS.nil kR,rfl⟩
 case round=>
  obtain⟨k,A',c',acc,n',hk,rfl,rfl,hn',HLN,VS,VC⟩:=hrel
  by_cases hlt:k < dn
  ·obtain⟨g1,o1,x,eA,hx,x0,x1,x2,hpi⟩:=(I2.out.new VS.out.2.2).at_ hlt;subst eA;have hmx:=HMEM.out x (List.mem_of_getElem? hx);obtain⟨hx31,hx255⟩:=HP.out x hmx;have HX255:=jH hx255;have HPO:Hid (POwn w2 w.heap.size x.A x.c x.pl):=BO2.out.2 x hmx;have HNX:=jH (bkCh_next (bvs_at hx));have HPI:=jH hpi;obtain⟨xb,xq,xl,xA,xc⟩:=x
   dsimp only at *
   generalize hpn:xl.length=pn at *;have HPN:=jH hpn;clear hx hpi hpn hmx hx255;obtain⟨w3,hw3⟩:∃w3,w3=wr.alloc (.cells #[.int .i64 (xb:Nat),.int .u64 (xq:Nat),.slice xA pn xc] 82):=⟨_,rfl⟩
   have m3:New wr w3:=by rw[hw3];exact kR.alloc _
   have y2:w3.cell? ⟨wr.heap.size,2,none⟩=some (.slice xA pn xc):=by rw[hw3];exact (Blk.made wr 82 #[.int .i64 (xb:Nat),.int .u64 (xq:Nat),.slice xA pn xc]).cell 2
   have PI3:=jH (HPI.out.new m3);have VS3:=jH (VS.out.new m3);have HW3:=jH hw3;have HWR:Hid (New w2 w3):=VS.out.2.2.new m3;clear m3 hw3 HPI VS
   go_upto_region 9 with fail
   rw[←HW3.out];clear HW3 x0 x1 x2;go_wp2_with fail;generalize hwr:wr=wq at *;clear hwr
   go_loopw [8,38] (fun o i wr=>∃(j:Nat) (A':Option Addr) (c':Nat) (ac2:List CE) (n2:Nat),j≤pn∧i=.int .i64 j∧o=.slice A' n2 c'∧n2≤7905*k+255*j∧Hid (ac2.length=n2)∧Hid (FcS w w2 wr A' c' ac2)∧Hid (cts ac2=bkCh ((bvs dl).take k)++pgCh ((pvs xl).take j))) (fun _ i _=>pn - (intOf i).toNat)
   case atStart=>exact⟨0,A',c',acc,n',Nat.zero_le _,rfl,rfl,by omega,HLN,VS3,by rw[Hid,VC.out];simp[pgCh]⟩
   case round=>
    obtain⟨j,B',d',ac2,n2,hj,rfl,rfl,hn2,HL2,VT,VD⟩:=hrel;clear VS3
    by_cases hlj:j < pn
    ·have hPO:=HPO.out.new VT.out.2.2;obtain⟨g2,o2,y,eB,hy,y0,y1,y2',hcin⟩:=hPO.in_.at_ (i:=j) (by rw[HPN.out];exact hlj);subst eB;have hmy:=List.mem_of_getElem? hy;have hco:=hPO.2 y hmy;have hyl:=HX255.out y hmy;have HY:=jH (pgCh_next (pvs_at hy));have HCO:=jH hco;obtain⟨yp,yes,yA,yc,yd⟩:=y
     dsimp only at *
     generalize hyn:yes.length=yn at *;have HYN:=jH hyn;clear hy hmy hco hyn hcin hPO;obtain⟨w5,hw5⟩:∃w5,w5=wr.alloc (.cells #[.int .i64 (yp:Nat),.slice yA yn yc,.int .u64 (yd:Nat)] 47):=⟨_,rfl⟩
     have m5:New wr w5:=by rw[hw5];exact kR.alloc _
     have z1:w5.cell? ⟨wr.heap.size,1,none⟩=some (.slice yA yn yc):=by rw[hw5];exact (Blk.made wr 47 #[.int .i64 (yp:Nat),.slice yA yn yc,.int .u64 (yd:Nat)]).cell 1
     have VT5:=jH (VT.out.new m5);have CO5:=jH (HCO.out.new m5);have HW5:=jH hw5
     have RY:Hid (RowV w5 yA yn 6 (ces yes)):=by have:=CO5.out.in_.1;rwa [HYN.out] at this
     have W5:Hid (OwnV w5 105 6 w2.heap.size B' n2 d' (ces ac2)):=by have:=VT5.out.1;rwa [HL2.out] at this
     clear m5 hw5 VT HCO
     go_upto_region 12 with fail
     rw[←HW5.out];clear HW5 y0 y1 y2'
     have hb72:(n2+yn)*72≤140737488355328:=by omega
     have hz5:w2.heap.size≤w5.heap.size:=VT5.out.2.2.size
     go_wp2_with (at_builtin;refine wpList_append_changes rfl _ _ rfl w2.heap.size B' n2 d' (ces ac2) rfl W5.out yA yn yc (ces yes) rfl RY.out (ces_one yes) hb72 hz5 ?_)
     intro A6 c6 w6 O6 K6;have V6:Hid (FcS w w2 w6 A6 c6 (ac2++yes)):=VT5.out.more CO5.out.2 K6.out (by rw[HL2.out,HYN.out];exact O6.out)
     have L6:Hid ((ac2++yes).length=n2+yn):=by rw[Hid,List.length_append,HL2.out,HYN.out]
     have D6:Hid (cts (ac2++yes)=bkCh ((bvs dl).take k)++pgCh ((pvs xl).take (j+1))):=by
      rw[Hid,cts_append,VD.out,HY.out,List.append_assoc]
      rfl
     clear O6 K6 W5 RY CO5 VT5 HY VD HL2 HYN;go_wp2;go_roundw
     case rel=>exact⟨j+1,A6,c6,_,n2+yn,by omega,by go_num,rfl,by omega,L6,V6,D6⟩
     case measure=>simp[intOf];omega
    ·have hjn:j=pn:=by omega
     have HC:Hid (cts ac2=bkCh ((bvs dl).take (k+1))):=by
      rw[Hid,HNX.out,VD.out,hjn,List.take_of_length_le (l:=pvs xl) (by unfold pvs;rw[List.length_map,HPN.out];exact Nat.le_refl _)]
      rfl
     clear VD HNX;go_wp2;go_roundw
     case rel=>exact⟨k+1,B',d',ac2,n2,by omega,by go_num,rfl,by omega,HL2,VT,HC⟩
     case measure=>simp[intOf];omega
  ·have hkn:k=dn:=by omega
   have hco:=VS.out.own hsz;have hcin:=hco.in_;rw[HLN.out] at hcin;have hnone:=hco.none;rw[HLN.out] at hnone
   have hcc:Hid (cts acc=bkCh ((eraL s era).drop r)):=by
    have hv:(bvs dl).length=dn:=by unfold bvs;rw[List.length_map,HLD.out]
    rw[Hid,VC.out,List.take_of_length_le (by omega),HDL.out]
   have CA:=jH (apply_any none 0 0 [] A' n' c' acc wr (FIn.nil _ _) ⟨Nat.le_refl _,by unfold maxLen;omega⟩ hcin hnone (by omega) (by omega) (sort_all (by omega)));have NW:Hid (New w wr):=K2.out.new VS.out.2.2;clear hco hcin hnone VS VC;go_wp2_with fail;refine CA.out.mono ?_;rintro e w7 ⟨A7,c7,e7,rfl,he7,o7,k7⟩
   have E:Hid (FcsP w ef (.returned (.tuple #[.slice A7 e7.length c7,.int .i64 0])) w7):=by
    refine⟨A7,c7,e7,rfl,?_,⟨o7.1.mono NW.out.size,fun x hx=>⟨(o7.2 x hx).1.mono NW.out.size,(o7.2 x hx).2⟩⟩,NW.out.new k7⟩;rw[he7,HFF.out,hcc.out];exact if_pos rfl
   clear o7 k7 he7 CA;generalize e7.length=m7 at *;go_wp2;go_ret2;exact E.out
end
section
open Go.ChangeShapes Go.WideShapes Go.ChangeAt Go.RowKit
def NoBk (w:World) (v:Value) (era E:Int):Prop:=∀u,New w u→Calls Tryz.prog 22 #[v,.int .u32 era] u fun e u'=>e=.returned (.tuple #[.slice none 0 0,.int .i64 E])∧New u u'
theorem NoBk.new {w w':World} {v:Value} {era E:Int} (h:NoBk w v era E) (hk:New w w'):NoBk w' v era E:=fun u hu=>h u (hk.new hu)
theorem pScan_dead (Q:Nat→Prop) (g:Nat) (s:CSt) (w:World) (h:NChip Q w g s) (hd:s.dead=true):
  Calls Tryz.prog 55 #[.pointer (some ⟨g,0,none⟩)] w fun e w'=>e=.returned (.tuple #[.pointer none,.int .i64 10])∧New w w':=by
 have HA:Hid (readE s 0 0=10):=by show _=_;rw[ref00 s h.ok,hd];rfl
 have HC:=jH h;clear h hd;go_enter Tryz.func55,Tryz.ntmps55;go_wp2_with fail;refine (nRead_any _ _ _ 0 0 _ HC.out).mono ?_;rintro e w1 ⟨A1,c1,rfl,h1,h2⟩;have N1:=jH h2;rw[HA.out];clear h1 h2 HC HA;generalize (readL s 0 0).length=rl at *;go_wp2;go_ret2;exact⟨rfl,N1.out⟩
theorem noBk_none (v:Value) (era:Int) (w:World) (h:Hid (NoneAt w v)):NoBk w v era 1:=fun u hu=>by
 have N0:=jH (h.out.new hu);clear h hu;go_enter Tryz.func22,Tryz.ntmps22;go_wp2_with fail;refine (zScan _ _ N0).mono ?_;rintro e w' ⟨rfl,rfl⟩;go_wp2;go_ret2;exact⟨rfl,kR⟩
theorem noBk_dead (Q:Nat→Prop) (g:Nat) (s:CSt) (era:Int) (w:World) (h:NChip Q w g s) (hd:s.dead=true):NoBk w (.pointer (some ⟨g,0,none⟩)) era 10:=fun u hu=>by
 have CS:=jH (pScan_dead Q g s u (h.new hu) hd);clear h hu hd;go_enter Tryz.func22,Tryz.ntmps22;go_wp2_with fail;refine CS.out.mono ?_;rintro e w1 ⟨rfl,k1⟩;have K1:=jH k1;clear k1 CS;go_wp2;go_ret2;exact⟨rfl,K1.out⟩
theorem noBk_zero (Q:Nat→Prop) (g:Nat) (s:CSt) (w:World) (h:NChip Q w g s) (hal:s.dead=false) (h19:s.nb≤19):NoBk w (.pointer (some ⟨g,0,none⟩)) 0 2:=fun u hu=>by
 have CS:=jH (pScan_ok Q g s u (h.new hu) hal h19);clear h hu hal h19;go_enter Tryz.func22,Tryz.ntmps22;go_wp2_with fail;refine CS.out.mono ?_;rintro e w1 ⟨gp,gb,rfl,_,_,_,k1⟩;have K1:=jH k1;clear k1 CS;go_wp2;go_ret2;exact⟨rfl,K1.out⟩
theorem Blocks_no (v:Value) (era E:Int) (w:World) (h:NoBk w v era E) (hE:(E == 0)=false):
  Calls Tryz.prog 7 #[v,.int .u32 era] w fun e w'=>e=.returned (.tuple #[.slice none 0 0,.slice none 0 0,.int .i64 E])∧New w w':=by
 have CB:=jH (h w kR);clear h;go_enter Tryz.func7,Tryz.ntmps7;go_wp2_with fail;refine CB.out.mono ?_;rintro e w1 ⟨rfl,k1⟩;have K1:=jH k1;clear k1 CB;go_wp2;go_ret3;exact⟨rfl,K1.out⟩
theorem Facts_no (v:Value) (era E:Int) (w:World) (h:NoBk w v era E) (hE:(E == 0)=false):
  Calls Tryz.prog 8 #[v,.int .u32 era] w fun e w'=>e=.returned (.tuple #[.slice none 0 0,.int .i64 E])∧New w w':=by
 have CB:=jH (h w kR);clear h;go_enter Tryz.func8,Tryz.ntmps8;go_wp2_with fail;refine CB.out.mono ?_;rintro e w1 ⟨rfl,k1⟩;have K1:=jH k1;clear k1 CB;go_wp2;go_ret2;exact⟨rfl,K1.out⟩
theorem Pages_none (v:Value) (b:Int) (w:World) (h:Hid (NoneAt w v)):
  Calls Tryz.prog 14 #[v,.int .i64 b] w fun e w'=>e=.returned (.tuple #[.slice none 0 0,.int .i64 1])∧w=w':=by
 go_enter Tryz.func14,Tryz.ntmps14;go_wp2_with fail;refine (zRead v b 0 _ h).mono ?_;rintro e w' ⟨rfl,rfl⟩;go_wp2;go_ret2;exact⟨rfl,rfl⟩
theorem Pages_no (Q:Nat→Prop) (g:Nat) (s:CSt) (b:Int) (w:World) (h:NChip Q w g s) (hE:(readE s b 0 == 0)=false):
  Calls Tryz.prog 14 #[.pointer (some ⟨g,0,none⟩),.int .i64 b] w fun e w'=>e=.returned (.tuple #[.slice none 0 0,.int .i64 (readE s b 0)])∧New w w':=by
 have CR:=jH (nRead_any Q g s b 0 w h);clear h;generalize readE s b 0=re at *;go_enter Tryz.func14,Tryz.ntmps14;go_wp2_with fail;refine CR.out.mono ?_;rintro e w1 ⟨A1,c1,rfl,h1,h2⟩;have N1:=jH h2;clear h1 h2 CR;generalize (readL s b 0).length=rl at *;go_wp2;go_ret2;exact⟨rfl,N1.out⟩
def PgsP (w:World) (l:List PV) (e:Ending) (w':World):Prop:=∃A c pl,e=.returned (.tuple #[.slice A pl.length c,.int .i64 0])∧pvs pl=l∧POwn w' w.heap.size A c pl∧New w w'
theorem Pages_ok (Q:Nat→Prop) (g:Nat) (s:CSt) (b:Int) (w:World) (h:NChip Q w g s) (hE:readE s b 0=0):
  Calls Tryz.prog 14 #[.pointer (some ⟨g,0,none⟩),.int .i64 b] w (PgsP w (pgsU (fun q=>readL s b (q:Nat)) (s.np - 1))):=by
 have CR:=jH (nRead_any Q g s b 0 w h);rw[hE] at CR
 have CP:=fun u hu=>jH (pagesOf_any Q g s b u (h.new hu))
 clear h hE;generalize pgsU (fun q=>readL s b (q:Nat)) (s.np - 1)=L at *;go_enter Tryz.func14,Tryz.ntmps14;go_wp2_with fail;refine CR.out.mono ?_;rintro e w1 ⟨A1,c1,rfl,h1,h2⟩;have N1:=jH h2;have C1:=CP w1 h2;clear h1 h2 CR CP;generalize (readL s b 0).length=rl at *;go_wp2_with fail;refine C1.out.mono ?_;rintro e w2 ⟨A2,c2,pl,rfl,hv,o2,k2⟩;have E:Hid (PgsP w L (.returned (.tuple #[.slice A2 pl.length c2,.int .i64 0])) w2):=⟨A2,c2,pl,rfl,hv,o2.mono N1.out.size,N1.out.new k2⟩;clear hv o2 k2 C1;generalize pl.length=pn at *;go_wp2;go_ret2;exact E.out
end
section
open Go.ChangeShapes Go.WideShapes Go.ChangeAt Go.RowKit
def IIn (w:World) (A:Option Addr) (n:Nat) (l:List Nat):Prop:=
 l.length=n∧(0 < n→∃g o:Nat,A=some ⟨g,o,none⟩∧∀(j x:Nat),l[j]?=some x→w.cell? ⟨g,o+j,none⟩=some (.int .i64 (x:Nat)))
theorem IIn.at_ {w:World} {A:Option Addr} {n:Nat} {l:List Nat} {j:Nat} (h:IIn w A n l) (hj:j < n):
  ∃g o x,A=some ⟨g,o,none⟩∧l[j]?=some x∧w.cell? ⟨g,o+j,none⟩=some (.int .i64 (x:Nat)):=by
 obtain⟨hl,hc⟩:=h;obtain⟨g,o,e,hc⟩:=hc (by omega)
 have hk':j < l.length:=by omega
 exact⟨g,o,l[j],e,List.getElem?_eq_getElem hk',hc _ _ (List.getElem?_eq_getElem hk')⟩
theorem IOwn.ins {w:World} {B c:Nat} {A:Option Addr} {l:List Nat} (h:IOwn w B A c l):IIn w A l.length l:=by
 refine⟨rfl,fun h0=>?_⟩;obtain⟨_,h2⟩:=OwnV.row h;obtain⟨g,o,rfl,hat⟩:=h2 h0;refine⟨g,o,rfl,fun j x hx=>hat j _ ?_⟩;rw[List.getElem?_map,hx]
 rfl
theorem ints_eq (A B:Option Addr) (n c d:Nat) (l:List Nat) (w:World) (ha:IIn w A n l) (hb:IIn w B n l) (hn:n≤maxLen):
  Calls Tryz.prog 11 #[.slice A n c,.slice B n d] w (Quiet w true):=by
 unfold maxLen at hn;have Ha:=jH ha;have Hb:=jH hb;clear ha hb;go_enter Tryz.func11,Tryz.ntmps11;go_wp2
 go_loopw [5] (fun i wr=>∃j q:Nat,j≤n∧i=.int .i64 j∧wr=w.drewN q) (fun i _=>n - (intOf i).toNat)
 case atStart=>exact⟨0,0,Nat.zero_le _,rfl,rfl⟩
 case round=>
  obtain⟨j,q,hj,rfl,rfl⟩:=hrel
  by_cases hlt:j < n
  ·obtain⟨g,o,x,rfl,hx,hc⟩:=Ha.out.at_ hlt;obtain⟨g',o',y,rfl,hy,hc'⟩:=Hb.out.at_ hlt
   obtain rfl:x=y:=by rw[hx] at hy;exact Option.some.inj hy
   clear hx hy;go_wp2;go_quiet (fail);go_wp2;go_roundw
   case rel=>exact⟨j+1,_,by omega,by go_num,rfl⟩
   case measure=>simp[intOf];omega
  ·go_wp2;go_ret;exact⟨q,rfl,rfl⟩
end
end Go.Proofs.YtbiihjdjbknibaaGreat
