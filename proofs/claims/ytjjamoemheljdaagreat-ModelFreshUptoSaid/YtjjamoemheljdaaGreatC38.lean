/-
  Layer 7: contracts (Pm).
-/
import Derived.Test.YtjjamoemheljdaaGreatC13
namespace Go.Proofs.YtjjamoemheljdaaGreat
set_option maxRecDepth 100000
set_option maxHeartbeats 8000000
set_option linter.unusedSimpArgs false
set_option linter.unusedVariables false
section
open Go.RowKit
theorem rwith_any (p:Nat) (A:Option Addr) (n c B:Nat) (es:List NE) (dir j:Nat) (nm:ByteArray) (q:ND) (w:World) (h:TOwn w B A c es) (hB:B≤w.heap.size) (hn:es.length=n) (hm:n≤1000) (ho:OrdN (nds es)) (hq:ndI (nds es) dir=some q) (hs:OrdS q.ns) (hno:¬zbn nm q.ns) (hql:q.ns.length≤300):
  Calls Tryz.prog 39 #[.agg #[.int .i64 p,.slice A n c],.int .i64 dir,.string nm,.int .i64 j] w (RowP w p B A c (addE (nds es) dir nm j)):=by
 obtain⟨X,hX,hXq,hXm⟩:=zbg hq;have hqi:=(zaa hq).2
 have hpn:posI (nds es) dir < n:=by have:=(List.getElem?_eq_some_iff.1 hX).1;omega
 obtain⟨w1,hw1⟩:∃w1,w1=(w.alloc (.cells #[.int .i64 p,.slice A n c] 25)).alloc (.cells #[.int .i64 0,.slice none 0 0] 25):=⟨_,rfl⟩
 have n1:New w w1:=by rw[hw1];exact (kR.alloc _).alloc _
 have BT:Hid (∀u,New w1 u→u.cell? ⟨w.heap.size,0,none⟩=some (.int .i64 p)∧u.cell? ⟨w.heap.size,1,none⟩=some (.slice A n c)):=fun u hu=>by
  have:Blk w1 w.heap.size 25 [.int .i64 p,.slice A n c]:=by rw[hw1];exact (Blk.made w _ _).alloc _
  have:=this.kept hu id
  exact⟨this.cell 0,this.cell 1⟩
 have BR:Hid (Blk w1 (w.heap.size+1) 25 [.int .i64 0,.slice none 0 0]):=by
  have:=Blk.made (w.alloc (.cells #[.int .i64 p,.slice A n c] 25)) 25 #[.int .i64 0,.slice none 0 0]
  rw[World.size_alloc] at this;rw[hw1];exact this
 have H:=jH (h.new n1);have N1:=jH n1;have HW:=jH hw1;have hBw1:B≤w1.heap.size:=Nat.le_trans hB n1.size
 have CN:Hid (∀u,New w1 u→Calls Tryz.prog 25 #[.agg #[.int .i64 p,.slice A n c],.int .i64 dir] u (zaw u ((posI (nds es) dir:Nat):Int))):=fun u hu=>by
  have:=zam p A n c es dir u ((h.new n1).new hu).in_ hn (by omega)
  rwa [zaz hq] at this
 obtain⟨gn,on,X',eA,_⟩:=(h.new n1).in_.pos (i:=posI (nds es) dir) (by rw[hn];exact hpn)
 have ON:on=0:=by
  have:=h.1.2.2.2
  rcases this with ⟨e,_⟩|⟨g',sp,e,_⟩
  ·rw[e] at eA;cases eA
  ·rw[e] at eA;injection eA with eA;injection eA with _ e2;exact e2.symm
 subst ON;subst eA
 have XC:Hid (∀u,New w1 u→NmIn u X.A X.n.ns∧u.cell? ⟨gn,posI (nds es) dir*5+3,none⟩=some (.slice X.A X.n.ns.length X.c)):=fun u hu=>by
  obtain⟨a,_,_,_,b,_⟩:=(H.out.new hu).in_.get hX;exact⟨a.1,by rw[Nat.zero_add] at b;exact b⟩
 have HXE:=jH (And.intro hX hXq)
 have HE:Hid (∀y:ND,y={ X.n with ns:=zcm nm j X.n.ns }→(nds es).set (posI (nds es) dir) y=addE (nds es) dir nm j):=fun y hy=>by
  have:=upd_set ho (zbc hX) (fun n=>{ n with ns:=zcm nm j n.ns })
  rw[hy,←this,hXq,hqi]
  rfl
 rw[←hXq] at hs hno hql;have HS:=jH (And.intro hs hno);have LN:=jH hn
 have NE1:Hid (¬w.heap.size=gn):=fun e=>by
  have:Blk w1 w.heap.size 25 [.int .i64 p,.slice (some ⟨gn,0,none⟩) n c]:=by rw[HW.out];exact (Blk.made w _ _).alloc _
  exact this.at_.ne_of (H.out.1.at_ _ rfl).1 (by decide) e
 have NE2:Hid (¬w.heap.size+1=gn):=fun e=>BR.out.at_.ne_of (H.out.1.at_ _ rfl).1 (by decide) e
 have FZ:Hid (∀u,New w1 u→u.frozen? ⟨gn,posI (nds es) dir*5+3,none⟩=false):=fun u hu=>by
  rcases (H.out.new hu).1.2.2.2 with ⟨e,_⟩|⟨g',sp,e,_,hb,_⟩
  ·cases e
  ·injection e with e
   injection e with e _
   subst e;exact hb.free _
 have FI:Hid (∀(u:World) (A5:Option Addr) (k5 c5:Nat),OwnV u 65 2 w1.heap.size A5 k5 c5 (nms (zcm nm j X.n.ns))→(zcm nm j X.n.ns).length=k5→New w1 u→RowP w p B (some ⟨gn,0,none⟩) c (addE (nds es) dir nm j) (.returned (.agg #[.int .i64 p,.slice (some ⟨gn,0,none⟩) n c])) (((u.setCell ⟨gn,posI (nds es) dir*5+3,none⟩ (.slice A5 k5 c5)).setCell ⟨w.heap.size+1,0,none⟩ (.int .i64 p)).setCell ⟨w.heap.size+1,1,none⟩ (.slice (some ⟨gn,0,none⟩) n c)) ∧
   Blk (((u.setCell ⟨gn,posI (nds es) dir*5+3,none⟩ (.slice A5 k5 c5)).setCell ⟨w.heap.size+1,0,none⟩ (.int .i64 p)).setCell ⟨w.heap.size+1,1,none⟩ (.slice (some ⟨gn,0,none⟩) n c)) (w.heap.size+1) 25 [.int .i64 p,.slice (some ⟨gn,0,none⟩) n c]):=fun u A5 k5 c5 h1 h2 h3=>by
  have:=with_fin (p:=p) H.out hX hn n1 hBw1 (Nat.le_succ _) BR.out h1 h2 h3
  rwa [HE.out _ rfl] at this
 clear h n1 hw1 hq hX hXq hXm hs hno hn ho hB;generalize hpj:posI (nds es) dir=pj at *;obtain⟨⟨xi,xk,xl,xns,xb⟩,xA,xc,xB,xd⟩:=X;have XC:Hid (∀u,New w1 u→NmIn u xA xns∧u.cell? ⟨gn,pj*5+3,none⟩=some (.slice xA xns.length xc)):=XC;have HS:Hid (OrdS xns∧¬zbn nm xns):=HS;simp only at FI;have hql:xns.length≤300:=hql;generalize hnl:xns.length=nl at *;have HNL:=jH hnl;clear hnl;obtain⟨P,hP⟩:∃P,P=plcN nm xns:=⟨_,rfl⟩;have HP:=jH hP;clear hP;go_enter Tryz.func39,Tryz.ntmps39;go_wp2_with fail;rw[←HW.out];clear HW;obtain⟨gk,hgk⟩:∃gk,gk=w.heap.size:=⟨_,rfl⟩;rw[←hgk] at BT BR NE1 NE2 FI ⊢;have GK:=jH hgk;clear hgk
 refine (CN.out w1 kR).mono ?_;rintro e w2 ⟨rfl,k2⟩;have N2:=jH k2;clear k2 CN;go_wp2_with fail
 go_loopw [10,11,12] (fun tl td ti wr=>∃(t k':Nat) (A':Option Addr) (c':Nat),t≤nl∧k'≤t+1∧ti=.int .i64 t∧tl=.slice A' k' c'∧td=.bool (decide (P < t))∧Hid (OwnV wr 65 2 w1.heap.size A' k' c' (nms (wiA nm j xns t)))∧Hid ((wiA nm j xns t).length=k')∧Hid (New w1 wr)) (fun _ _ i _=>nl - (intOf i).toNat)
 case atStart=>
  refine⟨0,0,none,0,Nat.zero_le _,by omega,rfl,rfl,?_,?_,?_,N2⟩
  ·rw[decide_eq_false (by omega)]
  ·have:wiA nm j xns 0=[]:=by unfold wiA;rw[if_pos (Nat.zero_le _)];rfl
   rw[this];exact OwnV.nil _ _ _ _
  ·have:wiA nm j xns 0=[]:=by unfold wiA;rw[if_pos (Nat.zero_le _)];rfl
   rw[this];rfl
 case round=>
  obtain⟨t,k',A',c',ht,hk',rfl,rfl,rfl,VO,VL,VN⟩:=hrel;obtain⟨b0,b1⟩:=BT.out wr VN.out;obtain⟨_,x3⟩:=XC.out wr VN.out
  by_cases hlt:t < nl
  ·obtain⟨g2,o2,e,eA2,he⟩:=NmIn.pos (XC.out wr VN.out).1 (i:=t) (by rw[HNL.out];exact hlt);subst eA2;obtain⟨y0,y1⟩:=NmIn.get (XC.out wr VN.out).1 he;have hem:=List.mem_of_getElem? he
   have hne:e.1≠nm:=fun hh=>HS.out.2 ⟨e,hem,hh⟩
   have s1:(e.1.toList == nm.toList)=false:=by rw[bs_eq];exact decide_eq_false hne
   have HLT:Hid (cmpS e.1 nm < 0↔t < plcN nm xns):=plc_lt HS.out.1 he;have ST:Hid (wiB nm j xns t++[e]=wiA nm j xns (t+1)):=wiB_step he;have hwr:w1.heap.size≤wr.heap.size:=VN.out.size;obtain⟨wa,hwa⟩:∃wa,wa=wr.alloc (.cells #[.string e.1,.int .i64 e.2] 65):=⟨_,rfl⟩
   have KA:Hid (New wr wa):=by rw[hwa];exact kR.alloc _
   have BE:Hid (Blk wa wr.heap.size 65 [.string e.1,.int .i64 e.2]):=by rw[hwa];exact Blk.made wr _ _
   have HWA:=jH hwa
   have HAL:Hid (∀a,A'=some a→a.block < wr.heap.size):=fun a ha=>(VO.out.at_ a ha).1.lt
   clear hem hne he hwa
   have DN:Hid (decide (P < t+1)=decide (P≤t)):=by
    rw[Hid,Bool.eq_iff_iff,decide_eq_true_iff,decide_eq_true_iff];omega
   rcases Nat.lt_trichotomy t P with hc|hc|hc
   ·have d0:decide (P < t)=false:=decide_eq_false (by omega)
    have s2:Op.bytesLess e.1.toList nm.toList=true:=by rw[less_cmp];exact decide_eq_true (HLT.out.2 (by rw[←HP.out];exact hc))
    have d9:decide (P≤t)=false:=decide_eq_false (by omega);rw[d9] at DN;rw[d0]
    have VW:Hid (OwnV wr 65 2 w1.heap.size A' k' c' (nms (wiB nm j xns t))):=by have:=VO.out;rwa [wiA_same (by rw[←HP.out];omega)] at this
    have VL5:Hid ((wiB nm j xns t).length=k'):=by have:=VL.out;rwa [wiA_same (by rw[←HP.out];omega)] at this
    have VW5:=jH (VW.out.new KA.out);have NW5:Hid (New w1 wa):=VN.out.new KA.out;clear VW
    go_upto_if 54 with fail
    rw[←HWA.out];clear HWA;obtain⟨y2,y3⟩:=BE.out.p2
    have HRR:Hid (∀u:World,RowV (u.alloc (.cells #[.string e.1,.int .i64 e.2] 65)) (some ⟨u.heap.size,0,none⟩) 1 2 [.string e.1,.int .i64 e.2]):=fun u=>zbr (Blk.made u _ _) rfl
    have NA:Hid (New w1 (wa.alloc (.cells #[.string e.1,.int .i64 e.2] 65))):=NW5.out.alloc _;have VA:=jH (OwnV.new VW5.out (w':=wa.alloc (.cells #[.string e.1,.int .i64 e.2] 65)) (kR.alloc _))
    go_wp2_with (first
     | (at_builtin;refine zai zcf Tryz.underlying51 rfl (by omega) w1 _ rfl _ _ rfl NA.out w1.heap.size (Nat.le_refl _) NA.out.size A' k' c' _ rfl VA.out (some ⟨wa.heap.size,0,none⟩) 1 1 [.string e.1,.int .i64 e.2] rfl (HRR.out _) (nmc_one _ _) (by omega) (by omega) ?_)
     | fail)
    intro A8 c8 w8 O8 N8 K8
    have E1:Hid (OwnV w8 65 2 w1.heap.size A8 (k'+1) c8 (nms (wiA nm j xns (t+1)))):=by
     have h1:=O8.out;rw[Hid,←ST.out,nms_app];have h2:nms [e]=[Value.string e.1,.int .i64 e.2]:=rfl;rw[h2];exact h1
    have E2:Hid ((wiA nm j xns (t+1)).length=k'+1):=by rw[Hid,←ST.out,List.length_append,VL5.out];rfl
    have DD:decide (P < t+1)=false:=DN.out;clear O8 K8 VA NA HRR ST VO VL VL5 HLT y0 y1 y2 y3 b0 b1 x3 s1;go_wp2;go_roundw
    case rel=>exact⟨t+1,k'+1,A8,c8,by omega,by omega,by go_num,by go_num,by rw[DD],E1,E2,N8⟩
    case measure=>simp[intOf];omega
   ·have d0:decide (P < t)=false:=decide_eq_false (by omega);have d9:decide (P≤t)=true:=decide_eq_true (by omega);rw[d9] at DN;rw[d0]
    have s2:Op.bytesLess e.1.toList nm.toList=false:=by rw[less_cmp];exact decide_eq_false fun hh=>absurd (HLT.out.1 hh) (by rw[←HP.out];omega)
    have hk2:k'≤t:=by rw[←VL.out];unfold wiA;rw[if_pos (by rw[←HP.out];omega)];simp;omega
    have HC:=jH hc;clear hc
    have HRN:Hid (∀u:World,RowV (u.alloc (.cells #[.string nm,.int .i64 j] 65)) (some ⟨u.heap.size,0,none⟩) 1 2 [.string nm,.int .i64 j]):=fun u=>zbr (Blk.made u _ _) rfl
    have NA:Hid (New w1 (wa.alloc (.cells #[.string nm,.int .i64 j] 65))):=(VN.out.new KA.out).alloc _;have VA:=jH (OwnV.new (VO.out.new KA.out) (w':=wa.alloc (.cells #[.string nm,.int .i64 j] 65)) (kR.alloc _));have BE2:=jH (BE.out.alloc (.cells #[.string nm,.int .i64 j] 65))
    go_upto_if 44 with fail
    rw[←HWA.out];clear HWA
    go_wp2_with (first
     | (at_builtin;refine zai zcf Tryz.underlying51 rfl (by omega) w1 _ rfl _ _ rfl NA.out w1.heap.size (Nat.le_refl _) NA.out.size A' k' c' _ rfl VA.out (some ⟨wa.heap.size,0,none⟩) 1 1 [.string nm,.int .i64 j] rfl (HRN.out _) (nmc_one _ _) (by omega) (by omega) ?_)
     | fail)
    intro A5 c5 w5 O5 N5 K5
    have VL5:Hid ((wiB nm j xns t).length=k'+1):=by rw[Hid,←wiA_put (by rw[←HP.out];exact HC.out),List.length_append,VL.out];rfl
    have VW5:Hid (OwnV w5 65 2 w1.heap.size A5 (k'+1) c5 (nms (wiB nm j xns t))):=by
     have h1:=O5.out;rw[Hid,←wiA_put (by rw[←HP.out];exact HC.out),nms_app];have h2:nms [(nm,j)]=[Value.string nm,.int .i64 j]:=rfl;rw[h2];exact h1
    have BE5:=jH (BE2.out.kept K5.out fun ⟨a,ha,e2⟩=>by have:=HAL.out a ha;omega);clear O5 K5 VA NA HRN BE2;obtain⟨y2,y3⟩:=BE5.out.p2
    have HRR:Hid (∀u:World,RowV (u.alloc (.cells #[.string e.1,.int .i64 e.2] 65)) (some ⟨u.heap.size,0,none⟩) 1 2 [.string e.1,.int .i64 e.2]):=fun u=>zbr (Blk.made u _ _) rfl
    have NA:Hid (New w1 (w5.alloc (.cells #[.string e.1,.int .i64 e.2] 65))):=N5.out.alloc _;have VA:=jH (OwnV.new VW5.out (w':=w5.alloc (.cells #[.string e.1,.int .i64 e.2] 65)) (kR.alloc _))
    go_wp2_with (first
     | (at_builtin;refine zai zcf Tryz.underlying51 rfl (by omega) w1 _ rfl _ _ rfl NA.out w1.heap.size (Nat.le_refl _) NA.out.size A5 (k'+1) c5 _ rfl VA.out (some ⟨w5.heap.size,0,none⟩) 1 1 [.string e.1,.int .i64 e.2] rfl (HRR.out _) (nmc_one _ _) (by omega) (by omega) ?_)
     | fail)
    intro A8 c8 w8 O8 N8 K8
    have E1:Hid (OwnV w8 65 2 w1.heap.size A8 ((k'+1)+1) c8 (nms (wiA nm j xns (t+1)))):=by
     have h1:=O8.out;rw[Hid,←ST.out,nms_app];have h2:nms [e]=[Value.string e.1,.int .i64 e.2]:=rfl;rw[h2];exact h1
    have E2:Hid ((wiA nm j xns (t+1)).length=(k'+1)+1):=by rw[Hid,←ST.out,List.length_append,VL5.out];rfl
    have DD:decide (P < t+1)=true:=DN.out;clear O8 K8 VA NA HRR ST VO VL VL5 HLT y0 y1 y2 y3 b0 b1 x3 s1;go_wp2;go_roundw
    case rel=>exact⟨t+1,(k'+1)+1,A8,c8,by omega,by omega,by go_num,by go_num,by rw[DD],E1,E2,N8⟩
    case measure=>simp[intOf];omega
   ·have d0:decide (P < t)=true:=decide_eq_true (by omega);have d9:decide (P≤t)=true:=decide_eq_true (by omega);rw[d9] at DN;rw[d0]
    have VW:Hid (OwnV wr 65 2 w1.heap.size A' k' c' (nms (wiB nm j xns t))):=by have:=VO.out;rwa [wiA_same (by rw[←HP.out];omega)] at this
    have VL5:Hid ((wiB nm j xns t).length=k'):=by have:=VL.out;rwa [wiA_same (by rw[←HP.out];omega)] at this
    have VW5:=jH (VW.out.new KA.out);have NW5:Hid (New w1 wa):=VN.out.new KA.out;clear VW
    go_upto_if 54 with fail
    rw[←HWA.out];clear HWA;obtain⟨y2,y3⟩:=BE.out.p2
    have HRR:Hid (∀u:World,RowV (u.alloc (.cells #[.string e.1,.int .i64 e.2] 65)) (some ⟨u.heap.size,0,none⟩) 1 2 [.string e.1,.int .i64 e.2]):=fun u=>zbr (Blk.made u _ _) rfl
    have NA:Hid (New w1 (wa.alloc (.cells #[.string e.1,.int .i64 e.2] 65))):=NW5.out.alloc _;have VA:=jH (OwnV.new VW5.out (w':=wa.alloc (.cells #[.string e.1,.int .i64 e.2] 65)) (kR.alloc _))
    go_wp2_with (first
     | (at_builtin;refine zai zcf Tryz.underlying51 rfl (by omega) w1 _ rfl _ _ rfl NA.out w1.heap.size (Nat.le_refl _) NA.out.size A' k' c' _ rfl VA.out (some ⟨wa.heap.size,0,none⟩) 1 1 [.string e.1,.int .i64 e.2] rfl (HRR.out _) (nmc_one _ _) (by omega) (by omega) ?_)
     | fail)
    intro A8 c8 w8 O8 N8 K8
    have E1:Hid (OwnV w8 65 2 w1.heap.size A8 (k'+1) c8 (nms (wiA nm j xns (t+1)))):=by
     have h1:=O8.out;rw[Hid,←ST.out,nms_app];have h2:nms [e]=[Value.string e.1,.int .i64 e.2]:=rfl;rw[h2];exact h1
    have E2:Hid ((wiA nm j xns (t+1)).length=k'+1):=by rw[Hid,←ST.out,List.length_append,VL5.out];rfl
    have DD:decide (P < t+1)=true:=DN.out;clear O8 K8 VA NA HRR ST VO VL VL5 HLT y0 y1 y2 y3 b0 b1 x3 s1;go_wp2;go_roundw
    case rel=>exact⟨t+1,k'+1,A8,c8,by omega,by omega,by go_num,by go_num,by rw[DD],E1,E2,N8⟩
    case measure=>simp[intOf];omega
  ·obtain rfl:t=nl:=by omega
   rcases Nat.lt_or_ge P t with hc|hc
   ·have d0:decide (P < t)=true:=decide_eq_true hc;have FIN:=jH (FI.out wr A' k' c' (by have:=VO.out;rw[←HNL.out,wi_done (by rw[←HP.out,HNL.out];exact hc)] at this;exact this) (by have:=VL.out;rw[←HNL.out,wi_done (by rw[←HP.out,HNL.out];exact hc)] at this;exact this) VN.out);rw[d0];clear VO VL hc b0 b1 x3;have BRZ:=BR.out.kept VN.out id;obtain⟨f0,f1⟩:=BRZ.f2;obtain⟨r0,r1⟩:=BRZ.p2;obtain⟨b0,b1⟩:=BT.out wr VN.out;have x3:=(XC.out wr VN.out).2;have f3:wr.frozen? ⟨gn,pj*5+3,none⟩=false:=FZ.out wr VN.out;have NEQ:¬gk=gn:=NE1.out;have NEQ2:¬gk+1=gn:=NE2.out
    have NEQ3:¬gn=gk:=fun e=>NEQ e.symm
    have NEQ4:¬gn=gk+1:=fun e=>NEQ2 e.symm
    clear BRZ;go_wp2_with fail;obtain⟨w9,hw9⟩:∃w9,w9=((wr.setCell ⟨gn,pj*5+3,none⟩ (.slice A' k' c')).setCell ⟨gk+1,0,none⟩ (.int .i64 p)).setCell ⟨gk+1,1,none⟩ (.slice (some ⟨gn,0,none⟩) n c):=⟨_,rfl⟩;rw[←hw9];rw[←hw9] at FIN;obtain⟨d0,d1⟩:=FIN.out.2.p2;refine bodyPost_ret (by simp[results,Tryz.results39,go_sem,d0,d1];try rfl) rfl ?_;exact FIN.out.1
   ·have d0:decide (P < t)=false:=decide_eq_false (by omega)
    have HPE:Hid (plcN nm xns=xns.length):=by have:=plc_le nm xns;rw[Hid,HNL.out,←HP.out];rw[HNL.out,←HP.out] at this;omega
    have HRN:Hid (∀u:World,RowV (u.alloc (.cells #[.string nm,.int .i64 j] 65)) (some ⟨u.heap.size,0,none⟩) 1 2 [.string nm,.int .i64 j]):=fun u=>zbr (Blk.made u _ _) rfl
    have NA:Hid (New w1 (wr.alloc (.cells #[.string nm,.int .i64 j] 65))):=VN.out.alloc _;have VA:=jH (OwnV.new VO.out (w':=wr.alloc (.cells #[.string nm,.int .i64 j] 65)) (kR.alloc _));rw[d0];clear hc b0 b1 x3;obtain⟨b0,b1⟩:=BT.out wr VN.out;have x3:=(XC.out wr VN.out).2
    go_wp2_with (first
     | (at_builtin;refine zai zcf Tryz.underlying51 rfl (by omega) w1 _ rfl _ _ rfl NA.out w1.heap.size (Nat.le_refl _) NA.out.size A' k' c' _ rfl VA.out (some ⟨wr.heap.size,0,none⟩) 1 1 [.string nm,.int .i64 j] rfl (HRN.out _) (nmc_one _ _) (by omega) (by omega) ?_)
     | fail)
    intro A5 c5 w5 O5 N5 K5
    have FIN:=jH (FI.out w5 A5 (k'+1) c5 (by
      have h1:=O5.out;rw[←wi_not HPE.out,nms_app,HNL.out];have h2:nms [(nm,j)]=[Value.string nm,.int .i64 j]:=rfl
      rw[h2];exact h1) (by rw[←wi_not HPE.out,List.length_append,HNL.out,VL.out];rfl) N5.out)
    clear O5 K5 VA NA HRN VO VL b0 b1 x3;have BRZ:=BR.out.kept N5.out id;obtain⟨f0,f1⟩:=BRZ.f2;obtain⟨r0,r1⟩:=BRZ.p2;obtain⟨b0,b1⟩:=BT.out w5 N5.out;have x3:=(XC.out w5 N5.out).2;have f3:w5.frozen? ⟨gn,pj*5+3,none⟩=false:=FZ.out w5 N5.out;have NEQ:¬gk=gn:=NE1.out;have NEQ2:¬gk+1=gn:=NE2.out
    have NEQ3:¬gn=gk:=fun e=>NEQ e.symm
    have NEQ4:¬gn=gk+1:=fun e=>NEQ2 e.symm
    clear BRZ;go_wp2_with fail;obtain⟨w9,hw9⟩:∃w9,w9=((w5.setCell ⟨gn,pj*5+3,none⟩ (.slice A5 (k'+1) c5)).setCell ⟨gk+1,0,none⟩ (.int .i64 p)).setCell ⟨gk+1,1,none⟩ (.slice (some ⟨gn,0,none⟩) n c):=⟨_,rfl⟩;rw[←hw9];rw[←hw9] at FIN;obtain⟨d0,d1⟩:=FIN.out.2.p2;refine bodyPost_ret (by simp[results,Tryz.results39,go_sem,d0,d1];try rfl) rfl ?_;exact FIN.out.1
end
end Go.Proofs.YtjjamoemheljdaaGreat
