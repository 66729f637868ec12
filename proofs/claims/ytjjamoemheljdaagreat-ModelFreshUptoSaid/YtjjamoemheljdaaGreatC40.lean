/-
  Layer 7: contracts (Po Pp).
-/
import Derived.Test.YtjjamoemheljdaaGreatC14
import Derived.Test.YtjjamoemheljdaaGreatC38
namespace Go.Proofs.YtjjamoemheljdaaGreat
set_option maxRecDepth 100000
set_option maxHeartbeats 8000000
set_option linter.unusedSimpArgs false
set_option linter.unusedVariables false
section
open Go.RowKit
def lessL (kp:Bool) (v:Nat) (L:List ND):List ND:=match kp with
 | true=>L
 | false=>lsN v L
theorem rless_any (p:Nat) (A:Option Addr) (n c B:Nat) (es:List NE) (dir:Nat) (nm:ByteArray) (kp:Bool) (q:ND) (w:World) (h:TOwn w B A c es) (hB:B≤w.heap.size) (hn:es.length=n) (hm:n≤1000) (ho:OrdN (nds es)) (hq:ndI (nds es) dir=some q) (hs:OrdS q.ns) (hql:q.ns.length≤300) (hl1:∀m∈nds es,1≤m.l∧m.l≤1000000):
  Calls Tryz.prog 38 #[.agg #[.int .i64 p,.slice A n c],.int .i64 dir,.string nm,.bool kp] w (RowQ w p B A (lessL kp (entF q.ns nm) (delE (nds es) dir nm))):=by
 obtain⟨X,hX,hXq,hXm⟩:=zbg hq;have hqi:=(zaa hq).2
 have hpn:posI (nds es) dir < n:=by have:=(List.getElem?_eq_some_iff.1 hX).1;omega
 obtain⟨w1,hw1⟩:∃w1,w1=(w.alloc (.cells #[.int .i64 p,.slice A n c] 25)).alloc (.cells #[.int .i64 0,.slice none 0 0] 25):=⟨_,rfl⟩
 have n1:New w w1:=by rw[hw1];exact (kR.alloc _).alloc _
 have BT:Hid (∀u,New w1 u→u.cell? ⟨w.heap.size,0,none⟩=some (.int .i64 p)∧u.cell? ⟨w.heap.size,1,none⟩=some (.slice A n c)):=fun u hu=>by
  have:Blk w1 w.heap.size 25 [.int .i64 p,.slice A n c]:=by rw[hw1];exact (Blk.made w _ _).alloc _
  have:=this.kept hu id
  exact⟨this.cell 0,this.cell 1⟩
 have BR:Hid (Blk w1 (w.heap.size+1) 25 [.int .i64 0,.slice none 0 0]):=by
  have:=Blk.made (w.alloc (.cells #[.int .i64 p,.slice A n c] 25)) 25 #[.int .i64 0,.slice none 0 0]
  rw[World.size_alloc] at this;rw[hw1];exact this
 have BKB:Hid (Blk w1 w.heap.size 25 [.int .i64 p,.slice A n c]):=by rw[hw1];exact (Blk.made w _ _).alloc _
 have H:=jH (h.new n1);have N1:=jH n1;have HW:=jH hw1;have hBw1:B≤w1.heap.size:=Nat.le_trans hB n1.size
 have CN:Hid (∀u,New w1 u→Calls Tryz.prog 25 #[.agg #[.int .i64 p,.slice A n c],.int .i64 dir] u (zaw u ((posI (nds es) dir:Nat):Int))):=fun u hu=>by
  have:=zam p A n c es dir u ((h.new n1).new hu).in_ hn (by omega)
  rwa [zaz hq] at this
 obtain⟨gn,on,X',eA,_⟩:=(h.new n1).in_.pos (i:=posI (nds es) dir) (by rw[hn];exact hpn)
 have ON:on=0:=by
  have:=h.1.2.2.2
  rcases this with ⟨e,_⟩|⟨g',sp,e,_⟩
  ·rw[e] at eA;cases eA
  ·rw[e] at eA;injection eA with eA;injection eA with _ e2;exact e2.symm
 subst ON;subst eA
 have XC:Hid (∀u,New w1 u→NmIn u X.A X.n.ns∧u.cell? ⟨gn,posI (nds es) dir*5+3,none⟩=some (.slice X.A X.n.ns.length X.c)):=fun u hu=>by
  obtain⟨a,_,_,_,b,_⟩:=(H.out.new hu).in_.get hX;exact⟨a.1,by rw[Nat.zero_add] at b;exact b⟩
 have HXE:=jH (And.intro hX hXq)
 have HE:Hid (∀y:ND,y={ X.n with ns:=zaq nm X.n.ns }→(nds es).set (posI (nds es) dir) y=delE (nds es) dir nm):=fun y hy=>by
  have:=upd_set ho (zbc hX) (fun n=>{ n with ns:=zaq nm n.ns })
  rw[hy,←this,hXq,hqi]
  rfl
 rw[←hXq] at hs hql ⊢;have HS:=jH hs;have LN:=jH hn
 have NE1:Hid (¬w.heap.size=gn):=fun e=>by
  have:Blk w1 w.heap.size 25 [.int .i64 p,.slice (some ⟨gn,0,none⟩) n c]:=by rw[HW.out];exact (Blk.made w _ _).alloc _
  exact this.at_.ne_of (H.out.1.at_ _ rfl).1 (by decide) e
 have NE2:Hid (¬w.heap.size+1=gn):=fun e=>BR.out.at_.ne_of (H.out.1.at_ _ rfl).1 (by decide) e
 have FZ:Hid (∀u,New w1 u→u.frozen? ⟨gn,posI (nds es) dir*5+3,none⟩=false):=fun u hu=>by
  rcases (H.out.new hu).1.2.2.2 with ⟨e,_⟩|⟨g',sp,e,_,hb,_⟩
  ·cases e
  ·injection e with e
   injection e with e _
   subst e;exact hb.free _
 have FI:Hid (∀(u:World) (A5:Option Addr) (k5 c5:Nat),OwnV u 65 2 w1.heap.size A5 k5 c5 (nms (zaq nm X.n.ns))→(zaq nm X.n.ns).length=k5→New w1 u→RowP w p B (some ⟨gn,0,none⟩) c (delE (nds es) dir nm) (.returned (.agg #[.int .i64 p,.slice (some ⟨gn,0,none⟩) n c])) (((u.setCell ⟨gn,posI (nds es) dir*5+3,none⟩ (.slice A5 k5 c5)).setCell ⟨w.heap.size+1,0,none⟩ (.int .i64 p)).setCell ⟨w.heap.size+1,1,none⟩ (.slice (some ⟨gn,0,none⟩) n c)) ∧
   Blk (((u.setCell ⟨gn,posI (nds es) dir*5+3,none⟩ (.slice A5 k5 c5)).setCell ⟨w.heap.size+1,0,none⟩ (.int .i64 p)).setCell ⟨w.heap.size+1,1,none⟩ (.slice (some ⟨gn,0,none⟩) n c)) (w.heap.size+1) 25 [.int .i64 p,.slice (some ⟨gn,0,none⟩) n c]):=fun u A5 k5 c5 h1 h2 h3=>by
  have:=with_fin (p:=p) H.out hX hn n1 hBw1 (Nat.le_succ _) BR.out h1 h2 h3
  rwa [HE.out _ rfl] at this
 have HL1:Hid (∀m∈delE (nds es) dir nm,1≤m.l):=fun m hm=>by
  rcases zap.1 hm with ⟨x,hx,_,rfl⟩|⟨hx,_⟩
  ·exact (hl1 x hx).1
  ·exact (hl1 m hx).1
 have HL6:Hid (∀m∈delE (nds es) dir nm,m.l≤1000000):=fun m hm=>by
  rcases zap.1 hm with ⟨x,hx,_,rfl⟩|⟨hx,_⟩
  ·exact (hl1 x hx).2
  ·exact (hl1 m hx).2
 have FT:Hid (∀(u:World) (A5:Option Addr) (k5 c5:Nat),OwnV u 65 2 w1.heap.size A5 k5 c5 (nms (zaq nm X.n.ns))→(zaq nm X.n.ns).length=k5→New w1 u→∃es1,nds es1=delE (nds es) dir nm∧TOwn (u.setCell ⟨gn,posI (nds es) dir*5+3,none⟩ (.slice A5 k5 c5)) B (some ⟨gn,0,none⟩) c es1):=fun u A5 k5 c5 h1 h2 h3=>
  ⟨_,by rw[nds_set];exact HE.out _ rfl,TOwn.names H.out hX hBw1 h1 h2 h3⟩
 clear h n1 hw1 hq hX hXq hXm hs hn ho hB hl1;generalize hpj:posI (nds es) dir=pj at *;obtain⟨⟨xi,xk,xl,xns,xb⟩,xA,xc,xB,xd⟩:=X;have XC:Hid (∀u,New w1 u→NmIn u xA xns∧u.cell? ⟨gn,pj*5+3,none⟩=some (.slice xA xns.length xc)):=XC;have HS:Hid (OrdS xns):=HS;simp only at FI FT;have hql:xns.length≤300:=hql;generalize hnl:xns.length=nl at *;have HNL:=jH hnl;clear hnl;go_enter Tryz.func38,Tryz.ntmps38;go_wp2_with fail;rw[←HW.out];clear HW;obtain⟨gk,hgk⟩:∃gk,gk=w.heap.size:=⟨_,rfl⟩;rw[←hgk] at BT BR BKB NE1 NE2 FI ⊢;have GK:=jH hgk;clear hgk;refine (CN.out w1 kR).mono ?_;rintro e w2 ⟨rfl,k2⟩;have N2:=jH k2
 clear k2 CN;go_wp2_with fail
 go_loopw [10,11,12] (fun tl tv ti wr=>∃(t k':Nat) (A':Option Addr) (c':Nat),t≤nl∧k'≤t∧ti=.int .i64 t∧tl=.slice A' k' c'∧tv=.int .i64 (entF (xns.take t) nm:Nat)∧Hid (OwnV wr 65 2 w1.heap.size A' k' c' (nms (zaq nm (xns.take t))))∧Hid ((zaq nm (xns.take t)).length=k')∧Hid (New w1 wr)) (fun _ _ i _=>nl - (intOf i).toNat)
 case atStart=>exact⟨0,0,none,0,Nat.zero_le _,Nat.le_refl _,rfl,rfl,rfl,OwnV.nil _ _ _ _,rfl,N2⟩
 case round=>
  obtain⟨t,k',A',c',ht,hk',rfl,rfl,rfl,VO,VL,VN⟩:=hrel;obtain⟨b0,b1⟩:=BT.out wr VN.out;obtain⟨_,x3⟩:=XC.out wr VN.out
  by_cases hlt:t < nl
  ·obtain⟨g2,o2,e,eA2,he⟩:=NmIn.pos (XC.out wr VN.out).1 (i:=t) (by rw[HNL.out];exact hlt);subst eA2;obtain⟨y0,y1⟩:=NmIn.get (XC.out wr VN.out).1 he;have s1:=bs_eq e.1 nm;have DT:=jH (del_take_eq (nm:=nm) he);have ET:Hid (entF (xns.take (t+1)) nm=if e.1=nm then e.2 else entF (xns.take t) nm):=entF_take HS.out he;clear he
   by_cases hen:e.1=nm
   ·rw[decide_eq_true hen] at s1
    have E1:Hid (OwnV wr 65 2 w1.heap.size A' k' c' (nms (zaq nm (xns.take (t+1))))):=by rw[DT.out,if_pos hen];exact VO.out
    have E2:Hid ((zaq nm (xns.take (t+1))).length=k'):=by rw[DT.out,if_pos hen];exact VL.out
    have E3:Hid (entF (xns.take (t+1)) nm=e.2):=by rw[Hid,ET.out,if_pos hen]
    have E4:Hid (OwnV (wr.alloc (.cells #[.string e.1,.int .i64 e.2] 65)) 65 2 w1.heap.size A' k' c' (nms (zaq nm (xns.take (t+1))))):=E1.out.new (kR.alloc _);have E5:Hid (New w1 (wr.alloc (.cells #[.string e.1,.int .i64 e.2] 65))):=VN.out.alloc _;clear hen DT ET VO VL E1;go_wp2_with fail;go_roundw
    case rel=>exact⟨t+1,k',A',c',by omega,by omega,by go_num,rfl,by rw[E3.out],E4,E2,E5⟩
    case measure=>simp[intOf];omega
   ·rw[decide_eq_false hen] at s1
    have DT2:Hid (zaq nm (xns.take (t+1))=zaq nm (xns.take t)++[e]):=by rw[Hid,DT.out,if_neg hen]
    have E3:Hid (entF (xns.take (t+1)) nm=entF (xns.take t) nm):=by rw[Hid,ET.out,if_neg hen]
    obtain⟨wa,hwa⟩:∃wa,wa=wr.alloc (.cells #[.string e.1,.int .i64 e.2] 65):=⟨_,rfl⟩
    have KA:Hid (New wr wa):=by rw[hwa];exact kR.alloc _
    have BE:Hid (Blk wa wr.heap.size 65 [.string e.1,.int .i64 e.2]):=by rw[hwa];exact Blk.made wr _ _
    have HWA:=jH hwa;obtain⟨y2,y3⟩:=BE.out.p2
    have HRR:Hid (∀u:World,RowV (u.alloc (.cells #[.string e.1,.int .i64 e.2] 65)) (some ⟨u.heap.size,0,none⟩) 1 2 [.string e.1,.int .i64 e.2]):=fun u=>zbr (Blk.made u _ _) rfl
    have NA:Hid (New w1 (wa.alloc (.cells #[.string e.1,.int .i64 e.2] 65))):=(VN.out.new KA.out).alloc _;have VA:=jH (OwnV.new (VO.out.new KA.out) (w':=wa.alloc (.cells #[.string e.1,.int .i64 e.2] 65)) (kR.alloc _));clear hen DT ET hwa
    go_upto_if 43 with fail
    rw[←HWA.out];clear HWA y0 y1
    go_wp2_with (first
     | (at_builtin;refine zai zcf Tryz.underlying51 rfl (by omega) w1 _ rfl _ _ rfl NA.out w1.heap.size (Nat.le_refl _) NA.out.size A' k' c' _ rfl VA.out (some ⟨wa.heap.size,0,none⟩) 1 1 [.string e.1,.int .i64 e.2] rfl (HRR.out _) (nmc_one _ _) (by omega) (by omega) ?_)
     | fail)
    intro A8 c8 w8 O8 N8 K8
    have E1:Hid (OwnV w8 65 2 w1.heap.size A8 (k'+1) c8 (nms (zaq nm (xns.take (t+1))))):=by
     have h1:=O8.out;rw[Hid,DT2.out,nms_app];have h2:nms [e]=[Value.string e.1,.int .i64 e.2]:=rfl;rw[h2];exact h1
    have E2:Hid ((zaq nm (xns.take (t+1))).length=k'+1):=by rw[Hid,DT2.out,List.length_append,VL.out];rfl
    clear O8 K8 VA NA HRR VO VL DT2 b0 b1 x3 s1 y2 y3;go_wp2;go_roundw
    case rel=>exact⟨t+1,k'+1,A8,c8,by omega,by omega,by go_num,by go_num,by rw[E3.out],E1,E2,N8⟩
    case measure=>simp[intOf];omega
  ·obtain rfl:t=nl:=by omega
   have VO2:Hid (OwnV wr 65 2 w1.heap.size A' k' c' (nms (zaq nm xns))):=by have:=VO.out;rwa [List.take_of_length_le (by rw[HNL.out];exact Nat.le_refl _)] at this
   have VL2:Hid ((zaq nm xns).length=k'):=by have:=VL.out;rwa [List.take_of_length_le (by rw[HNL.out];exact Nat.le_refl _)] at this
   have EV:Hid (entF (xns.take t) nm=entF xns nm):=by rw[Hid,List.take_of_length_le (by rw[HNL.out];exact Nat.le_refl _)]
   rw[EV.out];generalize entF xns nm=v at *;have f3:wr.frozen? ⟨gn,pj*5+3,none⟩=false:=FZ.out wr VN.out;have NEQ:¬gk=gn:=NE1.out;have NEQ2:¬gk+1=gn:=NE2.out
   have NEQ3:¬gn=gk:=fun e=>NEQ e.symm
   have NEQ4:¬gn=gk+1:=fun e=>NEQ2 e.symm
   clear VO VL EV
   cases kp with
   | true=>
    have BRZ:=BR.out.kept VN.out id;obtain⟨f0,f1⟩:=BRZ.f2;obtain⟨r0,r1⟩:=BRZ.p2;have FIN:=jH (FI.out wr A' k' c' VO2.out VL2.out VN.out);clear BRZ;go_wp2_with fail;obtain⟨w9,hw9⟩:∃w9,w9=((wr.setCell ⟨gn,pj*5+3,none⟩ (.slice A' k' c')).setCell ⟨gk+1,0,none⟩ (.int .i64 p)).setCell ⟨gk+1,1,none⟩ (.slice (some ⟨gn,0,none⟩) n c):=⟨_,rfl⟩;rw[←hw9];rw[←hw9] at FIN;obtain⟨d0,d1⟩:=FIN.out.2.p2;refine bodyPost_ret (by simp[results,Tryz.results38,go_sem,d0,d1];try rfl) rfl ?_;exact FIN.out.1.q
   | false=>
    obtain⟨es1,hes1,T1⟩:=FT.out wr A' k' c' VO2.out VL2.out VN.out;obtain⟨u0,hu0⟩:∃u0,u0=wr.setCell ⟨gn,pj*5+3,none⟩ (.slice A' k' c'):=⟨_,rfl⟩;rw[←hu0] at T1
    have KU:Hid (Kept (·=gn) wr u0):=by rw[hu0];exact Kept.set1 _ _ _ _
    have BT2:Hid (∀u,New u0 u→u.cell? ⟨gk,0,none⟩=some (.int .i64 p)∧u.cell? ⟨gk,1,none⟩=some (.slice (some ⟨gn,0,none⟩) n c)):=fun u hu=>
     ⟨hu.cell (KU.out.cell (BT.out wr VN.out).1 NEQ) id,hu.cell (KU.out.cell (BT.out wr VN.out).2 NEQ) id⟩
    have BR2:Hid (Blk u0 (gk+1) 25 [.int .i64 0,.slice none 0 0]):=(BR.out.kept VN.out id).kept KU.out NEQ2
    have KWU:Hid (Kept (zak (some ⟨gn,0,none⟩)) w u0):=((N1.out.new VN.out).mono fun _ _ f=>f.elim).trans (S':=(·=gn)) KU.out fun _ _ hh=>⟨_,rfl,hh.symm⟩
    have HE1:=jH hes1;have T1:=jH T1
    have BU:Hid (B≤u0.heap.size):=by have:=VN.out.size;have:=KU.out.size;rw[Hid];omega
    have L1:Hid (es1.length=n):=by
     have:=congrArg List.length hes1
     rwa [zab,delE,zcv,zab,LN.out] at this
    have HU0:=jH hu0;have KGB:Hid (gk < u0.heap.size∧gk+1 < u0.heap.size):=⟨World.block_lt_of_cell? u0 _ (BT2.out u0 kR).1,BR2.out.lt⟩;have BK2:Hid (Blk u0 gk 25 [.int .i64 p,.slice (some ⟨gn,0,none⟩) n c]):=(BKB.out.kept VN.out id).kept KU.out NEQ;clear hes1 hu0 FI FT;go_wp2_with fail;rw[←HU0.out];clear HU0 b0 b1 x3 f3 VO2 VL2
    go_loopw [14,15] (fun tl ti wx=>∃(t2 k2:Nat) (A2:Option Addr) (c2:Nat) (es2:List NE),t2≤n∧k2≤t2∧ti=.int .i64 t2∧tl=.slice A2 k2 c2∧Hid (OwnV wx 53 5 u0.heap.size A2 k2 c2 (nes es2))∧Hid (∀e∈es2,NOwn wx B e)∧Hid (nds es2=lsN v ((nds es1).take t2))∧Hid (es2.length=k2)∧Hid (New u0 wx)) (fun _ i _=>n - (intOf i).toNat)
    case atStart=>exact⟨0,0,none,0,[],Nat.zero_le _,Nat.le_refl _,rfl,rfl,OwnV.nil _ _ _ _,(fun e he=>by cases he),rfl,rfl,kR⟩
    case round=>
     obtain⟨t2,k2,A2,c2,es2,ht2,hk2,rfl,rfl,VA,EA,EN,EL,NU⟩:=hrel;clear VN;obtain⟨b0,b1⟩:=BT2.out wr NU.out
     by_cases hlt2:t2 < n
     ·obtain⟨x,hx⟩:∃x,es1[t2]?=some x:=⟨_,List.getElem?_eq_getElem (by rw[L1.out];exact hlt2)⟩;have XM:Hid (x∈es1):=List.mem_of_getElem? hx
      have LS:Hid (lsN v ((nds es1).take (t2+1))=lsN v ((nds es1).take t2)++(if 0 < (if x.n.i=v then x.n.l - 1 else x.n.l) then [if x.n.i=v then { x.n with l:=x.n.l - 1 } else x.n] else [])):=by
       rw[Hid,List.take_add_one,zbc hx,Option.toList_some,lsN_app]
      obtain⟨_,x0,x1,x2,x3,x4⟩:=(T1.out.new NU.out).in_.get hx;rw[Nat.zero_add] at x0 x1 x2 x3 x4;have hxl:1≤x.n.l:=HL1.out x.n (by rw[←HE1.out];exact zay XM.out);have hxl6:x.n.l≤1000000:=HL6.out x.n (by rw[←HE1.out];exact zay XM.out);obtain⟨⟨xi,xk,xl,xns2,xb⟩,xA,xc,xB,xd⟩:=x;have hxl:1≤xl:=hxl;have hxl6:xl≤1000000:=hxl6;have LS:Hid (lsN v ((nds es1).take (t2+1))=lsN v ((nds es1).take t2)++(if 0 < (if xi=v then xl - 1 else xl) then [if xi=v then ⟨xi,xk,xl - 1,xns2,xb⟩ else ⟨xi,xk,xl,xns2,xb⟩] else [])):=LS;obtain⟨wa,hwa⟩:∃wa,wa=wr.alloc (.cells #[.int .i64 xi,.int .u8 xk,.int .i64 xl,.slice xA xns2.length xc,.slice xB xb.length xd] 53):=⟨_,rfl⟩
      have KA:Hid (New wr wa):=by rw[hwa];exact kR.alloc _
      have BE:Hid (Blk wa wr.heap.size 53 [.int .i64 xi,.int .u8 xk,.int .i64 xl,.slice xA xns2.length xc,.slice xB xb.length xd]):=by rw[hwa];exact Blk.made wr _ _
      have HWA:=jH hwa;have hgu:u0.heap.size≤wr.heap.size:=NU.out.size
      have HAL:Hid (∀a,A2=some a→a.block < wr.heap.size):=fun a ha=>(VA.out.at_ a ha).1.lt
      simp only at x0 x1 x2 x3 x4;clear hx hwa;obtain⟨z0,z1,z2,z3,z4⟩:=BE.out.p5;have f2:=BE.out.free 2;have VW:=jH (VA.out.new KA.out)
      have EW:Hid (∀e∈es2,NOwn wa B e):=fun e he=>(EA.out e he).new KA.out
      have NW:Hid (New u0 wa):=NU.out.new KA.out
      by_cases hiv:xi=v
      ·have s1:(((xi:Nat):Int) == ((v:Nat):Int))=true:=beq_iff_eq.2 (by omega)
       have s3:IntKind.i64.wrap (((xl:Nat):Int) - 1)=((xl - 1:Nat):Int):=by rw[IntKind.wrap_i64];omega
       have KS:Hid (Kept (·=wr.heap.size) wa (wa.setCell ⟨wr.heap.size,2,none⟩ (.int .i64 (xl - 1:Nat)))):=Kept.set1 _ _ _ _;have NW2:Hid (New u0 (wa.setCell ⟨wr.heap.size,2,none⟩ (.int .i64 (xl - 1:Nat)))):=NW.out.setCell (p:=⟨wr.heap.size,2,none⟩) (fun hh=>absurd hh (Nat.not_lt.2 hgu)) _;have VW2:=jH (VW.out.kept KS.out fun a ha e2=>by have:=HAL.out a ha;rw[e2] at this;exact Nat.lt_irrefl _ this)
       have EW2:Hid (∀e∈es2,NOwn (wa.setCell ⟨wr.heap.size,2,none⟩ (.int .i64 (xl - 1:Nat))) B e):=fun e he=>
        ⟨(EW.out e he).1.kept KS.out fun a ha e2=>((EW.out e he).1.at_ a ha).1.ne_of BE.out.at_ (by decide) e2,(EW.out e he).2.kept KS.out fun a ha e2=>((EW.out e he).2.at_ a ha).1.ne_of BE.out.at_ (by decide) e2⟩
       clear VW EW NW
       by_cases hx1:xl=1
       ·have LS2:Hid (nds es2=lsN v ((nds es1).take (t2+1))):=by
         rw[Hid,LS.out,if_neg (by rw[if_pos hiv];omega),List.append_nil];exact EN.out
        have s4:decide (0 < xl - 1)=false:=decide_eq_false (by omega);clear LS hiv hxl hxl6 KS EN hx1
        go_upto_if 73 with fail
        rw[←HWA.out];clear HWA x0 x1 x2 x3 x4 b0 b1;go_wp2_with fail;go_roundw
        case rel=>exact⟨t2+1,k2,A2,c2,es2,by omega,by omega,by go_num,rfl,VW2,EW2,LS2,EL,NW2⟩
        case measure=>simp[intOf];omega
       ·have LS2:Hid (lsN v ((nds es1).take (t2+1))=lsN v ((nds es1).take t2)++[⟨xi,xk,xl - 1,xns2,xb⟩]):=by
         rw[Hid,LS.out,if_pos (by rw[if_pos hiv];omega),if_pos hiv]
        have hx2:1≤xl - 1:=by omega
        have VW:=VW2;have EW:=EW2;have NW:=NW2;clear LS VW2 EW2 NW2;have LS3:=LS2;have s4:decide (0 < xl - 1)=true:=decide_eq_true (by omega);clear hiv KS hx1 LS2
        go_upto_if 73 with fail
        rw[←HWA.out];clear HWA x0 x1 x2 x3 x4 b0 b1;generalize hy:xl - 1=y at *;clear hxl hxl6
        have HRR:Hid (∀u:World,RowV (u.alloc (.cells #[.int .i64 xi,.int .u8 xk,.int .i64 (y:Nat),.slice xA xns2.length xc,.slice xB xb.length xd] 53)) (some ⟨u.heap.size,0,none⟩) 1 5 [.int .i64 xi,.int .u8 xk,.int .i64 (y:Nat),.slice xA xns2.length xc,.slice xB xb.length xd]):=fun u=>zbr (Blk.made u _ _) rfl
        have HR5:Hid (RowV ((wa.setCell ⟨wr.heap.size,2,none⟩ (.int .i64 (y:Nat))).alloc (.cells #[.int .i64 xi,.int .u8 xk,.int .i64 (y:Nat),.slice xA xns2.length xc,.slice xB xb.length xd] 53)) (some ⟨wa.heap.size,0,none⟩) 1 5 [.int .i64 xi,.int .u8 xk,.int .i64 (y:Nat),.slice xA xns2.length xc,.slice xB xb.length xd]):=by
         have h1:=HRR.out (wa.setCell ⟨wr.heap.size,2,none⟩ (.int .i64 (y:Nat)))
         have hsz:(wa.setCell ⟨wr.heap.size,2,none⟩ (.int .i64 (y:Nat))).heap.size=wa.heap.size:=by simp[World.setCell]
         rwa [hsz] at h1
        have KW:Hid (New u0 ((wa.setCell ⟨wr.heap.size,2,none⟩ (.int .i64 (y:Nat))).alloc (.cells #[.int .i64 xi,.int .u8 xk,.int .i64 (y:Nat),.slice xA xns2.length xc,.slice xB xb.length xd] 53))):=NW.out.alloc _;have VA5:=jH (VW.out.new (w':=(wa.setCell ⟨wr.heap.size,2,none⟩ (.int .i64 (y:Nat))).alloc (.cells #[.int .i64 xi,.int .u8 xk,.int .i64 (y:Nat),.slice xA xns2.length xc,.slice xB xb.length xd] 53)) (kR.alloc _))
        have EA5:Hid (∀e∈es2,NOwn ((wa.setCell ⟨wr.heap.size,2,none⟩ (.int .i64 (y:Nat))).alloc (.cells #[.int .i64 xi,.int .u8 xk,.int .i64 (y:Nat),.slice xA xns2.length xc,.slice xB xb.length xd] 53)) B e):=fun e he=>(EW.out e he).new (kR.alloc _)
        have NX:Hid (NOwn ((wa.setCell ⟨wr.heap.size,2,none⟩ (.int .i64 (y:Nat))).alloc (.cells #[.int .i64 xi,.int .u8 xk,.int .i64 (y:Nat),.slice xA xns2.length xc,.slice xB xb.length xd] 53)) B (⟨⟨xi,xk,y,xns2,xb⟩,xA,xc,xB,xd⟩:NE)):=⟨((T1.out.new KW.out).2 _ XM.out).1,((T1.out.new KW.out).2 _ XM.out).2⟩
        go_wp2_with (first
         | (at_builtin;refine zai zch Tryz.underlying23 rfl (by omega) u0 _ rfl _ _ rfl KW.out u0.heap.size (Nat.le_refl _) KW.out.size A2 k2 c2 (nes es2) rfl VA5.out (some ⟨wa.heap.size,0,none⟩) 1 1 [.int .i64 xi,.int .u8 xk,.int .i64 (y:Nat),.slice xA xns2.length xc,.slice xB xb.length xd] rfl HR5.out (zbz _ _ _ _ _ _ _ _ _) (by omega) (by omega) ?_)
         | fail)
        intro A8 c8 w8 O8 N8 K8
        have hA:∀a,A2=some a→At ((wa.setCell ⟨wr.heap.size,2,none⟩ (.int .i64 (y:Nat))).alloc (.cells #[.int .i64 xi,.int .u8 xk,.int .i64 (y:Nat),.slice xA xns2.length xc,.slice xB xb.length xd] 53)) a.block 53:=fun a ha=>(VA5.out.at_ a ha).1
        have E0:Hid (OwnV w8 53 5 u0.heap.size A8 (k2+1) c8 (nes (es2++[(⟨⟨xi,xk,y,xns2,xb⟩,xA,xc,xB,xd⟩:NE)]))):=by rw[Hid,nes_app];exact O8.out
        have E1:Hid (∀e∈es2++[(⟨⟨xi,xk,y,xns2,xb⟩,xA,xc,xB,xd⟩:NE)],NOwn w8 B e):=fun e he=>by
         rcases List.mem_append.1 he with he|he
         ·exact NOwn.kept (EA5.out e he) K8.out hA
         ·simp at he;subst he;exact NOwn.kept NX.out K8.out hA
        have E2:Hid (nds (es2++[(⟨⟨xi,xk,y,xns2,xb⟩,xA,xc,xB,xd⟩:NE)])=lsN v ((nds es1).take (t2+1))):=by rw[Hid,nds_app,EN.out];exact LS3.out.symm
        have E3:Hid ((es2++[(⟨⟨xi,xk,y,xns2,xb⟩,xA,xc,xB,xd⟩:NE)]).length=k2+1):=by rw[Hid,List.length_append,EL.out];rfl
        clear O8 K8 hA VA5 EA5 KW HRR NX VW EW NW LS3;go_wp2;go_roundw
        case rel=>exact⟨t2+1,k2+1,A8,c8,_,by omega,by omega,by go_num,by go_num,E0,E1,E2,E3,N8⟩
        case measure=>simp[intOf];omega
      ·have s1:(((xi:Nat):Int) == ((v:Nat):Int))=false:=beq_eq_false_iff_ne.2 (by omega)
       have LS2:Hid (lsN v ((nds es1).take (t2+1))=lsN v ((nds es1).take t2)++[⟨xi,xk,xl,xns2,xb⟩]):=by
        rw[Hid,LS.out,if_pos (by rw[if_neg hiv];omega),if_neg hiv]
       clear LS;have LS3:=LS2;have s4:decide (0 < xl)=true:=decide_eq_true (by omega);clear hiv LS2 hxl6
       go_upto_if 73 with fail
       rw[←HWA.out];clear HWA x0 x1 x2 x3 x4 b0 b1
       have HRR:Hid (∀u:World,RowV (u.alloc (.cells #[.int .i64 xi,.int .u8 xk,.int .i64 xl,.slice xA xns2.length xc,.slice xB xb.length xd] 53)) (some ⟨u.heap.size,0,none⟩) 1 5 [.int .i64 xi,.int .u8 xk,.int .i64 xl,.slice xA xns2.length xc,.slice xB xb.length xd]):=fun u=>zbr (Blk.made u _ _) rfl
       have KW:Hid (New u0 (wa.alloc (.cells #[.int .i64 xi,.int .u8 xk,.int .i64 xl,.slice xA xns2.length xc,.slice xB xb.length xd] 53))):=NW.out.alloc _;have VA5:=jH (VW.out.new (w':=wa.alloc (.cells #[.int .i64 xi,.int .u8 xk,.int .i64 xl,.slice xA xns2.length xc,.slice xB xb.length xd] 53)) (kR.alloc _))
       have EA5:Hid (∀e∈es2,NOwn (wa.alloc (.cells #[.int .i64 xi,.int .u8 xk,.int .i64 xl,.slice xA xns2.length xc,.slice xB xb.length xd] 53)) B e):=fun e he=>(EW.out e he).new (kR.alloc _)
       have NX:Hid (NOwn (wa.alloc (.cells #[.int .i64 xi,.int .u8 xk,.int .i64 xl,.slice xA xns2.length xc,.slice xB xb.length xd] 53)) B (⟨⟨xi,xk,xl,xns2,xb⟩,xA,xc,xB,xd⟩:NE)):=⟨((T1.out.new KW.out).2 _ XM.out).1,((T1.out.new KW.out).2 _ XM.out).2⟩
       go_wp2_with (first
        | (at_builtin;refine zai zch Tryz.underlying23 rfl (by omega) u0 _ rfl _ _ rfl KW.out u0.heap.size (Nat.le_refl _) KW.out.size A2 k2 c2 (nes es2) rfl VA5.out (some ⟨wa.heap.size,0,none⟩) 1 1 [.int .i64 xi,.int .u8 xk,.int .i64 xl,.slice xA xns2.length xc,.slice xB xb.length xd] rfl (HRR.out _) (zbz _ _ _ _ _ _ _ _ _) (by omega) (by omega) ?_)
        | fail)
       intro A8 c8 w8 O8 N8 K8
       have hA:∀a,A2=some a→At (wa.alloc (.cells #[.int .i64 xi,.int .u8 xk,.int .i64 xl,.slice xA xns2.length xc,.slice xB xb.length xd] 53)) a.block 53:=fun a ha=>(VA5.out.at_ a ha).1
       have E0:Hid (OwnV w8 53 5 u0.heap.size A8 (k2+1) c8 (nes (es2++[(⟨⟨xi,xk,xl,xns2,xb⟩,xA,xc,xB,xd⟩:NE)]))):=by rw[Hid,nes_app];exact O8.out
       have E1:Hid (∀e∈es2++[(⟨⟨xi,xk,xl,xns2,xb⟩,xA,xc,xB,xd⟩:NE)],NOwn w8 B e):=fun e he=>by
        rcases List.mem_append.1 he with he|he
        ·exact NOwn.kept (EA5.out e he) K8.out hA
        ·simp at he;subst he;exact NOwn.kept NX.out K8.out hA
       have E2:Hid (nds (es2++[(⟨⟨xi,xk,xl,xns2,xb⟩,xA,xc,xB,xd⟩:NE)])=lsN v ((nds es1).take (t2+1))):=by rw[Hid,nds_app,EN.out];exact LS3.out.symm
       have E3:Hid ((es2++[(⟨⟨xi,xk,xl,xns2,xb⟩,xA,xc,xB,xd⟩:NE)]).length=k2+1):=by rw[Hid,List.length_append,EL.out];rfl
       clear O8 K8 hA VA5 EA5 KW HRR NX VW EW NW LS3;go_wp2;go_roundw
       case rel=>exact⟨t2+1,k2+1,A8,c8,_,by omega,by omega,by go_num,by go_num,E0,E1,E2,E3,N8⟩
       case measure=>simp[intOf];omega
     ·obtain rfl:t2=n:=by omega
      have EN2:Hid (nds es2=lsN v (delE (nds es) dir nm)):=by
       have:=EN.out
       rwa [List.take_of_length_le (by rw[zab,L1.out];exact Nat.le_refl _),HE1.out] at this
      have BKZ:=BK2.out.kept NU.out id;have BRZ:=BR2.out.kept NU.out id;have fk1:=BKZ.free 1;obtain⟨f0,f1⟩:=BRZ.f2;obtain⟨r0,r1⟩:=BRZ.p2;obtain⟨w8,hw8⟩:∃w8,w8=wr.setCell ⟨gk,1,none⟩ (.slice A2 k2 c2):=⟨_,rfl⟩;obtain⟨w9,hw9⟩:∃w9,w9=(w8.setCell ⟨gk+1,0,none⟩ (.int .i64 p)).setCell ⟨gk+1,1,none⟩ (.slice A2 k2 c2):=⟨_,rfl⟩
      have K8:Kept (·=gk) wr w8:=by rw[hw8];exact Kept.set1 _ _ _ _
      have K9:Kept (·=gk+1) w8 w9:=by rw[hw9];exact (Kept.set1 _ _ _ _).setCell (p:=⟨gk+1,1,none⟩) (fun _=>rfl) _
      have B8:=BRZ.kept K8 (by omega);have T8:TOwn w8 B A2 c2 es2:=TOwn.far (gx:=gk) ⟨by rw[EL.out];exact VA.out.mono BU.out,EA.out⟩ K8 BKZ.at_ (by decide) (by decide) (by decide);have T9:Hid (TOwn w9 B A2 c2 es2):=TOwn.far T8 K9 B8.at_ (by decide) (by decide) (by decide)
      have B9:Hid (Blk w9 (gk+1) 25 [.int .i64 p,.slice A2 k2 c2]):=by rw[hw9];exact (B8.put 0 _).put 1 _
      have KF:Hid (Kept (zak (some ⟨gn,0,none⟩)) w w9):=by
       have a1:=KWU.out.new NU.out;have a2:=a1.setCell (p:=⟨gk,1,none⟩) (fun hh=>absurd hh (by rw[GK.out];exact Nat.lt_irrefl _)) (.slice A2 k2 c2);rw[←hw8] at a2;have a3:=(a2.setCell (p:=⟨gk+1,0,none⟩) (fun hh=>absurd hh (by have:=GK.out;show ¬gk+1 < _;omega)) (.int .i64 p)).setCell (p:=⟨gk+1,1,none⟩) (fun hh=>absurd hh (by have:=GK.out;show ¬gk+1 < _;omega)) (.slice A2 k2 c2);rwa [←hw9] at a3
      rw[hw8] at hw9;have HW9:=jH hw9
      have AN:Hid (∀a,A2=some a→w.heap.size≤a.block):=fun a ha=>Nat.le_trans KWU.out.size (VA.out.at_ a ha).2
      clear K8 K9 B8 T8 BKZ BRZ hw8 hw9 EN VA EA w8;go_wp2_with fail;rw[←HW9.out];obtain⟨d0,d1⟩:=B9.out.p2;refine bodyPost_ret (by simp[results,Tryz.results38,go_sem,d0,d1];try rfl) rfl ?_;exact⟨A2,c2,es2,by rw[EL.out],EN2.out,T9.out,KF.out,.inr AN.out⟩
end
section
open Go.RowKit
def loN (f:Nat) (L:List ND):List ND:=L.filter fun n=>decide (n.i < f)
def hiN (f:Nat) (L:List ND):List ND:=L.filter fun n=>decide (f < n.i)
theorem loN_app (f:Nat) (L:List ND) (n:ND):loN f (L++[n])=loN f L++(if n.i < f then [n] else []):=by
 unfold loN;rw[List.filter_append,List.filter_cons,List.filter_nil]
 by_cases h:n.i < f<;>simp[h]
theorem hiN_app (f:Nat) (L:List ND) (n:ND):hiN f (L++[n])=hiN f L++(if f < n.i then [n] else []):=by
 unfold hiN;rw[List.filter_append,List.filter_cons,List.filter_nil]
 by_cases h:f < n.i<;>simp[h]
theorem ins_lohi {n:ND} {L:List ND} (ho:OrdN L) (hn:n.i∉inos L):loN n.i L++[n]++hiN n.i L=insI n L:=by
 induction L with
 | nil=>rfl
 | cons m r ih=>
  obtain⟨h1,h2⟩:=zcd.1 ho
  have hr:n.i∉inos r:=fun hh=>hn (by unfold inos at *;simp at *;exact .inr hh)
  have hm:m.i≠n.i:=fun e=>hn (by unfold inos;simp[e])
  have ih:=ih h2 hr;rw[ins_cons];unfold loN hiN at *
  by_cases h:m.i < n.i
  ·rw[if_pos h,List.filter_cons,if_pos (by simpa using h),List.filter_cons,if_neg (by simp;omega),←ih];rfl
  ·rw[if_neg h,List.filter_cons,if_neg (by simpa using h),List.filter_cons,if_pos (by simp;omega)]
   have e1:List.filter (fun m=>decide (m.i < n.i)) r=[]:=List.filter_eq_nil_iff.2 fun x hx=>by have:=h1 x hx;simp;omega
   have e2:List.filter (fun m=>decide (n.i < m.i)) r=r:=List.filter_eq_self.2 fun x hx=>by have:=h1 x hx;simp;omega
   rw[e1,e2];rfl
def MadeP (w:World) (p B:Nat) (L:List ND) (f:Nat) (e:Ending) (w':World):Prop:=
 ∃A' c' es,e=.returned (.tuple #[.agg #[.int .i64 p,.slice A' es.length c'],.int .i64 f])∧nds es=L∧TOwn w' B A' c' es∧New w w'
theorem rmade_any (p:Nat) (A:Option Addr) (n c B:Nat) (es:List NE) (dir k:Nat) (nm:ByteArray) (q:ND) (w:World) (h:TOwn w B A c es) (hB:B≤w.heap.size) (hn:es.length=n) (hm:n≤100) (ho:OrdN (nds es)) (hr1:∀m∈nds es,1≤m.i) (hq:ndI (nds es) dir=some q) (hs:OrdS q.ns) (hno:¬zbn nm q.ns) (hql:q.ns.length≤300):
  Calls Tryz.prog 37 #[.agg #[.int .i64 p,.slice A n c],.int .i64 dir,.string nm,.int .u8 k] w (MadeP w p B (makeE (nds es) dir nm k) (zbj (nds es))):=by
 have hn0:0 < n:=by
  have:=(List.getElem?_eq_some_iff.1 (pos_some hq)).1
  rw[zab,hn] at this;omega
 obtain⟨w1,hw1⟩:∃w1,w1=(w.alloc (.cells #[.int .i64 p,.slice A n c] 25)).alloc (.cells #[.int .i64 0,.slice none 0 0] 25):=⟨_,rfl⟩
 have n1:New w w1:=by rw[hw1];exact (kR.alloc _).alloc _
 have BKB:Hid (Blk w1 w.heap.size 25 [.int .i64 p,.slice A n c]):=by rw[hw1];exact (Blk.made w _ _).alloc _
 have BT:Hid (∀u,New w1 u→u.cell? ⟨w.heap.size,0,none⟩=some (.int .i64 p)∧u.cell? ⟨w.heap.size,1,none⟩=some (.slice A n c)):=fun u hu=>by
  have:=BKB.out.kept hu id
  exact⟨this.cell 0,this.cell 1⟩
 have BR:Hid (Blk w1 (w.heap.size+1) 25 [.int .i64 0,.slice none 0 0]):=by
  have:=Blk.made (w.alloc (.cells #[.int .i64 p,.slice A n c] 25)) 25 #[.int .i64 0,.slice none 0 0]
  rw[World.size_alloc] at this;rw[hw1];exact this
 have H:=jH (h.new n1);have N1:=jH n1;have HW:=jH hw1;have hBw1:B≤w1.heap.size:=Nat.le_trans hB n1.size;obtain⟨f,hf⟩:∃f,f=zbj (nds es):=⟨_,rfl⟩
 have hfn:f≤n+1:=by have:=(freeGo_le (nds es) 1).2;rw[zab,hn] at this;rw[hf];unfold zbj;omega
 have FNOT:Hid (f∉inos (nds es)):=by rw[hf];exact freeGo_not ho hr1
 have hf1:1≤f:=by rw[hf];exact (freeGo_le (nds es) 1).1
 have CN:Hid (∀(j:Nat) u,1≤j→j≤f→New w1 u→Calls Tryz.prog 25 #[.agg #[.int .i64 p,.slice A n c],.int .i64 (j:Nat)] u (zaw u (noI (nds es) j))∧(j < f→∃z:Nat,noI (nds es) j=(z:Int))∧(j=f→noI (nds es) j=-1)):=fun j u h1 h2 hu=>
  ⟨zam p A n c es j u ((h.new n1).new hu).in_ hn (by omega),fun h3=>noI_pos (freeGo_all (L:=nds es) (k:=1) h1 (by rw[hf] at h3;exact h3)),fun h3=>by unfold noI;rw[ndI_none.2 (by rw[h3];exact FNOT.out)]⟩
 have HO:=jH (And.intro ho (And.intro hq (And.intro hs (And.intro hno hql))));rw[←hf];have HF:=jH hf;obtain⟨gn,on,X',eA,_⟩:=(h.new n1).in_.pos (i:=0) (by rw[hn];exact hn0)
 have ON:on=0:=by
  have:=h.1.2.2.2
  rcases this with ⟨e,_⟩|⟨g',sp,e,_⟩
  ·rw[e] at eA;cases eA
  ·rw[e] at eA;injection eA with eA;injection eA with _ e2;exact e2.symm
 subst ON;subst eA;have LN:=jH hn;clear h n1 hw1 hq hs hno hn ho hB hf hr1 hql;go_enter Tryz.func37,Tryz.ntmps37;go_wp2_with fail;rw[←HW.out];clear HW;obtain⟨gk,hgk⟩:∃gk,gk=w.heap.size:=⟨_,rfl⟩;rw[←hgk] at BT BR BKB ⊢;have GK:=jH hgk;clear hgk
 go_loopw [10] (fun ti wr=>∃j:Nat,1≤j∧j≤f∧ti=.int .i64 j∧Hid (New w1 wr)) (fun i _=>f - (intOf i).toNat)
 case atStart=>exact⟨1,Nat.le_refl _,hf1,rfl,kR⟩
 case round=>
  obtain⟨j,hj1,hj2,rfl,NU⟩:=hrel;obtain⟨b0,b1⟩:=BT.out wr NU.out;obtain⟨cn,c1,c2⟩:=CN.out j wr hj1 hj2 NU.out;have CJ:=jH cn
  rcases Nat.lt_or_ge j f with hlt|hge
  ·obtain⟨z,hz⟩:=c1 hlt;have HZ:=jH hz;have d1:decide ((0:Int)≤((z:Nat):Int))=true:=decide_eq_true (by omega);clear cn c1 c2 hz;go_wp2_with fail;refine CJ.out.mono ?_;rintro e w2 ⟨rfl,k2⟩;rw[HZ.out];have K2:Hid (New w1 w2):=NU.out.new k2;clear k2 CJ;go_wp2;go_roundw
   case rel=>exact⟨j+1,by omega,by omega,by go_num,K2⟩
   case measure=>simp[intOf];omega
  ·have hjf:j=f:=by omega
   have HZ:=jH (c2 hjf);subst hjf;clear cn c1 c2;go_wp2_with fail;refine CJ.out.mono ?_;rintro e w2 ⟨rfl,k2⟩;rw[HZ.out];have K2:Hid (New w1 w2):=NU.out.new k2;clear k2 CJ NU b0 b1 hge;go_wp2_with fail
   go_loopw [11,12] (fun tl ti wx=>∃(t k2:Nat) (A2:Option Addr) (c2:Nat) (es2:List NE),t≤n∧k2≤t∧ti=.int .i64 t∧tl=.slice A2 k2 c2∧Hid (OwnV wx 53 5 w1.heap.size A2 k2 c2 (nes es2))∧Hid (∀e∈es2,NOwn wx B e)∧Hid (nds es2=loN j ((nds es).take t))∧Hid (es2.length=k2)∧Hid (New w1 wx)) (fun _ i _=>n - (intOf i).toNat)
   case atStart=>exact⟨0,0,none,0,[],Nat.zero_le _,Nat.le_refl _,rfl,rfl,OwnV.nil _ _ _ _,(fun e he=>by cases he),rfl,rfl,K2⟩
   case round=>
    obtain⟨t,k2,A2,c2,es2,ht,hk2,rfl,rfl,VA,EA,EN,EL,NU⟩:=hrel;obtain⟨b0,b1⟩:=BT.out wr NU.out
    by_cases hlt:t < n
    ·obtain⟨x,hx⟩:∃x,es[t]?=some x:=⟨_,List.getElem?_eq_getElem (by rw[LN.out];exact hlt)⟩;have XM:Hid (x∈es):=List.mem_of_getElem? hx
     have HTK:Hid ((nds es).take (t+1)=(nds es).take t++[x.n]):=by rw[Hid,List.take_add_one,zbc hx];rfl
     obtain⟨_,x0,x1,x2,x3,x4⟩:=(H.out.new NU.out).in_.get hx;rw[Nat.zero_add] at x0 x1 x2 x3 x4;clear hx;obtain⟨⟨xi,xk,xl,xns,xb⟩,xA,xc,xB,xd⟩:=x;have HTK:Hid ((nds es).take (t+1)=(nds es).take t++[⟨xi,xk,xl,xns,xb⟩]):=HTK;simp only at x0 x1 x2 x3 x4
     by_cases hif:xi < j
     ·have LS:Hid (loN j ((nds es).take t)++[⟨xi,xk,xl,xns,xb⟩]=loN j ((nds es).take (t+1))):=by rw[Hid,HTK.out,loN_app];rw[if_pos (show xi < j from hif)]
      have s1:decide (xi < j)=true:=decide_eq_true hif;clear HTK hif
      have HRR:Hid (∀u:World,RowV (u.alloc (.cells #[.int .i64 xi,.int .u8 xk,.int .i64 xl,.slice xA xns.length xc,.slice xB xb.length xd] 53)) (some ⟨u.heap.size,0,none⟩) 1 5 [.int .i64 xi,.int .u8 xk,.int .i64 xl,.slice xA xns.length xc,.slice xB xb.length xd]):=fun u=>zbr (Blk.made u _ _) rfl
      have KW:Hid (New w1 (wr.alloc (.cells #[.int .i64 xi,.int .u8 xk,.int .i64 xl,.slice xA xns.length xc,.slice xB xb.length xd] 53))):=NU.out.alloc _;have VA5:=jH (VA.out.new (w':=wr.alloc (.cells #[.int .i64 xi,.int .u8 xk,.int .i64 xl,.slice xA xns.length xc,.slice xB xb.length xd] 53)) (kR.alloc _))
      have EA5:Hid (∀e∈es2,NOwn (wr.alloc (.cells #[.int .i64 xi,.int .u8 xk,.int .i64 xl,.slice xA xns.length xc,.slice xB xb.length xd] 53)) B e):=fun e he=>(EA.out e he).new (kR.alloc _)
      have NX:Hid (NOwn (wr.alloc (.cells #[.int .i64 xi,.int .u8 xk,.int .i64 xl,.slice xA xns.length xc,.slice xB xb.length xd] 53)) B (⟨⟨xi,xk,xl,xns,xb⟩,xA,xc,xB,xd⟩:NE)):=⟨((H.out.new KW.out).2 _ XM.out).1,((H.out.new KW.out).2 _ XM.out).2⟩
      go_wp2_with (first
       | (at_builtin;refine zai zch Tryz.underlying23 rfl (by omega) w1 _ rfl _ _ rfl KW.out w1.heap.size (Nat.le_refl _) KW.out.size A2 k2 c2 (nes es2) rfl VA5.out (some ⟨wr.heap.size,0,none⟩) 1 1 [.int .i64 xi,.int .u8 xk,.int .i64 xl,.slice xA xns.length xc,.slice xB xb.length xd] rfl (HRR.out _) (zbz _ _ _ _ _ _ _ _ _) (by omega) (by omega) ?_)
       | fail)
      intro A8 c8 w8 O8 N8 K8
      have hA:∀a,A2=some a→At (wr.alloc (.cells #[.int .i64 xi,.int .u8 xk,.int .i64 xl,.slice xA xns.length xc,.slice xB xb.length xd] 53)) a.block 53:=fun a ha=>(VA5.out.at_ a ha).1
      have E0:Hid (OwnV w8 53 5 w1.heap.size A8 (k2+1) c8 (nes (es2++[(⟨⟨xi,xk,xl,xns,xb⟩,xA,xc,xB,xd⟩:NE)]))):=by rw[Hid,nes_app];exact O8.out
      have E1:Hid (∀e∈es2++[(⟨⟨xi,xk,xl,xns,xb⟩,xA,xc,xB,xd⟩:NE)],NOwn w8 B e):=fun e he=>by
       rcases List.mem_append.1 he with he|he
       ·exact NOwn.kept (EA5.out e he) K8.out hA
       ·simp at he;subst he;exact NOwn.kept NX.out K8.out hA
      have E2:Hid (nds (es2++[(⟨⟨xi,xk,xl,xns,xb⟩,xA,xc,xB,xd⟩:NE)])=loN j ((nds es).take (t+1))):=by rw[Hid,nds_app,EN.out];exact LS.out
      have E3:Hid ((es2++[(⟨⟨xi,xk,xl,xns,xb⟩,xA,xc,xB,xd⟩:NE)]).length=k2+1):=by rw[Hid,List.length_append,EL.out];rfl
      clear O8 K8 hA VA5 EA5 KW HRR NX VA EA EN LS;go_wp2;go_roundw
      case rel=>exact⟨t+1,k2+1,A8,c8,_,by omega,by omega,by go_num,by go_num,E0,E1,E2,E3,N8⟩
      case measure=>simp[intOf];omega
     ·have LS:Hid (nds es2=loN j ((nds es).take (t+1))):=by rw[Hid,HTK.out,loN_app];rw[if_neg (show ¬xi < j from hif),List.append_nil];exact EN.out
      have s1:decide (xi < j)=false:=decide_eq_false hif;clear HTK hif EN;go_wp2_with fail;go_roundw
      case rel=>exact⟨t+1,k2,A2,c2,es2,by omega,by omega,by go_num,rfl,VA,EA,LS,EL,NU⟩
      case measure=>simp[intOf];omega
    ·obtain rfl:n=t:=by omega
     have EN2:Hid (nds es2=loN j (nds es)):=by have:=EN.out;rwa [List.take_of_length_le (by rw[zab,LN.out];exact Nat.le_refl _)] at this
     have HRR:Hid (∀u:World,RowV (u.alloc (.cells #[.int .i64 (j:Nat),.int .u8 k,.int .i64 1,.slice none 0 0,.slice none 0 0] 53)) (some ⟨u.heap.size,0,none⟩) 1 5 [.int .i64 (j:Nat),.int .u8 k,.int .i64 1,.slice none 0 0,.slice none 0 0]):=fun u=>zbr (Blk.made u _ _) rfl
     have KW:Hid (New w1 (wr.alloc (.cells #[.int .i64 (j:Nat),.int .u8 k,.int .i64 1,.slice none 0 0,.slice none 0 0] 53))):=NU.out.alloc _;have VA5:=jH (VA.out.new (w':=wr.alloc (.cells #[.int .i64 (j:Nat),.int .u8 k,.int .i64 1,.slice none 0 0,.slice none 0 0] 53)) (kR.alloc _))
     have EA5:Hid (∀e∈es2,NOwn (wr.alloc (.cells #[.int .i64 (j:Nat),.int .u8 k,.int .i64 1,.slice none 0 0,.slice none 0 0] 53)) B e):=fun e he=>(EA.out e he).new (kR.alloc _)
     go_wp2_with (first
      | (at_builtin;refine zai zch Tryz.underlying23 rfl (by omega) w1 _ rfl _ _ rfl KW.out w1.heap.size (Nat.le_refl _) KW.out.size A2 k2 c2 (nes es2) rfl VA5.out (some ⟨wr.heap.size,0,none⟩) 1 1 [.int .i64 (j:Nat),.int .u8 k,.int .i64 1,.slice none 0 0,.slice none 0 0] rfl (HRR.out _) (zbz _ _ _ _ _ _ _ _ _) (by omega) (by omega) ?_)
      | fail)
     intro A8 c8 w8 O8 N8 K8
     have hA:∀a,A2=some a→At (wr.alloc (.cells #[.int .i64 (j:Nat),.int .u8 k,.int .i64 1,.slice none 0 0,.slice none 0 0] 53)) a.block 53:=fun a ha=>(VA5.out.at_ a ha).1
     have E0:Hid (OwnV w8 53 5 w1.heap.size A8 (k2+1) c8 (nes (es2++[⟨⟨j,k,1,[],[]⟩,none,0,none,0⟩]))):=by rw[Hid,nes_app];exact O8.out
     have E1:Hid (∀e∈es2++[(⟨⟨j,k,1,[],[]⟩,none,0,none,0⟩:NE)],NOwn w8 B e):=fun e he=>by
      rcases List.mem_append.1 he with he|he
      ·exact NOwn.kept (EA5.out e he) K8.out hA
      ·simp at he;subst he;exact⟨OwnV.nil _ _ _ _,OwnB.nil _ _ _⟩
     have E2:Hid (nds (es2++[(⟨⟨j,k,1,[],[]⟩,none,0,none,0⟩:NE)])=loN j (nds es)++[⟨j,k,1,[],[]⟩]):=by rw[Hid,nds_app,EN2.out]
     have E3:Hid ((es2++[(⟨⟨j,k,1,[],[]⟩,none,0,none,0⟩:NE)]).length=k2+1):=by rw[Hid,List.length_append,EL.out];rfl
     generalize es2++[(⟨⟨j,k,1,[],[]⟩,none,0,none,0⟩:NE)]=es3 at E0 E1 E2 E3;clear O8 K8 hA VA5 EA5 KW HRR VA EA EN EN2 EL NU b0 b1 K2;have K2:=N8;go_wp2_with fail
     go_loopw [11,13] (fun tl ti wx=>∃(t k2:Nat) (A2:Option Addr) (c2:Nat) (es2:List NE),t≤n∧k2≤t+n+1∧ti=.int .i64 t∧tl=.slice A2 k2 c2∧Hid (OwnV wx 53 5 w1.heap.size A2 k2 c2 (nes es2))∧Hid (∀e∈es2,NOwn wx B e)∧Hid (nds es2=(loN j (nds es)++[⟨j,k,1,[],[]⟩])++hiN j ((nds es).take t))∧Hid (es2.length=k2)∧Hid (New w1 wx)) (fun _ i _=>n - (intOf i).toNat)
     case atStart=>exact⟨0,k2+1,A8,c8,es3,Nat.zero_le _,by omega,rfl,rfl,E0,E1,(by have:=E2.out;rw[Hid,this];simp[hiN]),E3,K2⟩
     case round=>
      obtain⟨t,k2,A2,c2,es2,ht,hk2,rfl,rfl,VA,EA,EN,EL,NU⟩:=hrel;obtain⟨b0,b1⟩:=BT.out wr NU.out
      by_cases hlt:t < n
      ·obtain⟨x,hx⟩:∃x,es[t]?=some x:=⟨_,List.getElem?_eq_getElem (by rw[LN.out];exact hlt)⟩;have XM:Hid (x∈es):=List.mem_of_getElem? hx
       have HTK:Hid ((nds es).take (t+1)=(nds es).take t++[x.n]):=by rw[Hid,List.take_add_one,zbc hx];rfl
       obtain⟨_,x0,x1,x2,x3,x4⟩:=(H.out.new NU.out).in_.get hx;rw[Nat.zero_add] at x0 x1 x2 x3 x4;clear hx;obtain⟨⟨xi,xk,xl,xns,xb⟩,xA,xc,xB,xd⟩:=x;have HTK:Hid ((nds es).take (t+1)=(nds es).take t++[⟨xi,xk,xl,xns,xb⟩]):=HTK;simp only at x0 x1 x2 x3 x4
       by_cases hif:j < xi
       ·have LS:Hid ((loN j (nds es)++[⟨j,k,1,[],[]⟩])++hiN j ((nds es).take t)++[⟨xi,xk,xl,xns,xb⟩]=(loN j (nds es)++[⟨j,k,1,[],[]⟩])++hiN j ((nds es).take (t+1))):=by rw[Hid,HTK.out,hiN_app];rw[if_pos (show j < xi from hif)];simp
        have s1:decide (j < xi)=true:=decide_eq_true hif;clear HTK hif
        have HRR:Hid (∀u:World,RowV (u.alloc (.cells #[.int .i64 xi,.int .u8 xk,.int .i64 xl,.slice xA xns.length xc,.slice xB xb.length xd] 53)) (some ⟨u.heap.size,0,none⟩) 1 5 [.int .i64 xi,.int .u8 xk,.int .i64 xl,.slice xA xns.length xc,.slice xB xb.length xd]):=fun u=>zbr (Blk.made u _ _) rfl
        have KW:Hid (New w1 (wr.alloc (.cells #[.int .i64 xi,.int .u8 xk,.int .i64 xl,.slice xA xns.length xc,.slice xB xb.length xd] 53))):=NU.out.alloc _;have VA5:=jH (VA.out.new (w':=wr.alloc (.cells #[.int .i64 xi,.int .u8 xk,.int .i64 xl,.slice xA xns.length xc,.slice xB xb.length xd] 53)) (kR.alloc _))
        have EA5:Hid (∀e∈es2,NOwn (wr.alloc (.cells #[.int .i64 xi,.int .u8 xk,.int .i64 xl,.slice xA xns.length xc,.slice xB xb.length xd] 53)) B e):=fun e he=>(EA.out e he).new (kR.alloc _)
        have NX:Hid (NOwn (wr.alloc (.cells #[.int .i64 xi,.int .u8 xk,.int .i64 xl,.slice xA xns.length xc,.slice xB xb.length xd] 53)) B (⟨⟨xi,xk,xl,xns,xb⟩,xA,xc,xB,xd⟩:NE)):=⟨((H.out.new KW.out).2 _ XM.out).1,((H.out.new KW.out).2 _ XM.out).2⟩
        go_wp2_with (first
         | (at_builtin;refine zai zch Tryz.underlying23 rfl (by omega) w1 _ rfl _ _ rfl KW.out w1.heap.size (Nat.le_refl _) KW.out.size A2 k2 c2 (nes es2) rfl VA5.out (some ⟨wr.heap.size,0,none⟩) 1 1 [.int .i64 xi,.int .u8 xk,.int .i64 xl,.slice xA xns.length xc,.slice xB xb.length xd] rfl (HRR.out _) (zbz _ _ _ _ _ _ _ _ _) (by omega) (by omega) ?_)
         | fail)
        intro A8 c8 w8 O8 N8 K8
        have hA:∀a,A2=some a→At (wr.alloc (.cells #[.int .i64 xi,.int .u8 xk,.int .i64 xl,.slice xA xns.length xc,.slice xB xb.length xd] 53)) a.block 53:=fun a ha=>(VA5.out.at_ a ha).1
        have E0:Hid (OwnV w8 53 5 w1.heap.size A8 (k2+1) c8 (nes (es2++[(⟨⟨xi,xk,xl,xns,xb⟩,xA,xc,xB,xd⟩:NE)]))):=by rw[Hid,nes_app];exact O8.out
        have E1:Hid (∀e∈es2++[(⟨⟨xi,xk,xl,xns,xb⟩,xA,xc,xB,xd⟩:NE)],NOwn w8 B e):=fun e he=>by
         rcases List.mem_append.1 he with he|he
         ·exact NOwn.kept (EA5.out e he) K8.out hA
         ·simp at he;subst he;exact NOwn.kept NX.out K8.out hA
        have E2:Hid (nds (es2++[(⟨⟨xi,xk,xl,xns,xb⟩,xA,xc,xB,xd⟩:NE)])=(loN j (nds es)++[⟨j,k,1,[],[]⟩])++hiN j ((nds es).take (t+1))):=by rw[Hid,nds_app,EN.out];exact LS.out
        have E3:Hid ((es2++[(⟨⟨xi,xk,xl,xns,xb⟩,xA,xc,xB,xd⟩:NE)]).length=k2+1):=by rw[Hid,List.length_append,EL.out];rfl
        clear O8 K8 hA VA5 EA5 KW HRR NX VA EA EN LS;go_wp2;go_roundw
        case rel=>exact⟨t+1,k2+1,A8,c8,_,by omega,by omega,by go_num,by go_num,E0,E1,E2,E3,N8⟩
        case measure=>simp[intOf];omega
       ·have LS:Hid (nds es2=(loN j (nds es)++[⟨j,k,1,[],[]⟩])++hiN j ((nds es).take (t+1))):=by rw[Hid,HTK.out,hiN_app];rw[if_neg (show ¬j < xi from hif),List.append_nil];exact EN.out
        have s1:decide (j < xi)=false:=decide_eq_false hif;clear HTK hif EN;go_wp2_with fail;go_roundw
        case rel=>exact⟨t+1,k2,A2,c2,es2,by omega,by omega,by go_num,rfl,VA,EA,LS,EL,NU⟩
        case measure=>simp[intOf];omega
      ·obtain rfl:n=t:=by omega
       have EI:Hid (nds es2=insI ⟨j,k,1,[],[]⟩ (nds es)):=by
        have:=EN.out
        rw[List.take_of_length_le (by rw[zab,LN.out];exact Nat.le_refl _)] at this;rw[Hid,this];exact ins_lohi (n:=⟨j,k,1,[],[]⟩) HO.out.1 FNOT.out
       have BKZ:=BKB.out.kept NU.out id;have BRZ:=BR.out.kept NU.out id;have fk1:=BKZ.free 1;obtain⟨w8,hw8⟩:∃w8,w8=wr.setCell ⟨gk,1,none⟩ (.slice A2 k2 c2):=⟨_,rfl⟩
       have K8:Kept (·=gk) wr w8:=by rw[hw8];exact Kept.set1 _ _ _ _
       have B8:Hid (Blk w8 (gk+1) 25 [.int .i64 0,.slice none 0 0]):=BRZ.kept K8 (by omega);have T8:Hid (TOwn w8 B A2 c2 es2):=TOwn.far (gx:=gk) ⟨by rw[EL.out];exact VA.out.mono hBw1,EA.out⟩ K8 BKZ.at_ (by decide) (by decide) (by decide)
       have N8:Hid (New w w8):=by
        have:=(N1.out.new NU.out).setCell (p:=⟨gk,1,none⟩) (fun hh=>absurd hh (by rw[GK.out];exact Nat.lt_irrefl _)) (.slice A2 k2 c2)
        rwa [←hw8] at this
       have hA2:Hid (∀a,A2=some a→w.heap.size≤a.block):=fun a ha=>Nat.le_trans N1.out.size (VA.out.at_ a ha).2
       have CW:Hid (Calls Tryz.prog 39 #[.agg #[.int .i64 p,.slice A2 k2 c2],.int .i64 dir,.string nm,.int .i64 (j:Nat)] w8 (RowP w8 p B A2 c2 (addE (insI ⟨j,k,1,[],[]⟩ (nds es)) dir nm j))):=by
        have hdj:dir≠j:=fun e=>FNOT.out (by rw[←e];exact zav.2 ⟨q,(zaa HO.out.2.1).1,(zaa HO.out.2.1).2⟩)
        have h1:ndI (nds es2) dir=some q:=by rw[EI.out,ins_nd (n:=⟨j,k,1,[],[]⟩) FNOT.out,if_neg hdj];exact HO.out.2.1
        have h2:OrdN (nds es2):=by rw[EI.out];exact ins_ord HO.out.1 FNOT.out
        have:=rwith_any p A2 k2 c2 B es2 dir j nm q w8 T8.out (by have:=N8.out.size;have:=hBw1;have:=N1.out.size;have:=NU.out.size;have:=K8.size;omega) EL.out (by omega) h2 h1 HO.out.2.2.1 HO.out.2.2.2.1 HO.out.2.2.2.2
        rwa [EI.out] at this
       have HW8:=jH hw8;clear K8 BKZ BRZ hw8 EN VA EA;go_wp2_with fail;rw[←HW8.out];clear HW8;refine CW.out.mono ?_;rintro e w9 ⟨es3,rfl,hes3,t3,k3⟩
       have B9:=B8.out.kept k3 fun ⟨a,ha,e2⟩=>(T8.out.1.at_ a ha).1.ne_of (e2 ▸ B8.out.at_) (by decide) rfl
       obtain⟨f0,f1⟩:=B9.f2;obtain⟨r0,r1⟩:=B9.p2
       have N9:New w w9:=N8.out.trans (S':=zak A2) k3 fun i hi ⟨a,ha,e2⟩=>by have:=hA2.out a ha;omega
       have K10:Kept (·=gk+1) w9 ((w9.setCell ⟨gk+1,0,none⟩ (.int .i64 p)).setCell ⟨gk+1,1,none⟩ (.slice A2 es3.length c2)):=(Kept.set1 _ _ _ _).setCell (p:=⟨gk+1,1,none⟩) (fun _=>rfl) _;have T10:Hid (TOwn ((w9.setCell ⟨gk+1,0,none⟩ (.int .i64 p)).setCell ⟨gk+1,1,none⟩ (.slice A2 es3.length c2)) B A2 c2 es3):=TOwn.far t3 K10 B9.at_ (by decide) (by decide) (by decide);have N10:Hid (New w ((w9.setCell ⟨gk+1,0,none⟩ (.int .i64 p)).setCell ⟨gk+1,1,none⟩ (.slice A2 es3.length c2))):=(N9.setCell (p:=⟨gk+1,0,none⟩) (fun hh=>absurd hh (by have:=GK.out;show ¬gk+1 < _;omega)) _).setCell (p:=⟨gk+1,1,none⟩) (fun hh=>absurd hh (by have:=GK.out;show ¬gk+1 < _;omega)) _
       have B10:Hid (Blk ((w9.setCell ⟨gk+1,0,none⟩ (.int .i64 p)).setCell ⟨gk+1,1,none⟩ (.slice A2 es3.length c2)) (gk+1) 25 [.int .i64 p,.slice A2 es3.length c2]):=(B9.put 0 _).put 1 _;have HE3:=jH hes3;clear k3 t3 B9 N9 K10 hes3 T8 B8 N8 CW;go_wp2_with fail;generalize (w9.setCell ⟨gk+1,0,none⟩ (.int .i64 p)).setCell ⟨gk+1,1,none⟩ (.slice A2 es3.length c2)=wf at *;obtain⟨d0,d1⟩:=B10.out.p2;refine bodyPost_ret (by simp[results,Tryz.results37,go_sem,d0,d1];try rfl) rfl ?_;refine⟨A2,c2,es3,rfl,?_,T10.out,N10.out⟩;rw[HE3.out];unfold makeE;rw[←HF.out]
end
end Go.Proofs.YtjjamoemheljdaaGreat
