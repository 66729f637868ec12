/-
  Layer 7: contracts (Ye).
-/
import Derived.Test.YtjjamoemheljdaaGreatC17
namespace Go.Proofs.YtjjamoemheljdaaGreat
set_option maxRecDepth 100000
set_option maxHeartbeats 8000000
set_option linter.unusedSimpArgs false
set_option linter.unusedVariables false
section
open Go.RowKit
def PT (w0 w:World) (gt p:Nat) (L:List ND):Prop:=
 ∃g c es,Blk w gt 25 [.int .i64 p,.slice (some ⟨g,0,none⟩) es.length c]∧TOwn w w0.heap.size (some ⟨g,0,none⟩) c es∧nds es=L∧Dis es∧New w0 w∧w0.heap.size≤gt
theorem PT.new {w0 w w':World} {gt p:Nat} {L:List ND} (h:PT w0 w gt p L) (hk:New w w'):PT w0 w' gt p L:=by
 obtain⟨g,c,es,h1,h2,h3,h4,h5,h6⟩:=h;exact⟨g,c,es,h1.kept hk id,h2.new hk,h3,h4,h5.new hk,h6⟩
def spotV (q:Nat) (nm:ByteArray) (j d:Nat):Value:=.agg #[.int .i64 q,.string nm,.int .i64 j,.int .i64 d]
def spotR (g:List ByteArray):Nat×Nat×Nat→Value
 | (q,j,0)=>spotV q (lst g) j g.length
 | (_,_,_+1)=>spotV 0 ⟨#[]⟩ 0 0
theorem ent_fnd {ns:List (ByteArray×Nat)} (ho:OrdS ns) (nm:ByteArray) (h:zbn nm ns):fndN nm ns=true∧ns[plcN nm ns]?=some (nm,entF ns nm):=fndN_some ho (entF_mem h) rfl
theorem PT.ord {T:TT} (h:Rt T) {n:ND} {j:Nat} (hn:ndI T.l j=some n):OrdS n.ns:=(h.fin n (zaa hn).1).1
theorem zbh (q:Nat) (nm:ByteArray) (j d:Nat) (w:World):Calls Tryz.prog 83 #[.agg #[.int .i64 q,.string nm,.int .i64 j,.int .i64 d]] w (fun e w'=>e=.returned (.bool (decide (j≠0)))∧New w w'):=by
 obtain⟨w1,hw1⟩:∃w1,w1=w.alloc (.cells #[.int .i64 q,.string nm,.int .i64 j,.int .i64 d] 87):=⟨_,rfl⟩
 have n1:Hid (New w w1):=by rw[hw1];exact kR.alloc _
 have BX:Blk w1 w.heap.size 87 [.int .i64 q,.string nm,.int .i64 j,.int .i64 d]:=by rw[hw1];exact Blk.made w _ _
 have x2:=BX.q2;have HW:=jH hw1
 have hd:(((j:Nat):Int) != 0)=decide (j≠0):=by
  by_cases h:j=0
  ·subst h;rfl
  ·rw[decide_eq_true h];exact bne_iff_ne.2 (by omega)
 generalize decide (j≠0)=b at *;clear BX hw1;go_enter Tryz.func83,Tryz.ntmps83
 go_upto_region 1 with fail
 rw[←HW.out];go_wp2;go_ret;exact⟨rfl,n1.out⟩
theorem isroot_any (q:Nat) (nm:ByteArray) (j d:Nat) (w:World):Calls Tryz.prog 88 #[.agg #[.int .i64 q,.string nm,.int .i64 j,.int .i64 d]] w (fun e w'=>e=.returned (.bool (decide (d=0)))∧New w w'):=by
 obtain⟨w1,hw1⟩:∃w1,w1=w.alloc (.cells #[.int .i64 q,.string nm,.int .i64 j,.int .i64 d] 87):=⟨_,rfl⟩
 have n1:Hid (New w w1):=by rw[hw1];exact kR.alloc _
 have BX:Blk w1 w.heap.size 87 [.int .i64 q,.string nm,.int .i64 j,.int .i64 d]:=by rw[hw1];exact Blk.made w _ _
 have x2:=BX.q3;have HW:=jH hw1
 have hd:(((d:Nat):Int) == 0)=decide (d=0):=by
  by_cases h:d=0
  ·subst h;rfl
  ·rw[decide_eq_false h];exact beq_eq_false_iff_ne.2 (by omega)
 generalize decide (d=0)=b at *;clear BX hw1;go_enter Tryz.func88,Tryz.ntmps88
 go_upto_region 1 with fail
 rw[←HW.out];go_wp2;go_ret;exact⟨rfl,n1.out⟩
theorem zbu {w u:World} {g:Nat} {a0 a1 a2 a3:Value} (hb:Blk u g 87 [a0,a1,a2,a3]) (hk:New w u) (hg:w.heap.size≤g) (b0 b1 b2 b3:Value):
  Blk ((((u.setCell ⟨g,0,none⟩ b0).setCell ⟨g,1,none⟩ b1).setCell ⟨g,2,none⟩ b2).setCell ⟨g,3,none⟩ b3) g 87 [b0,b1,b2,b3] ∧
  New w ((((u.setCell ⟨g,0,none⟩ b0).setCell ⟨g,1,none⟩ b1).setCell ⟨g,2,none⟩ b2).setCell ⟨g,3,none⟩ b3) ∧
  Kept (·=g) u ((((u.setCell ⟨g,0,none⟩ b0).setCell ⟨g,1,none⟩ b1).setCell ⟨g,2,none⟩ b2).setCell ⟨g,3,none⟩ b3):=
 ⟨(((hb.put 0 b0).put 1 b1).put 2 b2).put 3 b3,
  (((hk.setCell (p:=⟨g,0,none⟩) (fun hh=>absurd hh (Nat.not_lt.2 hg)) b0).setCell (p:=⟨g,1,none⟩) (fun hh=>absurd hh (Nat.not_lt.2 hg)) b1).setCell (p:=⟨g,2,none⟩) (fun hh=>absurd hh (Nat.not_lt.2 hg)) b2).setCell (p:=⟨g,3,none⟩) (fun hh=>absurd hh (Nat.not_lt.2 hg)) b3,
  (((Kept.set1 u g 0 b0).setCell (p:=⟨g,1,none⟩) (fun _=>rfl) b1).setCell (p:=⟨g,2,none⟩) (fun _=>rfl) b2).setCell (p:=⟨g,3,none⟩) (fun _=>rfl) b3⟩
theorem find_any (w0:World) (gt p:Nat) (L:List ND) (G:Option Addr) (m cg:Nat) (g0:List (List UInt8)) (w:World) (h:PT w0 w gt p L) (hR:Rt ⟨p,L⟩) (hg:Txs w G m g0) (hm:m≤1000):
  Calls Tryz.prog 82 #[.pointer (some ⟨gt,0,none⟩),.slice G m cg] w (fun e w'=>e=.returned (.tuple #[spotR (g0.map baL) (zad L (g0.map baL) 0 1),.int .i64 (((zad L (g0.map baL) 0 1).2.2:Nat):Int)])∧New w w'):=by
 obtain⟨ga,c,es,hB,hO,hL,_,hN,hgt⟩:=h;subst hL
 have hm48:es.length≤48:=by have:=hR.len;rwa [zab] at this
 obtain⟨w1,hw1⟩:∃w1,w1=(w.alloc (.cells #[.int .i64 0,.string ⟨#[]⟩,.int .i64 0,.int .i64 0] 87)).alloc (.cells #[.int .i64 0,.string ⟨#[]⟩,.int .i64 1,.int .i64 0] 87):=⟨_,rfl⟩
 have n1:New w w1:=by rw[hw1];exact (kR.alloc _).alloc _
 have BR:Hid (Blk w1 w.heap.size 87 [.int .i64 0,.string ⟨#[]⟩,.int .i64 0,.int .i64 0]):=by rw[hw1];exact (Blk.made w _ _).alloc _
 have BS:Hid (Blk w1 (w.heap.size+1) 87 [.int .i64 0,.string ⟨#[]⟩,.int .i64 1,.int .i64 0]):=by
  have:=Blk.made (w.alloc (.cells #[.int .i64 0,.string ⟨#[]⟩,.int .i64 0,.int .i64 0] 87)) 87 #[.int .i64 0,.string ⟨#[]⟩,.int .i64 1,.int .i64 0]
  rw[World.size_alloc] at this;rw[hw1];exact this
 have H:Hid (∀u,New w u→TIn u (some ⟨ga,0,none⟩) es):=fun u hu=>(hO.new hu).in_
 have HG:Hid (∀u,New w u→Txs u G m g0):=fun u hu=>hg.new hu
 have N1:=jH n1;have HW:=jH hw1;have LG:=jH hg.len;have RR:=jH hR
 have CN:Hid (∀(j:Nat) (y:ND),ndI (nds es) j=some y→∀u,New w u→Calls Tryz.prog 72 #[.pointer (some ⟨gt,0,none⟩),.int .i64 (j:Nat)] u (fun e w'=>e=.returned (.pointer (some ⟨ga,posI (nds es) j*5,none⟩))∧New u w')):=fun j y hy u hu=>by
  have:=zbq gt (.int .i64 p) ga 0 es.length c es j y u (hB.kept hu id) ((hO.new hu).in_) (zab es) hR.ord (by omega) hy
  rwa [Nat.zero_add] at this
 clear hB hO hN hgt n1 hw1 hR hg;go_enter Tryz.func82,Tryz.ntmps82;go_wp2_with fail;rw[←HW.out];clear HW;obtain⟨gr,hgr⟩:∃gr,gr=w.heap.size:=⟨_,rfl⟩;rw[←hgr] at BR BS ⊢
 have HGR:Hid (w.heap.size≤gr):=by rw[Hid,hgr];exact Nat.le_refl _
 have HGS:Hid (w.heap.size≤gr+1):=Nat.le_succ_of_le HGR.out;clear hgr
 go_loopw [15] (fun ti wr=>∃(k q j:Nat),k≤m∧j≤65535∧ti=.int .i64 k∧Hid (zad (nds es) ((g0.map baL).drop k) q j=zad (nds es) (g0.map baL) 0 1)∧Hid (LkP (nds es) ((g0.map baL).take k) q j)∧Hid (New w wr)∧Hid (Blk wr gr 87 [.int .i64 0,.string ⟨#[]⟩,.int .i64 0,.int .i64 0])∧Hid (Blk wr (gr+1) 87 [.int .i64 q,.string (lst ((g0.map baL).take k)),.int .i64 (j:Nat),.int .i64 k])) (fun i _=>m - (intOf i).toNat)
 case atStart=>exact⟨0,0,1,Nat.zero_le _,by omega,rfl,rfl,⟨.inl ⟨rfl,rfl,rfl⟩⟩,N1.out,BR.out,BS.out⟩
 case round=>
  obtain⟨k,q,j,hk,hj5,rfl,HK,HP,HN,VR,VS⟩:=hrel;obtain⟨s0,s1,s2,s3⟩:=VS.out.p4
  by_cases hlt:k < m
  ·obtain⟨gg,og,x,eG,hx,gc⟩:=Txs.at_ (j:=k) (HG.out wr HN.out) hlt;subst eG
   have HD:Hid ((g0.map baL).drop k=baL x::(g0.map baL).drop (k+1)):=by
    have:(g0.map baL)[k]?=some (baL x):=by rw[List.getElem?_map,hx];rfl
    obtain⟨h1,h2⟩:=List.getElem?_eq_some_iff.1 this;rw[Hid,List.drop_eq_getElem_cons h1,h2]
   have HT:Hid ((g0.map baL).take (k+1)=(g0.map baL).take k++[baL x]):=by
    have:(g0.map baL)[k]?=some (baL x):=by rw[List.getElem?_map,hx];rfl
    rw[Hid,List.take_add_one,this];rfl
   have HS:Hid (lst ((g0.map baL).take (k+1))=⟨x.toArray⟩):=by rw[Hid,HT.out,lst_app];rfl
   have gc:wr.cell? ⟨gg,og+k,none⟩=some (.string (baL x)):=gc;clear hx;have CT:=jH (fun u=>zbh q (lst ((g0.map baL).take k)) j k u)
   by_cases h0:j=0
   ·have E9:Hid (spotR (g0.map baL) (zad (nds es) (g0.map baL) 0 1)=spotV 0 ⟨#[]⟩ 0 0∧(zad (nds es) (g0.map baL) 0 1).2.2=12):=by rw[Hid,←HK.out,HD.out,h0,lookF_zero];exact⟨rfl,rfl⟩
    rw[show decide (j≠0)=false from decide_eq_false fun hh=>hh h0] at CT;clear HK HP HD HT HS h0
    go_wp2_with (refine (CT.out _).mono ?_;rintro e w9 ⟨rfl,hK9⟩;have BR9:=VR.out.kept hK9 id;have N9:=HN.out.new hK9;have SL:=jH (zbu BR9 N9 HGR.out (.int .i64 0) (.string ⟨#[]⟩) (.int .i64 0) (.int .i64 0));obtain⟨t0,t1,t2,t3⟩:=BR9.p4;obtain⟨f0,f1,f2,f3⟩:=BR9.f4;clear BR9 N9 hK9)
    obtain⟨B9,N9,_⟩:=SL.out;generalize (((w9.setCell ⟨gr,0,none⟩ (.int .i64 0)).setCell ⟨gr,1,none⟩ (.string ⟨#[]⟩)).setCell ⟨gr,2,none⟩ (.int .i64 0)).setCell ⟨gr,3,none⟩ (.int .i64 0)=wf at *;obtain⟨d0,d1,d2,d3⟩:=B9.p4;refine bodyPost_ret (by simp[results,Tryz.results82,go_sem,d0,d1,d2,d3];try rfl) rfl ?_;exact⟨by rw[E9.out.1,E9.out.2];rfl,N9⟩
   ·rw[show decide (j≠0)=true from decide_eq_true h0] at CT;obtain⟨y,hy⟩:=zce RR.out HP.out h0;obtain⟨z,hz,hzy,hzm⟩:=zbg hy;have CNy:=jH (fun (u:World) (hu:New w u)=>CN.out j y hy u hu)
    have ZC:Hid (∀u,New w u→u.cell? ⟨ga,posI (nds es) j*5+1,none⟩=some (.int .u8 z.n.k)∧u.cell? ⟨ga,posI (nds es) j*5+3,none⟩=some (.slice z.A z.n.ns.length z.c)):=fun u hu=>by
     obtain⟨_,q0,q1,q2,q3,q4⟩:=(H.out u hu).get hz;rw[Nat.zero_add] at q1 q3;exact⟨q1,q3⟩
    have XN:Hid (∀u,New w u→NmIn u z.A z.n.ns):=fun u hu=>((H.out u hu).2 z hzm).1
    have XL:Hid (z.n.ns.length≤288):=RR.out.ns_le (zay hzm);have HY:Hid (ndI (nds es) j=some z.n∧j≠0∧z.n∈nds es):=⟨by rw[hzy];exact hy,h0,zay hzm⟩;have HO:Hid (OrdS z.n.ns):=(RR.out.fin _ (zay hzm)).1;clear hy hz hzy hzm h0;generalize posI (nds es) j=pj at *
    by_cases hk1:z.n.k=1
    ·have d1:(((z.n.k:Nat):Int) != 1)=false:=by rw[hk1];rfl
     have HNX:Hid (zad (nds es) ((g0.map baL).drop (k+1)) j (entF z.n.ns (baL x))=zad (nds es) (g0.map baL) 0 1):=by
      rw[Hid,←HK.out,HD.out,lookF_cons HY.out.2.1 HY.out.1 hk1]
     have HPX:Hid (LkP (nds es) ((g0.map baL).take (k+1)) j (entF z.n.ns (baL x))):=by
      rw[HT.out];exact LkP.snoc (T:=⟨p,nds es⟩) _ HP.out HY.out.2.1 HY.out.1 hk1
     have hlt5:entF z.n.ns (baL x)≤65535:=ent_lt (T:=⟨p,nds es⟩) RR.out HY.out.2.2 _
     have CE:Hid (∀u,New w u→Calls Tryz.prog 100 #[.pointer (some ⟨ga,pj*5,none⟩),.string ⟨x.toArray⟩] u (fun e w'=>e=.returned (.tuple #[.int .i64 (plcN (baL x) z.n.ns:Nat),.bool (fndN (baL x) z.n.ns)])∧New u w')):=fun u hu=>
      mentry_any ga (pj*5) z.A z.n.ns.length z.c z.n.ns (baL x) u (ZC.out u hu).2 (XN.out u hu) rfl HO.out (by have:=XL.out;omega)
     go_upto_region 10 with (first
      | (refine (CT.out _).mono ?_;rintro e w8 ⟨rfl,hK8⟩;have N8:=jH (HN.out.new hK8);have S8:=jH (VS.out.kept hK8 id);have R8:=jH (VR.out.kept hK8 id);have s2:=S8.out.q2;clear hK8)
      | (refine (CNy.out _ N8.out).mono ?_;rintro e w9 ⟨rfl,hK9⟩;have N9:=jH (N8.out.new hK9);have S9:=jH (S8.out.kept hK9 id);have R9:=jH (R8.out.kept hK9 id);have z1:=(ZC.out w9 N9.out).1;have s2:=S9.out.q2;clear hK9))
     have SL:=jH (zbu S9.out N9.out HGS.out (.int .i64 (j:Nat)) (.string ⟨x.toArray⟩) (.int .i64 0) (.int .i64 (((k:Nat):Int)+1)))
     have wk:IntKind.i64.wrap (((k:Nat):Int)+1)=((k:Nat):Int)+1:=by rw[IntKind.wrap_i64];omega
     obtain⟨f0,f1,f2,f3⟩:=S9.out.f4;obtain⟨r0,r1⟩:=S9.out.p2;have r3:=S9.out.q3;have HAY:Hid (entF z.n.ns (baL x)=0∨True):=.inr trivial;clear CT CNy CN s0 s1 s3 z1 HK HP HD HT hk1 HAY
     go_upto_region 11 with fail
     generalize (((w9.setCell ⟨gr+1,0,none⟩ (.int .i64 (j:Nat))).setCell ⟨gr+1,1,none⟩ (.string ⟨x.toArray⟩)).setCell ⟨gr+1,2,none⟩ (.int .i64 0)).setCell ⟨gr+1,3,none⟩ (.int .i64 (((k:Nat):Int)+1))=w10 at *;have N10:=jH SL.out.2.1;have B10:=jH SL.out.1;have R10:=jH (R9.out.kept SL.out.2.2 (by omega));clear SL s2 f0 f1 f2 f3 r0 r1 r3 S9 S8 R8 R9 wk;rw[←HS.out] at B10
     by_cases hnm:zbn (baL x) z.n.ns
     ·obtain⟨h1,h2⟩:=ent_fnd HO.out (baL x) hnm;have hpl:=(List.getElem?_eq_some_iff.1 h2).1;obtain⟨gz,oz,_,eZ,_⟩:=NmIn.at_ (XN.out w10 N10.out) (i:=plcN (baL x) z.n.ns) hpl
      have ZE:Hid (∀u,New w u→u.cell? ⟨gz,oz+plcN (baL x) z.n.ns*2+1,none⟩=some (.int .i64 (entF z.n.ns (baL x):Nat))∧u.cell? ⟨ga,pj*5+3,none⟩=some (.slice (some ⟨gz,oz,none⟩) z.n.ns.length z.c)):=fun u hu=>by
       have h3:=XN.out u hu;have h4:=(ZC.out u hu).2;rw[eZ] at h3 h4;exact⟨(NmIn.get h3 h2).2,h4⟩
      rw[h1] at CE
      have sp:((plcN (baL x) z.n.ns:Nat):Int) < ((z.n.ns.length:Nat):Int):=by omega
      clear h1 h2 hnm eZ ZC XN HO HY;generalize plcN (baL x) z.n.ns=pn at *;generalize entF z.n.ns (baL x)=en at *;generalize z.n.ns.length=zl at *
      go_upto_region 13 with (refine (CE.out _ N10.out).mono ?_;rintro e w11 ⟨rfl,hK⟩;have N11:=jH (N10.out.new hK);have B11:=jH (B10.out.kept hK id);have R11:=jH (R10.out.kept hK id);clear hK)
      obtain⟨q1,q2⟩:=ZE.out w11 N11.out;have g2:=B11.out.free 2;have v2:=B11.out.q2;have B12:Hid (Blk (w11.setCell ⟨gr+1,2,none⟩ (.int .i64 en)) (gr+1) 87 [.int .i64 (j:Nat),.string (lst ((g0.map baL).take (k+1))),.int .i64 en,.int .i64 (k+1:Nat)]):=B11.out.put 2 _;have N12:Hid (New w (w11.setCell ⟨gr+1,2,none⟩ (.int .i64 en))):=N11.out.setCell (p:=⟨gr+1,2,none⟩) (fun hh=>absurd hh (Nat.not_lt.2 HGS.out)) _;have R12:Hid (Blk (w11.setCell ⟨gr+1,2,none⟩ (.int .i64 en)) gr 87 [.int .i64 0,.string ⟨#[]⟩,.int .i64 0,.int .i64 0]):=R11.out.kept (Kept.set1 _ _ _ _) (by omega);clear B11 N11 R11 B10 N10 R10 HS
      go_wp2_with fail;go_roundw
      case rel=>exact⟨k+1,j,en,by omega,hlt5,by go_num,HNX,HPX,N12,R12,B12⟩
      case measure=>simp[intOf];omega
     ·have h1:=fndN_no hnm;rw[h1] at CE;rw[entF_none hnm] at HNX HPX;clear h1 hnm HO HY XN ZC HS hlt5;generalize plcN (baL x) z.n.ns=pn at *
      go_wp2_with (refine (CE.out _ N10.out).mono ?_;rintro e w11 ⟨rfl,hK⟩;have N11:=jH (N10.out.new hK);have B11:=jH (B10.out.kept hK id);have R11:=jH (R10.out.kept hK id);clear hK)
      go_roundw
      case rel=>exact⟨k+1,j,0,by omega,by omega,by go_num,HNX,HPX,N11,R11,B11⟩
      case measure=>simp[intOf];omega
    ·have d1:(((z.n.k:Nat):Int) != 1)=true:=bne_iff_ne.2 (by omega)
     have E9:Hid (spotR (g0.map baL) (zad (nds es) (g0.map baL) 0 1)=spotV 0 ⟨#[]⟩ 0 0∧(zad (nds es) (g0.map baL) 0 1).2.2=14):=by rw[Hid,←HK.out,HD.out,lookF_kind HY.out.2.1 HY.out.1 hk1];exact⟨rfl,rfl⟩
     clear HK HP HD HT HS hk1
     go_wp2_with (first
      | (refine (CT.out _).mono ?_;rintro e w8 ⟨rfl,hK8⟩;have N8:=jH (HN.out.new hK8);have s2:=(VS.out.kept hK8 id).q2;have HN:=N8;have VR:=jH (VR.out.kept hK8 id);clear hK8)
      | (refine (CNy.out _ N8.out).mono ?_;rintro e w9 ⟨rfl,hK9⟩;have z1:=(ZC.out w9 (N8.out.new hK9)).1;have BR9:=VR.out.kept hK9 id;have N9:=HN.out.new hK9;have SL:=jH (zbu BR9 N9 HGR.out (.int .i64 0) (.string ⟨#[]⟩) (.int .i64 0) (.int .i64 0));obtain⟨t0,t1,t2,t3⟩:=BR9.p4;obtain⟨f0,f1,f2,f3⟩:=BR9.f4;clear BR9 N9 hK9))
     obtain⟨B9,N9,_⟩:=SL.out;generalize (((w9.setCell ⟨gr,0,none⟩ (.int .i64 0)).setCell ⟨gr,1,none⟩ (.string ⟨#[]⟩)).setCell ⟨gr,2,none⟩ (.int .i64 0)).setCell ⟨gr,3,none⟩ (.int .i64 0)=wf at *;obtain⟨d0,d1,d2,d3⟩:=B9.p4;refine bodyPost_ret (by simp[results,Tryz.results82,go_sem,d0,d1,d2,d3];try rfl) rfl ?_;exact⟨by rw[E9.out.1,E9.out.2];rfl,N9⟩
  ·obtain rfl:k=m:=by omega
   have HZ:Hid (zad (nds es) (g0.map baL) 0 1=(q,j,0)):=by
    rw[Hid,←HK.out,List.drop_of_length_le (by rw[List.length_map,LG.out];exact Nat.le_refl _)];rfl
   have HZL:Hid (lst ((g0.map baL).take k)=lst (g0.map baL)):=by rw[Hid,List.take_of_length_le (by rw[List.length_map,LG.out];exact Nat.le_refl _)]
   have HZK:Hid ((g0.map baL).length=k):=by rw[Hid,List.length_map,LG.out]
   rw[HZL.out] at s1;have SL:=jH (zbu VR.out HN.out HGR.out (.int .i64 q) (.string (lst (g0.map baL))) (.int .i64 (j:Nat)) (.int .i64 k));obtain⟨t0,t1,t2,t3⟩:=VR.out.p4;obtain⟨f0,f1,f2,f3⟩:=VR.out.f4;go_wp2_with fail;obtain⟨B9,N9,_⟩:=SL.out;generalize (((wr.setCell ⟨gr,0,none⟩ (.int .i64 q)).setCell ⟨gr,1,none⟩ (.string (lst (g0.map baL)))).setCell ⟨gr,2,none⟩ (.int .i64 (j:Nat))).setCell ⟨gr,3,none⟩ (.int .i64 k)=wf at *;obtain⟨d0,d1,d2,d3⟩:=B9.p4;refine bodyPost_ret (by simp[results,Tryz.results82,go_sem,d0,d1,d2,d3];try rfl) rfl ?_;exact⟨by rw[HZ.out];show _=Ending.returned (.tuple #[spotV q (lst (g0.map baL)) j (g0.map baL).length,.int .i64 0]);rw[HZK.out];rfl,N9⟩
end
end Go.Proofs.YtjjamoemheljdaaGreat
