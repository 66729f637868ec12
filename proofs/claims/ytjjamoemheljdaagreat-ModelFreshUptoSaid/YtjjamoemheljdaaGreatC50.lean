/-
  Layer 7: contracts (Qi Qj).
-/
import Derived.Test.YtjjamoemheljdaaGreatC48
namespace Go.Proofs.YtjjamoemheljdaaGreat
set_option maxRecDepth 100000
set_option maxHeartbeats 8000000
set_option linter.unusedSimpArgs false
set_option linter.unusedVariables false
section
open Go.RowKit
theorem rdo_mk1 (p:Nat) (A:Option Addr) (n c:Nat) (es:List NE) (sp st:ByteArray) (av nv:Int) (Ab:Option Addr) (bl bc:Nat) (ab:List Nat) (w:World) (h:TIn w A es) (hn:es.length=n) (hR:Rt ⟨p,nds es⟩) (hs:sp.size≤1048576) (_ht:st.size≤1048576) (hab:Bts w Ab bl ab)
  (q j:Nat) (hpe:peB sp=0) (hlk:zad (nds es) (pnB sp) 0 1=(q,j,0)):
  Calls Tryz.prog 17 #[.agg #[.int .i64 p,.slice A n c],.agg #[.int .u8 1,.string sp,.string st,.int .i64 av,.int .i64 nv,.slice Ab bl bc]] w
   (DoP w p w.heap.size none (actF ⟨p,nds es⟩ ⟨1,sp,st,av,nv,ab⟩ (pnB sp) [] q j 0 0).1.l (actF ⟨p,nds es⟩ ⟨1,sp,st,av,nv,ab⟩ (pnB sp) [] q j 0 0).2):=by
 obtain⟨w1,hw1⟩:∃w1,w1=(((w.alloc (.cells #[.int .i64 p,.slice A n c] 25)).alloc (.cells #[.int .u8 1,.string sp,.string st,.int .i64 av,.int .i64 nv,.slice Ab bl bc] 34)).alloc (.cells #[.int .i64 0,.slice none 0 0] 25)).alloc (.cells #[.int .i64 0,.int .i64 0,.int .i64 0,.int .u8 0,.int .i64 0,.int .i64 0,.slice none 0 0,.slice none 0 0] 41):=⟨_,rfl⟩
 have n1:New w w1:=by rw[hw1];exact (((kR.alloc _).alloc _).alloc _).alloc _
 have BT1:Hid (Blk w1 w.heap.size 25 [.int .i64 p,.slice A n c]):=by rw[hw1];exact (((Blk.made w _ _).alloc _).alloc _).alloc _
 have BC1:Hid (Blk w1 (w.heap.size+1) 34 [.int .u8 1,.string sp,.string st,.int .i64 av,.int .i64 nv,.slice Ab bl bc]):=by
  have:=Blk.made (w.alloc (.cells #[.int .i64 p,.slice A n c] 25)) 34 #[.int .u8 1,.string sp,.string st,.int .i64 av,.int .i64 nv,.slice Ab bl bc]
  rw[World.size_alloc] at this;rw[hw1];exact (this.alloc _).alloc _
 have BR1:Hid (Blk w1 (w.heap.size+1+1) 25 [.int .i64 0,.slice none 0 0]):=by
  have:=Blk.made ((w.alloc (.cells #[.int .i64 p,.slice A n c] 25)).alloc (.cells #[.int .u8 1,.string sp,.string st,.int .i64 av,.int .i64 nv,.slice Ab bl bc] 34)) 25 #[.int .i64 0,.slice none 0 0]
  rw[World.size_alloc,World.size_alloc] at this;rw[hw1];exact this.alloc _
 have BA1:Hid (Blk w1 (w.heap.size+1+1+1) 41 [.int .i64 0,.int .i64 0,.int .i64 0,.int .u8 0,.int .i64 0,.int .i64 0,.slice none 0 0,.slice none 0 0]):=by
  have:=Blk.made (((w.alloc (.cells #[.int .i64 p,.slice A n c] 25)).alloc (.cells #[.int .u8 1,.string sp,.string st,.int .i64 av,.int .i64 nv,.slice Ab bl bc] 34)).alloc (.cells #[.int .i64 0,.slice none 0 0] 25)) 41 #[.int .i64 0,.int .i64 0,.int .i64 0,.int .u8 0,.int .i64 0,.int .i64 0,.slice none 0 0,.slice none 0 0]
  rw[World.size_alloc,World.size_alloc,World.size_alloc] at this;rw[hw1];exact this
 have CC:=jH (zau p A n c es w1 (h.new n1) hn hR);have N1:=jH n1;have HW:=jH hw1;have RR:=jH hR;have HAB:=jH hab;obtain⟨D,hD⟩:∃D,D=actF ⟨p,nds es⟩ ⟨1,sp,st,av,nv,ab⟩ (pnB sp) [] q j 0 0:=⟨_,rfl⟩;rw[←hD];have HD:=jH hD;obtain⟨g1,hg1⟩:∃g,g=pN sp.data.toList:=⟨_,rfl⟩
 have e1:pnB sp=g1.map baL:=by rw[hg1];rfl
 have L1:Hid (g1.length≤6):=by rw[hg1];exact zcc _
 have CP1:Hid (∀u,Calls Tryz.prog 35 #[.string sp] u (RetP u g1 0)):=fun u=>by
  have:=zaj sp u hs
  rw[←hg1,show pE sp.data.toList=0 from hpe] at this;exact this
 rw[e1] at hlk;rw[e1] at HD;have HLK:=jH hlk;clear e1 hg1 hlk hpe hs;clear h n1 hw1 hn hR hab hD;go_enter Tryz.func17,Tryz.ntmps17;generalize hqq:(bodyPost _ _ _:Exit→Act→World→Prop)=QQ
 go_upto_region 1 with fail
 rw[←HW.out];clear HW;obtain⟨gk,hgk⟩:∃gk,gk=w.heap.size:=⟨_,rfl⟩;rw[←hgk] at BT1 BC1 BR1 BA1;have GK:=jH hgk
 have GKS:Hid (∀u:World,New w u→gk≤u.heap.size):=fun u hu=>by rw[hgk];exact hu.size
 obtain⟨a0,a1⟩:=BT1.out.p2;rw[←hgk];clear hgk;go_wp2_with fail;refine CC.out.mono ?_;rintro e w2 ⟨A2,c2,es2,rfl,hL0,T2,k2⟩;have hL:nds es2=nds es:=hL0;clear hL0;obtain⟨w3,hw3⟩:∃w3,w3=(w2.setCell ⟨gk,0,none⟩ (.int .i64 p)).setCell ⟨gk,1,none⟩ (.slice A2 es2.length c2):=⟨_,rfl⟩;have BE:=BT1.out.kept k2 id;obtain⟨e0,e1⟩:=BE.p2;obtain⟨f0,f1⟩:=BE.f2
 have K3:Kept (·=gk) w2 w3:=by rw[hw3];exact (Kept.set1 _ _ _ _).setCell (p:=⟨gk,1,none⟩) (fun _=>rfl) _
 have BT3:Hid (Blk w3 gk 25 [.int .i64 p,.slice A2 es2.length c2]):=by rw[hw3];exact (BE.put 0 _).put 1 _
 have BC3:=jH ((BC1.out.kept k2 id).kept K3 (by omega));have BR3:=jH ((BR1.out.kept k2 id).kept K3 (by omega));have BA3:=jH ((BA1.out.kept k2 id).kept K3 (by omega));have T3:=jH (TOwn.far (T2.mono N1.out.size) K3 BE.at_ (by decide) (by decide) (by decide))
 have N3:Hid (New w w3):=by
  rw[hw3];exact ((N1.out.new k2).setCell (p:=⟨gk,0,none⟩) (fun hh=>absurd hh (by rw[GK.out];exact Nat.lt_irrefl _)) _).setCell (p:=⟨gk,1,none⟩) (fun hh=>absurd hh (by rw[GK.out];exact Nat.lt_irrefl _)) _
 have HW3:=jH hw3;rw[←hL] at RR HD HLK;clear BT1 BC1 BR1 BA1 CC T2 k2 hw3 BE K3 a0 a1 hL
 go_upto_region 2 with fail
 rw[←HW3.out];clear HW3 e0 e1 f0 f1;have CR:=jH (zao p A2 es2.length c2 es2 w3 T3.out.in_ rfl RR.out);obtain⟨b0,b1⟩:=BT3.out.p2;go_wp2_with fail;refine CR.out.mono ?_;rintro e wb ⟨rfl,k4⟩;have BT:=jH (BT3.out.kept k4 id);have BC:=jH (BC3.out.kept k4 id);have BR:=jH (BR3.out.kept k4 id);have BA:=jH (BA3.out.kept k4 id);have HT:=jH (T3.out.new k4);have NW:=jH (N3.out.new k4);have AB:=jH (HAB.out.new (N3.out.new k4));have HWB:Hid (w.heap.size≤wb.heap.size):=NW.out.size
 have M48:Hid (es2.length≤48):=by have:=RR.out.len;rwa [zab] at this
 clear BT3 BC3 BR3 BA3 T3 N3 k4 b0 b1 CR HAB N1;generalize hm:es2.length=m at *;have LN:=jH hm;clear hm;have NB:Hid (New wb wb):=kR;obtain⟨a0,a1⟩:=(BC.out.kept NB.out id).p2;go_wp2_with fail;refine (CP1.out _).mono ?_;rintro e w5 ⟨G1,c1,rfl,O1,k5⟩;have N5:=jH k5;obtain⟨n1,hn1⟩:∃n1,n1=g1.length:=⟨_,rfl⟩
 have X1:Hid (∀u,New w5 u→Txs u G1 n1 g1):=fun u hu=>by rw[hn1];exact O1.txs.new hu
 have O1:Hid (∀x,G1=some x→At w5 x.block 9):=fun x hx=>(O1.at_ x hx).1
 rw[←hn1] at L1 ⊢;have LG1:=jH hn1;clear k5 a0 a1 hn1 CP1;obtain⟨b0,b1⟩:=(BT.out.kept N5.out id).p2;have a0:=(BC.out.kept N5.out id).q0;have CL1:=jH (zat p A2 m c2 es2 G1 n1 c1 g1 w5 (HT.out.new N5.out).in_ LN.out RR.out (X1.out w5 kR) (by have:=L1.out;omega));rw[HLK.out] at CL1;go_wp2_with fail;refine CL1.out.mono ?_;rintro e w7 ⟨rfl,k7⟩;have N7:Hid (New wb w7):=N5.out.new k7
 have X1:Hid (∀u,New w7 u→Txs u G1 n1 g1):=fun u hu=>X1.out u (Kept.new k7 hu)
 have O1:Hid (∀x,G1=some x→At w7 x.block 9):=fun x hx=>(O1.out x hx).kept k7 id
 clear k7 b0 b1 CL1 a0;have HP1:=jH (zbx RR.out HLK.out)
 have HD2:Hid (D=mkF ⟨p,nds es2⟩ ⟨1,sp,st,av,nv,ab⟩ (g1.map baL) q j):=by
  rw[Hid,HD.out];unfold actF;rw[if_pos (by simp)]
 clear HLK HD;have a0:=(BC.out.kept N7.out id).q0
 go_upto_if 101 with fail
 by_cases hj0:j=0
 ·have d1:(((j:Nat):Int) != 0)=false:=bne_eq_false_iff_eq.2 (by omega)
  have M1:Hid ((nds es2).length=m):=by rw[Hid,zab];exact LN.out
  by_cases hm48:48≤m
  ·have d2:decide (48≤m)=true:=decide_eq_true hm48
   have EM:Hid (D=(⟨p,nds es2⟩,erA 3)):=by
    rw[Hid,HD2.out];unfold mkF;rw[if_neg (by simpa using hj0),if_pos (by rw[M1.out];exact hm48)]
   clear HD2;have BRZ:=jH (BR.out.kept N7.out id);have BAZ:=jH (BA.out.kept N7.out id);have BTZ:=BT.out.kept N7.out id;obtain⟨b0,b1⟩:=BTZ.p2;have HTZ:=jH (HT.out.new N7.out);have LNZ:=LN
   have KWZ:Hid (Kept (zak none) w w7):=(NW.out.new N7.out).mono fun _ _ f=>f.elim
   obtain⟨t0,t1⟩:=BRZ.out.p2;obtain⟨f0,f1⟩:=BRZ.out.f2;obtain⟨r0,r1,r2,r3,r4,r5,r6,r7⟩:=BAZ.out.p8;obtain⟨g0,g1,g2,g3,g4,g5,g6,g7⟩:=BAZ.out.f8;have HLD:Hid (((((((((((w7.setCell ⟨gk+1+1,0,none⟩ (.int .i64 p)).setCell ⟨gk+1+1,1,none⟩ (.slice (A2) m c2)).setCell ⟨gk+1+1+1,0,none⟩ (.int .i64 3)).setCell ⟨gk+1+1+1,1,none⟩ (.int .i64 0)).setCell ⟨gk+1+1+1,2,none⟩ (.int .i64 0)).setCell ⟨gk+1+1+1,3,none⟩ (.int .u8 0)).setCell ⟨gk+1+1+1,4,none⟩ (.int .i64 0)).setCell ⟨gk+1+1+1,5,none⟩ (.int .i64 0)).setCell ⟨gk+1+1+1,6,none⟩ (.slice none 0 0)).setCell ⟨gk+1+1+1,7,none⟩ (.slice none 0 0))=laid w7 (gk+1+1) (gk+1+1+1) p (A2) m c2 (erA 3) none 0 0 none 0 0):=rfl
   have DD:=jH (zag (w:=w) (A0:=none) (a:=erA 3) (p:=p) (c:=c2) (n:=m) (d':=0) (t':=0) (B':=none) (m:=0) (q:=0) (T':=none) BRZ.out BAZ.out (by have:=GK.out;omega) (by have:=GK.out;omega) HTZ.out LNZ.out rfl (OwnB.nil _ _ _) rfl (Txs.nil _ _) (fun _ h=>by cases h) rfl KWZ.out);have DB:=jH (zae (p:=p) (A:=A2) (n:=m) (c:=c2) (a:=erA 3) (d':=0) (t':=0) (B':=none) (m:=0) (q:=0) (T':=none) BRZ.out BAZ.out);clear HTZ KWZ;go_wp2_with fail;rw[HLD.out];generalize laid w7 (gk+1+1) (gk+1+1+1) p (A2) m c2 (erA 3) none 0 0 none 0 0=wf at *;have d0:=DB.out.1.cell 0;have d1:=DB.out.1.cell 1;have d2:=DB.out.2.cell 0
   have d3:=DB.out.2.cell 1;have d4:=DB.out.2.cell 2;have d5:=DB.out.2.cell 3;have d6:=DB.out.2.cell 4;have d7:=DB.out.2.cell 5;have d8:=DB.out.2.cell 6;have d9:=DB.out.2.cell 7;simp at d0 d1 d2 d3 d4 d5 d6 d7 d8 d9
   try simp only[Exit.then]
   rw[←hqq];refine bodyPost_ret (by simp[results,Tryz.results17,go_sem,d0,d1,d2,d3,d4,d5,d6,d7,d8,d9];try rfl) rfl ?_;rw[EM.out];exact DD.out
  have d2:decide (48≤m)=false:=decide_eq_false hm48
  have EM:Hid (D=(⟨p,makeE (nds es2) q (lst (g1.map baL)) 1⟩,{ erA 0 with i:=zbj (nds es2) })):=by
   rw[Hid,HD2.out];unfold mkF;rw[if_neg (by simpa using hj0),if_neg (by rw[M1.out];exact hm48)]
  have hgne:g1.map baL≠[]:=by
   obtain⟨dd,hdd⟩:=RR.out.dep;obtain⟨_,_,hgl,_,_,_,_,_,_⟩:=HP1.out.dir RR.out hdd (.inr (by omega));rw[hgl];simp
  obtain⟨qn,hqn,hqk,hje,hqo⟩:=dir_nd RR.out HP1.out hgne
  have QN:Hid (ndI (nds es2) q=some qn∧OrdS qn.ns∧¬zbn (lst (g1.map baL)) qn.ns∧qn.ns.length≤300):=by
   have hqm:=(zaa hqn).1
   have:=RR.out.ns_le hqm
   exact⟨hqn,hqo,zci (RR.out.ent_ne hqm) (by rw[←hj0];exact hje),by omega⟩
  have HG1:Hid (0 < n1):=by
   have h1:=LG1.out
   rcases Nat.eq_zero_or_pos n1 with e|e
   ·exact absurd (List.map_eq_nil_iff.2 (List.eq_nil_of_length_eq_zero (by omega))) hgne
   ·exact e
  clear HD2 hgne hqn hqk hje hqo HP1;obtain⟨b0,b1⟩:=(BT.out.kept N7.out id).p2
  go_upto_region 28 with fail
  clear hj0 d1;obtain⟨k1,hk1⟩:∃k,n1=k+1:=⟨n1 - 1,by have:=HG1.out;omega⟩;subst hk1
  have ki1:k1≤5:=by have:=L1.out;omega
  obtain⟨gg1,o1,x1,eG1,hx1,_⟩:=(X1.out w7 kR).at_ (j:=k1) (by omega);subst eG1
  have S1:Hid (∀u,New w7 u→u.cell? ⟨gg1,o1+k1,none⟩=some (.string (baL x1))):=fun u hu=>by
   obtain⟨b',o',x',e,hx',hc⟩:=(X1.out u hu).at_ (j:=k1) (by omega)
   injection e with e;injection e with e1 e2;subst e1 e2;rw[hx1] at hx';injection hx' with hx';subst hx';exact hc
  have E1:Hid (lst (g1.map baL)=baL x1):=lst_map LG1.out.symm hx1;clear hx1
  have sk1:((k1:Nat):Int) < ((k1:Nat):Int)+1:=by omega
  have wk1:IntKind.i64.wrap ((k1:Nat):Int)=((k1:Nat):Int):=by rw[IntKind.wrap_i64];omega
  have c0:=S1.out w7 kR;rw[E1.out] at QN EM
  have CL:Hid (∀u,New wb u→Calls Tryz.prog 37 #[.agg #[.int .i64 p,.slice A2 m c2],.int .i64 q,.string (baL x1),.int .u8 1] u (MadeP u p w.heap.size (makeE (nds es2) q (baL x1) 1) (zbj (nds es2)))):=fun u hu=>
   rmade_any p A2 m c2 w.heap.size es2 q 1 (baL x1) qn u (HT.out.new hu) (Nat.le_trans HWB.out hu.size) LN.out (by omega) RR.out.ord (fun x hx=>(RR.out.rng x hx).1) QN.out.1 QN.out.2.1 QN.out.2.2.1 QN.out.2.2.2
  clear X1 O1 S1
  go_cut [14,15] from 21 to 284 (fun a b wx=>∃(gu:Nat) (A3:Option Addr) (c3:Nat) (es3:List NE),a=.pointer (some ⟨gu,0,none⟩)∧b=.int .i64 (zbj (nds es2):Nat)∧Hid (Blk wx gu 25 [.int .i64 p,.slice A3 es3.length c3])∧Hid (nds es3=makeE (nds es2) q (baL x1) 1)∧Hid (TOwn wx w.heap.size A3 c3 es3)∧Hid (New w7 wx))
  case first=>
   subst hqq;refine reg28 gk (gk+1) gg1 o1 k1 c1 q 1 p m c2 w.heap.size (zbj (nds es2)) A2 (baL x1) (makeE (nds es2) q (baL x1) 1) w7 _ ⟨b0,b1,c0,a0⟩ ki1 (Nat.le_trans HWB.out N7.out.size) (fun u hu=>CL.out u (N7.out.new hu)) ?_;intro v112 v113 v114 v115 v116 v117 v118 v119 v120 v121 v122 v123 v124 v125 gu A3 c3 es3 wx h1 h2 h3 h4;simp only[Exit.then];refine (‹∀(a':Act) (w':World),Met _ a' w'→_›) _ _ ?_
   go_meet
   case rel=>exact⟨gu,A3,c3,es3,rfl,rfl,h1,h2,h3,h4⟩
  case rest=>
   obtain⟨gu,A3,c3,es3,rfl,rfl,BU,HL3,TR3,NC⟩:=hcut;have NCW:Hid (New wb wc):=N7.out.new NC.out;have BR3:=jH (BR.out.kept NCW.out id);have BA3:=jH (BA.out.kept NCW.out id)
   have KW3:Hid (Kept (zak none) w wc):=(NW.out.new NCW.out).mono fun _ _ f=>f.elim
   obtain⟨u0,u1⟩:=BU.out.p2;clear CL QN b0 b1 c0;generalize zbj (nds es2)=fi at *;obtain⟨t0,t1⟩:=BR3.out.p2;obtain⟨f0,f1⟩:=BR3.out.f2;obtain⟨r0,r1,r2,r3,r4,r5,r6,r7⟩:=BA3.out.p8;obtain⟨g0,g1,g2,g3,g4,g5,g6,g7⟩:=BA3.out.f8;go_wp2_with fail;have HLD:Hid (((((((((((wc.setCell ⟨gk+1+1,0,none⟩ (.int .i64 p)).setCell ⟨gk+1+1,1,none⟩ (.slice (A3) es3.length c3)).setCell ⟨gk+1+1+1,0,none⟩ (.int .i64 0)).setCell ⟨gk+1+1+1,1,none⟩ (.int .i64 fi)).setCell ⟨gk+1+1+1,2,none⟩ (.int .i64 0)).setCell ⟨gk+1+1+1,3,none⟩ (.int .u8 0)).setCell ⟨gk+1+1+1,4,none⟩ (.int .i64 0)).setCell ⟨gk+1+1+1,5,none⟩ (.int .i64 0)).setCell ⟨gk+1+1+1,6,none⟩ (.slice none 0 0)).setCell ⟨gk+1+1+1,7,none⟩ (.slice none 0 0))=laid wc (gk+1+1) (gk+1+1+1) p (A3) es3.length c3 ({ erA 0 with i:=fi }) none 0 0 none 0 0):=rfl
   have DD:=jH (zag (w:=w) (A0:=none) (a:={ erA 0 with i:=fi }) (p:=p) (c:=c3) (n:=es3.length) (d':=0) (t':=0) (B':=none) (m:=0) (q:=0) (T':=none) BR3.out BA3.out (by have:=GK.out;omega) (by have:=GK.out;omega) TR3.out rfl HL3.out (OwnB.nil _ _ _) rfl (Txs.nil _ _) (fun _ h=>by cases h) rfl KW3.out);have DB:=jH (zae (p:=p) (A:=A3) (n:=es3.length) (c:=c3) (a:={ erA 0 with i:=fi }) (d':=0) (t':=0) (B':=none) (m:=0) (q:=0) (T':=none) BR3.out BA3.out);rw[HLD.out];generalize laid wc (gk+1+1) (gk+1+1+1) p (A3) es3.length c3 ({ erA 0 with i:=fi }) none 0 0 none 0 0=wf at *;have d0:=DB.out.1.cell 0;have d1:=DB.out.1.cell 1
   have d2:=DB.out.2.cell 0;have d3:=DB.out.2.cell 1;have d4:=DB.out.2.cell 2;have d5:=DB.out.2.cell 3;have d6:=DB.out.2.cell 4;have d7:=DB.out.2.cell 5;have d8:=DB.out.2.cell 6;have d9:=DB.out.2.cell 7;simp at d0 d1 d2 d3 d4 d5 d6 d7 d8 d9
   try simp only[Exit.then]
   rw[←hqq];refine bodyPost_ret (by simp[results,Tryz.results17,go_sem,d0,d1,d2,d3,d4,d5,d6,d7,d8,d9];try rfl) rfl ?_;rw[EM.out]
   first
    | exact DD.out
    | exact DD.out.drew
 ·have d1:(((j:Nat):Int) != 0)=true:=bne_iff_ne.2 (by omega)
  have EM:Hid (D=(⟨p,nds es2⟩,erA 13)):=by
   rw[Hid,HD2.out];unfold mkF;rw[if_pos hj0]
  clear HD2;have BRZ:=jH (BR.out.kept N7.out id);have BAZ:=jH (BA.out.kept N7.out id);have BTZ:=BT.out.kept N7.out id;obtain⟨b0,b1⟩:=BTZ.p2;have HTZ:=jH (HT.out.new N7.out);have LNZ:=LN
  have KWZ:Hid (Kept (zak none) w w7):=(NW.out.new N7.out).mono fun _ _ f=>f.elim
  obtain⟨t0,t1⟩:=BRZ.out.p2;obtain⟨f0,f1⟩:=BRZ.out.f2;obtain⟨r0,r1,r2,r3,r4,r5,r6,r7⟩:=BAZ.out.p8;obtain⟨g0,g1,g2,g3,g4,g5,g6,g7⟩:=BAZ.out.f8;have HLD:Hid (((((((((((w7.setCell ⟨gk+1+1,0,none⟩ (.int .i64 p)).setCell ⟨gk+1+1,1,none⟩ (.slice (A2) m c2)).setCell ⟨gk+1+1+1,0,none⟩ (.int .i64 13)).setCell ⟨gk+1+1+1,1,none⟩ (.int .i64 0)).setCell ⟨gk+1+1+1,2,none⟩ (.int .i64 0)).setCell ⟨gk+1+1+1,3,none⟩ (.int .u8 0)).setCell ⟨gk+1+1+1,4,none⟩ (.int .i64 0)).setCell ⟨gk+1+1+1,5,none⟩ (.int .i64 0)).setCell ⟨gk+1+1+1,6,none⟩ (.slice none 0 0)).setCell ⟨gk+1+1+1,7,none⟩ (.slice none 0 0))=laid w7 (gk+1+1) (gk+1+1+1) p (A2) m c2 (erA 13) none 0 0 none 0 0):=rfl
  have DD:=jH (zag (w:=w) (A0:=none) (a:=erA 13) (p:=p) (c:=c2) (n:=m) (d':=0) (t':=0) (B':=none) (m:=0) (q:=0) (T':=none) BRZ.out BAZ.out (by have:=GK.out;omega) (by have:=GK.out;omega) HTZ.out LNZ.out rfl (OwnB.nil _ _ _) rfl (Txs.nil _ _) (fun _ h=>by cases h) rfl KWZ.out);have DB:=jH (zae (p:=p) (A:=A2) (n:=m) (c:=c2) (a:=erA 13) (d':=0) (t':=0) (B':=none) (m:=0) (q:=0) (T':=none) BRZ.out BAZ.out);clear HTZ KWZ;go_wp2_with fail;rw[HLD.out];generalize laid w7 (gk+1+1) (gk+1+1+1) p (A2) m c2 (erA 13) none 0 0 none 0 0=wf at *;have d0:=DB.out.1.cell 0;have d1:=DB.out.1.cell 1;have d2:=DB.out.2.cell 0
  have d3:=DB.out.2.cell 1;have d4:=DB.out.2.cell 2;have d5:=DB.out.2.cell 3;have d6:=DB.out.2.cell 4;have d7:=DB.out.2.cell 5;have d8:=DB.out.2.cell 6;have d9:=DB.out.2.cell 7;simp at d0 d1 d2 d3 d4 d5 d6 d7 d8 d9
  try simp only[Exit.then]
  rw[←hqq];refine bodyPost_ret (by simp[results,Tryz.results17,go_sem,d0,d1,d2,d3,d4,d5,d6,d7,d8,d9];try rfl) rfl ?_;rw[EM.out];exact DD.out
end
section
open Go.RowKit
theorem rdo_mk2 (p:Nat) (A:Option Addr) (n c:Nat) (es:List NE) (sp st:ByteArray) (av nv:Int) (Ab:Option Addr) (bl bc:Nat) (ab:List Nat) (w:World) (h:TIn w A es) (hn:es.length=n) (hR:Rt ⟨p,nds es⟩) (hs:sp.size≤1048576) (_ht:st.size≤1048576) (hab:Bts w Ab bl ab)
  (q j:Nat) (hpe:peB sp=0) (hlk:zad (nds es) (pnB sp) 0 1=(q,j,0)):
  Calls Tryz.prog 17 #[.agg #[.int .i64 p,.slice A n c],.agg #[.int .u8 2,.string sp,.string st,.int .i64 av,.int .i64 nv,.slice Ab bl bc]] w
   (DoP w p w.heap.size none (actF ⟨p,nds es⟩ ⟨2,sp,st,av,nv,ab⟩ (pnB sp) [] q j 0 0).1.l (actF ⟨p,nds es⟩ ⟨2,sp,st,av,nv,ab⟩ (pnB sp) [] q j 0 0).2):=by
 obtain⟨w1,hw1⟩:∃w1,w1=(((w.alloc (.cells #[.int .i64 p,.slice A n c] 25)).alloc (.cells #[.int .u8 2,.string sp,.string st,.int .i64 av,.int .i64 nv,.slice Ab bl bc] 34)).alloc (.cells #[.int .i64 0,.slice none 0 0] 25)).alloc (.cells #[.int .i64 0,.int .i64 0,.int .i64 0,.int .u8 0,.int .i64 0,.int .i64 0,.slice none 0 0,.slice none 0 0] 41):=⟨_,rfl⟩
 have n1:New w w1:=by rw[hw1];exact (((kR.alloc _).alloc _).alloc _).alloc _
 have BT1:Hid (Blk w1 w.heap.size 25 [.int .i64 p,.slice A n c]):=by rw[hw1];exact (((Blk.made w _ _).alloc _).alloc _).alloc _
 have BC1:Hid (Blk w1 (w.heap.size+1) 34 [.int .u8 2,.string sp,.string st,.int .i64 av,.int .i64 nv,.slice Ab bl bc]):=by
  have:=Blk.made (w.alloc (.cells #[.int .i64 p,.slice A n c] 25)) 34 #[.int .u8 2,.string sp,.string st,.int .i64 av,.int .i64 nv,.slice Ab bl bc]
  rw[World.size_alloc] at this;rw[hw1];exact (this.alloc _).alloc _
 have BR1:Hid (Blk w1 (w.heap.size+1+1) 25 [.int .i64 0,.slice none 0 0]):=by
  have:=Blk.made ((w.alloc (.cells #[.int .i64 p,.slice A n c] 25)).alloc (.cells #[.int .u8 2,.string sp,.string st,.int .i64 av,.int .i64 nv,.slice Ab bl bc] 34)) 25 #[.int .i64 0,.slice none 0 0]
  rw[World.size_alloc,World.size_alloc] at this;rw[hw1];exact this.alloc _
 have BA1:Hid (Blk w1 (w.heap.size+1+1+1) 41 [.int .i64 0,.int .i64 0,.int .i64 0,.int .u8 0,.int .i64 0,.int .i64 0,.slice none 0 0,.slice none 0 0]):=by
  have:=Blk.made (((w.alloc (.cells #[.int .i64 p,.slice A n c] 25)).alloc (.cells #[.int .u8 2,.string sp,.string st,.int .i64 av,.int .i64 nv,.slice Ab bl bc] 34)).alloc (.cells #[.int .i64 0,.slice none 0 0] 25)) 41 #[.int .i64 0,.int .i64 0,.int .i64 0,.int .u8 0,.int .i64 0,.int .i64 0,.slice none 0 0,.slice none 0 0]
  rw[World.size_alloc,World.size_alloc,World.size_alloc] at this;rw[hw1];exact this
 have CC:=jH (zau p A n c es w1 (h.new n1) hn hR);have N1:=jH n1;have HW:=jH hw1;have RR:=jH hR;have HAB:=jH hab;obtain⟨D,hD⟩:∃D,D=actF ⟨p,nds es⟩ ⟨2,sp,st,av,nv,ab⟩ (pnB sp) [] q j 0 0:=⟨_,rfl⟩;rw[←hD];have HD:=jH hD;obtain⟨g1,hg1⟩:∃g,g=pN sp.data.toList:=⟨_,rfl⟩
 have e1:pnB sp=g1.map baL:=by rw[hg1];rfl
 have L1:Hid (g1.length≤6):=by rw[hg1];exact zcc _
 have CP1:Hid (∀u,Calls Tryz.prog 35 #[.string sp] u (RetP u g1 0)):=fun u=>by
  have:=zaj sp u hs
  rw[←hg1,show pE sp.data.toList=0 from hpe] at this;exact this
 rw[e1] at hlk;rw[e1] at HD;have HLK:=jH hlk;clear e1 hg1 hlk hpe hs;clear h n1 hw1 hn hR hab hD;go_enter Tryz.func17,Tryz.ntmps17;generalize hqq:(bodyPost _ _ _:Exit→Act→World→Prop)=QQ
 go_upto_region 1 with fail
 rw[←HW.out];clear HW;obtain⟨gk,hgk⟩:∃gk,gk=w.heap.size:=⟨_,rfl⟩;rw[←hgk] at BT1 BC1 BR1 BA1;have GK:=jH hgk
 have GKS:Hid (∀u:World,New w u→gk≤u.heap.size):=fun u hu=>by rw[hgk];exact hu.size
 obtain⟨a0,a1⟩:=BT1.out.p2;rw[←hgk];clear hgk;go_wp2_with fail;refine CC.out.mono ?_;rintro e w2 ⟨A2,c2,es2,rfl,hL0,T2,k2⟩;have hL:nds es2=nds es:=hL0;clear hL0;obtain⟨w3,hw3⟩:∃w3,w3=(w2.setCell ⟨gk,0,none⟩ (.int .i64 p)).setCell ⟨gk,1,none⟩ (.slice A2 es2.length c2):=⟨_,rfl⟩;have BE:=BT1.out.kept k2 id;obtain⟨e0,e1⟩:=BE.p2;obtain⟨f0,f1⟩:=BE.f2
 have K3:Kept (·=gk) w2 w3:=by rw[hw3];exact (Kept.set1 _ _ _ _).setCell (p:=⟨gk,1,none⟩) (fun _=>rfl) _
 have BT3:Hid (Blk w3 gk 25 [.int .i64 p,.slice A2 es2.length c2]):=by rw[hw3];exact (BE.put 0 _).put 1 _
 have BC3:=jH ((BC1.out.kept k2 id).kept K3 (by omega));have BR3:=jH ((BR1.out.kept k2 id).kept K3 (by omega));have BA3:=jH ((BA1.out.kept k2 id).kept K3 (by omega));have T3:=jH (TOwn.far (T2.mono N1.out.size) K3 BE.at_ (by decide) (by decide) (by decide))
 have N3:Hid (New w w3):=by
  rw[hw3];exact ((N1.out.new k2).setCell (p:=⟨gk,0,none⟩) (fun hh=>absurd hh (by rw[GK.out];exact Nat.lt_irrefl _)) _).setCell (p:=⟨gk,1,none⟩) (fun hh=>absurd hh (by rw[GK.out];exact Nat.lt_irrefl _)) _
 have HW3:=jH hw3;rw[←hL] at RR HD HLK;clear BT1 BC1 BR1 BA1 CC T2 k2 hw3 BE K3 a0 a1 hL
 go_upto_region 2 with fail
 rw[←HW3.out];clear HW3 e0 e1 f0 f1;have CR:=jH (zao p A2 es2.length c2 es2 w3 T3.out.in_ rfl RR.out);obtain⟨b0,b1⟩:=BT3.out.p2;go_wp2_with fail;refine CR.out.mono ?_;rintro e wb ⟨rfl,k4⟩;have BT:=jH (BT3.out.kept k4 id);have BC:=jH (BC3.out.kept k4 id);have BR:=jH (BR3.out.kept k4 id);have BA:=jH (BA3.out.kept k4 id);have HT:=jH (T3.out.new k4);have NW:=jH (N3.out.new k4);have AB:=jH (HAB.out.new (N3.out.new k4));have HWB:Hid (w.heap.size≤wb.heap.size):=NW.out.size
 have M48:Hid (es2.length≤48):=by have:=RR.out.len;rwa [zab] at this
 clear BT3 BC3 BR3 BA3 T3 N3 k4 b0 b1 CR HAB N1;generalize hm:es2.length=m at *;have LN:=jH hm;clear hm;have NB:Hid (New wb wb):=kR;obtain⟨a0,a1⟩:=(BC.out.kept NB.out id).p2;go_wp2_with fail;refine (CP1.out _).mono ?_;rintro e w5 ⟨G1,c1,rfl,O1,k5⟩;have N5:=jH k5;obtain⟨n1,hn1⟩:∃n1,n1=g1.length:=⟨_,rfl⟩
 have X1:Hid (∀u,New w5 u→Txs u G1 n1 g1):=fun u hu=>by rw[hn1];exact O1.txs.new hu
 have O1:Hid (∀x,G1=some x→At w5 x.block 9):=fun x hx=>(O1.at_ x hx).1
 rw[←hn1] at L1 ⊢;have LG1:=jH hn1;clear k5 a0 a1 hn1 CP1;obtain⟨b0,b1⟩:=(BT.out.kept N5.out id).p2;have a0:=(BC.out.kept N5.out id).q0;have CL1:=jH (zat p A2 m c2 es2 G1 n1 c1 g1 w5 (HT.out.new N5.out).in_ LN.out RR.out (X1.out w5 kR) (by have:=L1.out;omega));rw[HLK.out] at CL1;go_wp2_with fail;refine CL1.out.mono ?_;rintro e w7 ⟨rfl,k7⟩;have N7:Hid (New wb w7):=N5.out.new k7
 have X1:Hid (∀u,New w7 u→Txs u G1 n1 g1):=fun u hu=>X1.out u (Kept.new k7 hu)
 have O1:Hid (∀x,G1=some x→At w7 x.block 9):=fun x hx=>(O1.out x hx).kept k7 id
 clear k7 b0 b1 CL1 a0;have HP1:=jH (zbx RR.out HLK.out)
 have HD2:Hid (D=mkF ⟨p,nds es2⟩ ⟨2,sp,st,av,nv,ab⟩ (g1.map baL) q j):=by
  rw[Hid,HD.out];unfold actF;rw[if_pos (by simp)]
 clear HLK HD;have a0:=(BC.out.kept N7.out id).q0
 go_upto_if 101 with fail
 by_cases hj0:j=0
 ·have d1:(((j:Nat):Int) != 0)=false:=bne_eq_false_iff_eq.2 (by omega)
  have M1:Hid ((nds es2).length=m):=by rw[Hid,zab];exact LN.out
  by_cases hm48:48≤m
  ·have d2:decide (48≤m)=true:=decide_eq_true hm48
   have EM:Hid (D=(⟨p,nds es2⟩,erA 3)):=by
    rw[Hid,HD2.out];unfold mkF;rw[if_neg (by simpa using hj0),if_pos (by rw[M1.out];exact hm48)]
   clear HD2;have BRZ:=jH (BR.out.kept N7.out id);have BAZ:=jH (BA.out.kept N7.out id);have BTZ:=BT.out.kept N7.out id;obtain⟨b0,b1⟩:=BTZ.p2;have HTZ:=jH (HT.out.new N7.out);have LNZ:=LN
   have KWZ:Hid (Kept (zak none) w w7):=(NW.out.new N7.out).mono fun _ _ f=>f.elim
   obtain⟨t0,t1⟩:=BRZ.out.p2;obtain⟨f0,f1⟩:=BRZ.out.f2;obtain⟨r0,r1,r2,r3,r4,r5,r6,r7⟩:=BAZ.out.p8;obtain⟨g0,g1,g2,g3,g4,g5,g6,g7⟩:=BAZ.out.f8;have HLD:Hid (((((((((((w7.setCell ⟨gk+1+1,0,none⟩ (.int .i64 p)).setCell ⟨gk+1+1,1,none⟩ (.slice (A2) m c2)).setCell ⟨gk+1+1+1,0,none⟩ (.int .i64 3)).setCell ⟨gk+1+1+1,1,none⟩ (.int .i64 0)).setCell ⟨gk+1+1+1,2,none⟩ (.int .i64 0)).setCell ⟨gk+1+1+1,3,none⟩ (.int .u8 0)).setCell ⟨gk+1+1+1,4,none⟩ (.int .i64 0)).setCell ⟨gk+1+1+1,5,none⟩ (.int .i64 0)).setCell ⟨gk+1+1+1,6,none⟩ (.slice none 0 0)).setCell ⟨gk+1+1+1,7,none⟩ (.slice none 0 0))=laid w7 (gk+1+1) (gk+1+1+1) p (A2) m c2 (erA 3) none 0 0 none 0 0):=rfl
   have DD:=jH (zag (w:=w) (A0:=none) (a:=erA 3) (p:=p) (c:=c2) (n:=m) (d':=0) (t':=0) (B':=none) (m:=0) (q:=0) (T':=none) BRZ.out BAZ.out (by have:=GK.out;omega) (by have:=GK.out;omega) HTZ.out LNZ.out rfl (OwnB.nil _ _ _) rfl (Txs.nil _ _) (fun _ h=>by cases h) rfl KWZ.out);have DB:=jH (zae (p:=p) (A:=A2) (n:=m) (c:=c2) (a:=erA 3) (d':=0) (t':=0) (B':=none) (m:=0) (q:=0) (T':=none) BRZ.out BAZ.out);clear HTZ KWZ;go_wp2_with fail;rw[HLD.out];generalize laid w7 (gk+1+1) (gk+1+1+1) p (A2) m c2 (erA 3) none 0 0 none 0 0=wf at *;have d0:=DB.out.1.cell 0;have d1:=DB.out.1.cell 1;have d2:=DB.out.2.cell 0
   have d3:=DB.out.2.cell 1;have d4:=DB.out.2.cell 2;have d5:=DB.out.2.cell 3;have d6:=DB.out.2.cell 4;have d7:=DB.out.2.cell 5;have d8:=DB.out.2.cell 6;have d9:=DB.out.2.cell 7;simp at d0 d1 d2 d3 d4 d5 d6 d7 d8 d9
   try simp only[Exit.then]
   rw[←hqq];refine bodyPost_ret (by simp[results,Tryz.results17,go_sem,d0,d1,d2,d3,d4,d5,d6,d7,d8,d9];try rfl) rfl ?_;rw[EM.out];exact DD.out
  have d2:decide (48≤m)=false:=decide_eq_false hm48
  have EM:Hid (D=(⟨p,makeE (nds es2) q (lst (g1.map baL)) 2⟩,{ erA 0 with i:=zbj (nds es2) })):=by
   rw[Hid,HD2.out];unfold mkF;rw[if_neg (by simpa using hj0),if_neg (by rw[M1.out];exact hm48)]
  have hgne:g1.map baL≠[]:=by
   obtain⟨dd,hdd⟩:=RR.out.dep;obtain⟨_,_,hgl,_,_,_,_,_,_⟩:=HP1.out.dir RR.out hdd (.inr (by omega));rw[hgl];simp
  obtain⟨qn,hqn,hqk,hje,hqo⟩:=dir_nd RR.out HP1.out hgne
  have QN:Hid (ndI (nds es2) q=some qn∧OrdS qn.ns∧¬zbn (lst (g1.map baL)) qn.ns∧qn.ns.length≤300):=by
   have hqm:=(zaa hqn).1
   have:=RR.out.ns_le hqm
   exact⟨hqn,hqo,zci (RR.out.ent_ne hqm) (by rw[←hj0];exact hje),by omega⟩
  have HG1:Hid (0 < n1):=by
   have h1:=LG1.out
   rcases Nat.eq_zero_or_pos n1 with e|e
   ·exact absurd (List.map_eq_nil_iff.2 (List.eq_nil_of_length_eq_zero (by omega))) hgne
   ·exact e
  clear HD2 hgne hqn hqk hje hqo HP1;obtain⟨b0,b1⟩:=(BT.out.kept N7.out id).p2
  go_upto_region 28 with fail
  clear hj0 d1;obtain⟨k1,hk1⟩:∃k,n1=k+1:=⟨n1 - 1,by have:=HG1.out;omega⟩;subst hk1
  have ki1:k1≤5:=by have:=L1.out;omega
  obtain⟨gg1,o1,x1,eG1,hx1,_⟩:=(X1.out w7 kR).at_ (j:=k1) (by omega);subst eG1
  have S1:Hid (∀u,New w7 u→u.cell? ⟨gg1,o1+k1,none⟩=some (.string (baL x1))):=fun u hu=>by
   obtain⟨b',o',x',e,hx',hc⟩:=(X1.out u hu).at_ (j:=k1) (by omega)
   injection e with e;injection e with e1 e2;subst e1 e2;rw[hx1] at hx';injection hx' with hx';subst hx';exact hc
  have E1:Hid (lst (g1.map baL)=baL x1):=lst_map LG1.out.symm hx1;clear hx1
  have sk1:((k1:Nat):Int) < ((k1:Nat):Int)+1:=by omega
  have wk1:IntKind.i64.wrap ((k1:Nat):Int)=((k1:Nat):Int):=by rw[IntKind.wrap_i64];omega
  have c0:=S1.out w7 kR;rw[E1.out] at QN EM
  have CL:Hid (∀u,New wb u→Calls Tryz.prog 37 #[.agg #[.int .i64 p,.slice A2 m c2],.int .i64 q,.string (baL x1),.int .u8 2] u (MadeP u p w.heap.size (makeE (nds es2) q (baL x1) 2) (zbj (nds es2)))):=fun u hu=>
   rmade_any p A2 m c2 w.heap.size es2 q 2 (baL x1) qn u (HT.out.new hu) (Nat.le_trans HWB.out hu.size) LN.out (by omega) RR.out.ord (fun x hx=>(RR.out.rng x hx).1) QN.out.1 QN.out.2.1 QN.out.2.2.1 QN.out.2.2.2
  clear X1 O1 S1
  go_cut [14,15] from 21 to 284 (fun a b wx=>∃(gu:Nat) (A3:Option Addr) (c3:Nat) (es3:List NE),a=.pointer (some ⟨gu,0,none⟩)∧b=.int .i64 (zbj (nds es2):Nat)∧Hid (Blk wx gu 25 [.int .i64 p,.slice A3 es3.length c3])∧Hid (nds es3=makeE (nds es2) q (baL x1) 2)∧Hid (TOwn wx w.heap.size A3 c3 es3)∧Hid (New w7 wx))
  case first=>
   subst hqq;refine reg28 gk (gk+1) gg1 o1 k1 c1 q 2 p m c2 w.heap.size (zbj (nds es2)) A2 (baL x1) (makeE (nds es2) q (baL x1) 2) w7 _ ⟨b0,b1,c0,a0⟩ ki1 (Nat.le_trans HWB.out N7.out.size) (fun u hu=>CL.out u (N7.out.new hu)) ?_;intro v112 v113 v114 v115 v116 v117 v118 v119 v120 v121 v122 v123 v124 v125 gu A3 c3 es3 wx h1 h2 h3 h4;simp only[Exit.then];refine (‹∀(a':Act) (w':World),Met _ a' w'→_›) _ _ ?_
   go_meet
   case rel=>exact⟨gu,A3,c3,es3,rfl,rfl,h1,h2,h3,h4⟩
  case rest=>
   obtain⟨gu,A3,c3,es3,rfl,rfl,BU,HL3,TR3,NC⟩:=hcut;have NCW:Hid (New wb wc):=N7.out.new NC.out;have BR3:=jH (BR.out.kept NCW.out id);have BA3:=jH (BA.out.kept NCW.out id)
   have KW3:Hid (Kept (zak none) w wc):=(NW.out.new NCW.out).mono fun _ _ f=>f.elim
   obtain⟨u0,u1⟩:=BU.out.p2;clear CL QN b0 b1 c0;generalize zbj (nds es2)=fi at *;obtain⟨t0,t1⟩:=BR3.out.p2;obtain⟨f0,f1⟩:=BR3.out.f2;obtain⟨r0,r1,r2,r3,r4,r5,r6,r7⟩:=BA3.out.p8;obtain⟨g0,g1,g2,g3,g4,g5,g6,g7⟩:=BA3.out.f8;go_wp2_with fail;have HLD:Hid (((((((((((wc.setCell ⟨gk+1+1,0,none⟩ (.int .i64 p)).setCell ⟨gk+1+1,1,none⟩ (.slice (A3) es3.length c3)).setCell ⟨gk+1+1+1,0,none⟩ (.int .i64 0)).setCell ⟨gk+1+1+1,1,none⟩ (.int .i64 fi)).setCell ⟨gk+1+1+1,2,none⟩ (.int .i64 0)).setCell ⟨gk+1+1+1,3,none⟩ (.int .u8 0)).setCell ⟨gk+1+1+1,4,none⟩ (.int .i64 0)).setCell ⟨gk+1+1+1,5,none⟩ (.int .i64 0)).setCell ⟨gk+1+1+1,6,none⟩ (.slice none 0 0)).setCell ⟨gk+1+1+1,7,none⟩ (.slice none 0 0))=laid wc (gk+1+1) (gk+1+1+1) p (A3) es3.length c3 ({ erA 0 with i:=fi }) none 0 0 none 0 0):=rfl
   have DD:=jH (zag (w:=w) (A0:=none) (a:={ erA 0 with i:=fi }) (p:=p) (c:=c3) (n:=es3.length) (d':=0) (t':=0) (B':=none) (m:=0) (q:=0) (T':=none) BR3.out BA3.out (by have:=GK.out;omega) (by have:=GK.out;omega) TR3.out rfl HL3.out (OwnB.nil _ _ _) rfl (Txs.nil _ _) (fun _ h=>by cases h) rfl KW3.out);have DB:=jH (zae (p:=p) (A:=A3) (n:=es3.length) (c:=c3) (a:={ erA 0 with i:=fi }) (d':=0) (t':=0) (B':=none) (m:=0) (q:=0) (T':=none) BR3.out BA3.out);rw[HLD.out];generalize laid wc (gk+1+1) (gk+1+1+1) p (A3) es3.length c3 ({ erA 0 with i:=fi }) none 0 0 none 0 0=wf at *;have d0:=DB.out.1.cell 0;have d1:=DB.out.1.cell 1
   have d2:=DB.out.2.cell 0;have d3:=DB.out.2.cell 1;have d4:=DB.out.2.cell 2;have d5:=DB.out.2.cell 3;have d6:=DB.out.2.cell 4;have d7:=DB.out.2.cell 5;have d8:=DB.out.2.cell 6;have d9:=DB.out.2.cell 7;simp at d0 d1 d2 d3 d4 d5 d6 d7 d8 d9
   try simp only[Exit.then]
   rw[←hqq];refine bodyPost_ret (by simp[results,Tryz.results17,go_sem,d0,d1,d2,d3,d4,d5,d6,d7,d8,d9];try rfl) rfl ?_;rw[EM.out]
   first
    | exact DD.out
    | exact DD.out.drew
 ·have d1:(((j:Nat):Int) != 0)=true:=bne_iff_ne.2 (by omega)
  have EM:Hid (D=(⟨p,nds es2⟩,erA 13)):=by
   rw[Hid,HD2.out];unfold mkF;rw[if_pos hj0]
  clear HD2;have BRZ:=jH (BR.out.kept N7.out id);have BAZ:=jH (BA.out.kept N7.out id);have BTZ:=BT.out.kept N7.out id;obtain⟨b0,b1⟩:=BTZ.p2;have HTZ:=jH (HT.out.new N7.out);have LNZ:=LN
  have KWZ:Hid (Kept (zak none) w w7):=(NW.out.new N7.out).mono fun _ _ f=>f.elim
  obtain⟨t0,t1⟩:=BRZ.out.p2;obtain⟨f0,f1⟩:=BRZ.out.f2;obtain⟨r0,r1,r2,r3,r4,r5,r6,r7⟩:=BAZ.out.p8;obtain⟨g0,g1,g2,g3,g4,g5,g6,g7⟩:=BAZ.out.f8;have HLD:Hid (((((((((((w7.setCell ⟨gk+1+1,0,none⟩ (.int .i64 p)).setCell ⟨gk+1+1,1,none⟩ (.slice (A2) m c2)).setCell ⟨gk+1+1+1,0,none⟩ (.int .i64 13)).setCell ⟨gk+1+1+1,1,none⟩ (.int .i64 0)).setCell ⟨gk+1+1+1,2,none⟩ (.int .i64 0)).setCell ⟨gk+1+1+1,3,none⟩ (.int .u8 0)).setCell ⟨gk+1+1+1,4,none⟩ (.int .i64 0)).setCell ⟨gk+1+1+1,5,none⟩ (.int .i64 0)).setCell ⟨gk+1+1+1,6,none⟩ (.slice none 0 0)).setCell ⟨gk+1+1+1,7,none⟩ (.slice none 0 0))=laid w7 (gk+1+1) (gk+1+1+1) p (A2) m c2 (erA 13) none 0 0 none 0 0):=rfl
  have DD:=jH (zag (w:=w) (A0:=none) (a:=erA 13) (p:=p) (c:=c2) (n:=m) (d':=0) (t':=0) (B':=none) (m:=0) (q:=0) (T':=none) BRZ.out BAZ.out (by have:=GK.out;omega) (by have:=GK.out;omega) HTZ.out LNZ.out rfl (OwnB.nil _ _ _) rfl (Txs.nil _ _) (fun _ h=>by cases h) rfl KWZ.out);have DB:=jH (zae (p:=p) (A:=A2) (n:=m) (c:=c2) (a:=erA 13) (d':=0) (t':=0) (B':=none) (m:=0) (q:=0) (T':=none) BRZ.out BAZ.out);clear HTZ KWZ;go_wp2_with fail;rw[HLD.out];generalize laid w7 (gk+1+1) (gk+1+1+1) p (A2) m c2 (erA 13) none 0 0 none 0 0=wf at *;have d0:=DB.out.1.cell 0;have d1:=DB.out.1.cell 1;have d2:=DB.out.2.cell 0
  have d3:=DB.out.2.cell 1;have d4:=DB.out.2.cell 2;have d5:=DB.out.2.cell 3;have d6:=DB.out.2.cell 4;have d7:=DB.out.2.cell 5;have d8:=DB.out.2.cell 6;have d9:=DB.out.2.cell 7;simp at d0 d1 d2 d3 d4 d5 d6 d7 d8 d9
  try simp only[Exit.then]
  rw[←hqq];refine bodyPost_ret (by simp[results,Tryz.results17,go_sem,d0,d1,d2,d3,d4,d5,d6,d7,d8,d9];try rfl) rfl ?_;rw[EM.out];exact DD.out
end
end Go.Proofs.YtjjamoemheljdaaGreat
