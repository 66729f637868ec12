/-
  Layer 7: contracts (Ql).
-/
import Derived.Test.YtjjamoemheljdaaGreatC44
namespace Go.Proofs.YtjjamoemheljdaaGreat
set_option maxRecDepth 100000
set_option maxHeartbeats 8000000
set_option linter.unusedSimpArgs false
set_option linter.unusedVariables false
section
open Go.RowKit
theorem rdo_to4 (p:Nat) (A:Option Addr) (n c:Nat) (es:List NE) (sp st:ByteArray) (av nv:Int) (Ab:Option Addr) (bl bc:Nat) (ab:List Nat) (w:World) (h:TIn w A es) (hn:es.length=n) (hR:Rt ⟨p,nds es⟩) (hs:sp.size≤1048576) (ht:st.size≤1048576) (hab:Bts w Ab bl ab)
  (hpe:peB sp=0) (hpt:peB st≠0):
  Calls Tryz.prog 17 #[.agg #[.int .i64 p,.slice A n c],.agg #[.int .u8 4,.string sp,.string st,.int .i64 av,.int .i64 nv,.slice Ab bl bc]] w
   (DoP w p w.heap.size none (doF ⟨p,nds es⟩ ⟨4,sp,st,av,nv,ab⟩).1.l (doF ⟨p,nds es⟩ ⟨4,sp,st,av,nv,ab⟩).2):=by
 obtain⟨w1,hw1⟩:∃w1,w1=(((w.alloc (.cells #[.int .i64 p,.slice A n c] 25)).alloc (.cells #[.int .u8 4,.string sp,.string st,.int .i64 av,.int .i64 nv,.slice Ab bl bc] 34)).alloc (.cells #[.int .i64 0,.slice none 0 0] 25)).alloc (.cells #[.int .i64 0,.int .i64 0,.int .i64 0,.int .u8 0,.int .i64 0,.int .i64 0,.slice none 0 0,.slice none 0 0] 41):=⟨_,rfl⟩
 have n1:New w w1:=by rw[hw1];exact (((kR.alloc _).alloc _).alloc _).alloc _
 have BT1:Hid (Blk w1 w.heap.size 25 [.int .i64 p,.slice A n c]):=by rw[hw1];exact (((Blk.made w _ _).alloc _).alloc _).alloc _
 have BC1:Hid (Blk w1 (w.heap.size+1) 34 [.int .u8 4,.string sp,.string st,.int .i64 av,.int .i64 nv,.slice Ab bl bc]):=by
  have:=Blk.made (w.alloc (.cells #[.int .i64 p,.slice A n c] 25)) 34 #[.int .u8 4,.string sp,.string st,.int .i64 av,.int .i64 nv,.slice Ab bl bc]
  rw[World.size_alloc] at this;rw[hw1];exact (this.alloc _).alloc _
 have BR1:Hid (Blk w1 (w.heap.size+1+1) 25 [.int .i64 0,.slice none 0 0]):=by
  have:=Blk.made ((w.alloc (.cells #[.int .i64 p,.slice A n c] 25)).alloc (.cells #[.int .u8 4,.string sp,.string st,.int .i64 av,.int .i64 nv,.slice Ab bl bc] 34)) 25 #[.int .i64 0,.slice none 0 0]
  rw[World.size_alloc,World.size_alloc] at this;rw[hw1];exact this.alloc _
 have BA1:Hid (Blk w1 (w.heap.size+1+1+1) 41 [.int .i64 0,.int .i64 0,.int .i64 0,.int .u8 0,.int .i64 0,.int .i64 0,.slice none 0 0,.slice none 0 0]):=by
  have:=Blk.made (((w.alloc (.cells #[.int .i64 p,.slice A n c] 25)).alloc (.cells #[.int .u8 4,.string sp,.string st,.int .i64 av,.int .i64 nv,.slice Ab bl bc] 34)).alloc (.cells #[.int .i64 0,.slice none 0 0] 25)) 41 #[.int .i64 0,.int .i64 0,.int .i64 0,.int .u8 0,.int .i64 0,.int .i64 0,.slice none 0 0,.slice none 0 0]
  rw[World.size_alloc,World.size_alloc,World.size_alloc] at this;rw[hw1];exact this
 have CC:=jH (zau p A n c es w1 (h.new n1) hn hR);have N1:=jH n1;have HW:=jH hw1;have RR:=jH hR;have HAB:=jH hab;obtain⟨D,hD⟩:∃D,D=doF ⟨p,nds es⟩ ⟨4,sp,st,av,nv,ab⟩:=⟨_,rfl⟩;rw[←hD];have HD:=jH hD;obtain⟨g1,hg1⟩:∃g,g=pN sp.data.toList:=⟨_,rfl⟩
 have e1:pnB sp=g1.map baL:=by rw[hg1];rfl
 have L1:Hid (g1.length≤6):=by rw[hg1];exact zcc _
 have CP1:Hid (∀u,Calls Tryz.prog 35 #[.string sp] u (RetP u g1 0)):=fun u=>by
  have:=zaj sp u hs
  rw[←hg1,show pE sp.data.toList=0 from hpe] at this;exact this
 have HE1:=jH e1;have HPE:=jH hpe;clear e1 hg1 hpe hs;obtain⟨g2,hg2⟩:∃g,g=pN st.data.toList:=⟨_,rfl⟩
 have e2:pnB st=g2.map baL:=by rw[hg2];rfl
 have L2:Hid (g2.length≤6):=by rw[hg2];exact zcc _
 obtain⟨x2,hx2⟩:∃x,x=peB st:=⟨_,rfl⟩;have HX:=jH hx2
 have CP2:Hid (∀u,Calls Tryz.prog 35 #[.string st] u (RetP u g2 x2)):=fun u=>by
  have:=zaj st u ht
  rw[←hg2] at this;rw[hx2];exact this
 have HPT:=jH hpt;clear e2 hg2 hx2 hpt ht L2;clear h n1 hw1 hn hR hab hD;go_enter Tryz.func17,Tryz.ntmps17;generalize hqq:(bodyPost _ _ _:Exit→Act→World→Prop)=QQ
 go_upto_region 1 with fail
 rw[←HW.out];clear HW;obtain⟨gk,hgk⟩:∃gk,gk=w.heap.size:=⟨_,rfl⟩;rw[←hgk] at BT1 BC1 BR1 BA1;have GK:=jH hgk
 have GKS:Hid (∀u:World,New w u→gk≤u.heap.size):=fun u hu=>by rw[hgk];exact hu.size
 obtain⟨a0,a1⟩:=BT1.out.p2;rw[←hgk];clear hgk;go_wp2_with fail;refine CC.out.mono ?_;rintro e w2 ⟨A2,c2,es2,rfl,hL,T2,k2⟩;have hL:nds es2=nds es:=hL;obtain⟨w3,hw3⟩:∃w3,w3=(w2.setCell ⟨gk,0,none⟩ (.int .i64 p)).setCell ⟨gk,1,none⟩ (.slice A2 es2.length c2):=⟨_,rfl⟩;have BE:=BT1.out.kept k2 id;obtain⟨e0,e1⟩:=BE.p2;obtain⟨f0,f1⟩:=BE.f2
 have K3:Kept (·=gk) w2 w3:=by rw[hw3];exact (Kept.set1 _ _ _ _).setCell (p:=⟨gk,1,none⟩) (fun _=>rfl) _
 have BT3:Hid (Blk w3 gk 25 [.int .i64 p,.slice A2 es2.length c2]):=by rw[hw3];exact (BE.put 0 _).put 1 _
 have BC3:=jH ((BC1.out.kept k2 id).kept K3 (by omega));have BR3:=jH ((BR1.out.kept k2 id).kept K3 (by omega));have BA3:=jH ((BA1.out.kept k2 id).kept K3 (by omega));have T3:=jH (TOwn.far (T2.mono N1.out.size) K3 BE.at_ (by decide) (by decide) (by decide))
 have N3:Hid (New w w3):=by
  rw[hw3];exact ((N1.out.new k2).setCell (p:=⟨gk,0,none⟩) (fun hh=>absurd hh (by rw[GK.out];exact Nat.lt_irrefl _)) _).setCell (p:=⟨gk,1,none⟩) (fun hh=>absurd hh (by rw[GK.out];exact Nat.lt_irrefl _)) _
 have HW3:=jH hw3;rw[←hL] at RR HD;clear BT1 BC1 BR1 BA1 CC T2 k2 hw3 BE K3 a0 a1 hL
 go_upto_region 2 with fail
 rw[←HW3.out];clear HW3 e0 e1 f0 f1;have CR:=jH (zao p A2 es2.length c2 es2 w3 T3.out.in_ rfl RR.out);obtain⟨b0,b1⟩:=BT3.out.p2;go_wp2_with fail;refine CR.out.mono ?_;rintro e wb ⟨rfl,k4⟩;have BT:=jH (BT3.out.kept k4 id);have BC:=jH (BC3.out.kept k4 id);have BR:=jH (BR3.out.kept k4 id);have BA:=jH (BA3.out.kept k4 id);have HT:=jH (T3.out.new k4);have NW:=jH (N3.out.new k4);have AB:=jH (HAB.out.new (N3.out.new k4));have HWB:Hid (w.heap.size≤wb.heap.size):=NW.out.size
 have M48:Hid (es2.length≤48):=by have:=RR.out.len;rwa [zab] at this
 clear BT3 BC3 BR3 BA3 T3 N3 k4 b0 b1 CR HAB N1;generalize hm:es2.length=m at *;have LN:=jH hm;clear hm;have NB:Hid (New wb wb):=kR
 have EM:Hid (D=(⟨p,nds es2⟩,erA x2)):=by
  rw[Hid,HD.out,HX.out];unfold doF;rw[if_neg (by simp),if_neg (by show ¬peB sp≠0;rw[HPE.out];simp),if_pos ⟨by unfold twoK;simp,HPT.out⟩]
 have d3:(((x2:Nat):Int) != 0)=true:=bne_iff_ne.2 (by have:=HPT.out;rw[←HX.out] at this;omega);obtain⟨a0,a1⟩:=(BC.out.kept NB.out id).p2;go_wp2_with fail;refine (CP1.out _).mono ?_;rintro e w5 ⟨G1,c1,rfl,O1,k5⟩;have N5:=jH k5;obtain⟨n1,hn1⟩:∃n1,n1=g1.length:=⟨_,rfl⟩
 have X1:Hid (∀u,New w5 u→Txs u G1 n1 g1):=fun u hu=>by rw[hn1];exact O1.txs.new hu
 rw[←hn1] at L1 ⊢;clear k5 a0 a1 hn1 CP1 O1;have a0:=(BC.out.kept N5.out id).q0;have a2:=(BC.out.kept N5.out id).q2;go_wp2_with fail;refine (CP2.out _).mono ?_;rintro e w6 ⟨G2,cc2,rfl,O2,k6⟩;have N6:Hid (New wb w6):=N5.out.new k6;clear k6 a0 a2 O2 CP2 HPT HX X1 HE1;have BRZ:=jH (BR.out.kept N6.out id);have BAZ:=jH (BA.out.kept N6.out id);have BTZ:=BT.out.kept N6.out id;obtain⟨b0,b1⟩:=BTZ.p2;have HTZ:=jH (HT.out.new N6.out);have LNZ:=LN
 have KWZ:Hid (Kept (zak none) w w6):=(NW.out.new N6.out).mono fun _ _ f=>f.elim
 obtain⟨t0,t1⟩:=BRZ.out.p2;obtain⟨f0,f1⟩:=BRZ.out.f2;obtain⟨r0,r1,r2,r3,r4,r5,r6,r7⟩:=BAZ.out.p8;obtain⟨g0,g1,g2,g3,g4,g5,g6,g7⟩:=BAZ.out.f8;have HLD:Hid (((((((((((w6.setCell ⟨gk+1+1,0,none⟩ (.int .i64 p)).setCell ⟨gk+1+1,1,none⟩ (.slice (A2) m c2)).setCell ⟨gk+1+1+1,0,none⟩ (.int .i64 x2)).setCell ⟨gk+1+1+1,1,none⟩ (.int .i64 0)).setCell ⟨gk+1+1+1,2,none⟩ (.int .i64 0)).setCell ⟨gk+1+1+1,3,none⟩ (.int .u8 0)).setCell ⟨gk+1+1+1,4,none⟩ (.int .i64 0)).setCell ⟨gk+1+1+1,5,none⟩ (.int .i64 0)).setCell ⟨gk+1+1+1,6,none⟩ (.slice none 0 0)).setCell ⟨gk+1+1+1,7,none⟩ (.slice none 0 0))=laid w6 (gk+1+1) (gk+1+1+1) p (A2) m c2 (erA x2) none 0 0 none 0 0):=rfl
 have DD:=jH (zag (w:=w) (A0:=none) (a:=erA x2) (p:=p) (c:=c2) (n:=m) (d':=0) (t':=0) (B':=none) (m:=0) (q:=0) (T':=none) BRZ.out BAZ.out (by have:=GK.out;omega) (by have:=GK.out;omega) HTZ.out LNZ.out rfl (OwnB.nil _ _ _) rfl (Txs.nil _ _) (fun _ h=>by cases h) rfl KWZ.out);have DB:=jH (zae (p:=p) (A:=A2) (n:=m) (c:=c2) (a:=erA x2) (d':=0) (t':=0) (B':=none) (m:=0) (q:=0) (T':=none) BRZ.out BAZ.out);clear HTZ KWZ;go_wp2_with fail;rw[HLD.out];generalize laid w6 (gk+1+1) (gk+1+1+1) p (A2) m c2 (erA x2) none 0 0 none 0 0=wf at *;have d0:=DB.out.1.cell 0;have d1:=DB.out.1.cell 1;have d2:=DB.out.2.cell 0
 have d3:=DB.out.2.cell 1;have d4:=DB.out.2.cell 2;have d5:=DB.out.2.cell 3;have d6:=DB.out.2.cell 4;have d7:=DB.out.2.cell 5;have d8:=DB.out.2.cell 6;have d9:=DB.out.2.cell 7;simp at d0 d1 d2 d3 d4 d5 d6 d7 d8 d9
 try simp only[Exit.then]
 rw[←hqq];refine bodyPost_ret (by simp[results,Tryz.results17,go_sem,d0,d1,d2,d3,d4,d5,d6,d7,d8,d9];try rfl) rfl ?_;rw[EM.out];exact DD.out
theorem rdo_to6 (p:Nat) (A:Option Addr) (n c:Nat) (es:List NE) (sp st:ByteArray) (av nv:Int) (Ab:Option Addr) (bl bc:Nat) (ab:List Nat) (w:World) (h:TIn w A es) (hn:es.length=n) (hR:Rt ⟨p,nds es⟩) (hs:sp.size≤1048576) (ht:st.size≤1048576) (hab:Bts w Ab bl ab)
  (hpe:peB sp=0) (hpt:peB st≠0):
  Calls Tryz.prog 17 #[.agg #[.int .i64 p,.slice A n c],.agg #[.int .u8 6,.string sp,.string st,.int .i64 av,.int .i64 nv,.slice Ab bl bc]] w
   (DoP w p w.heap.size none (doF ⟨p,nds es⟩ ⟨6,sp,st,av,nv,ab⟩).1.l (doF ⟨p,nds es⟩ ⟨6,sp,st,av,nv,ab⟩).2):=by
 obtain⟨w1,hw1⟩:∃w1,w1=(((w.alloc (.cells #[.int .i64 p,.slice A n c] 25)).alloc (.cells #[.int .u8 6,.string sp,.string st,.int .i64 av,.int .i64 nv,.slice Ab bl bc] 34)).alloc (.cells #[.int .i64 0,.slice none 0 0] 25)).alloc (.cells #[.int .i64 0,.int .i64 0,.int .i64 0,.int .u8 0,.int .i64 0,.int .i64 0,.slice none 0 0,.slice none 0 0] 41):=⟨_,rfl⟩
 have n1:New w w1:=by rw[hw1];exact (((kR.alloc _).alloc _).alloc _).alloc _
 have BT1:Hid (Blk w1 w.heap.size 25 [.int .i64 p,.slice A n c]):=by rw[hw1];exact (((Blk.made w _ _).alloc _).alloc _).alloc _
 have BC1:Hid (Blk w1 (w.heap.size+1) 34 [.int .u8 6,.string sp,.string st,.int .i64 av,.int .i64 nv,.slice Ab bl bc]):=by
  have:=Blk.made (w.alloc (.cells #[.int .i64 p,.slice A n c] 25)) 34 #[.int .u8 6,.string sp,.string st,.int .i64 av,.int .i64 nv,.slice Ab bl bc]
  rw[World.size_alloc] at this;rw[hw1];exact (this.alloc _).alloc _
 have BR1:Hid (Blk w1 (w.heap.size+1+1) 25 [.int .i64 0,.slice none 0 0]):=by
  have:=Blk.made ((w.alloc (.cells #[.int .i64 p,.slice A n c] 25)).alloc (.cells #[.int .u8 6,.string sp,.string st,.int .i64 av,.int .i64 nv,.slice Ab bl bc] 34)) 25 #[.int .i64 0,.slice none 0 0]
  rw[World.size_alloc,World.size_alloc] at this;rw[hw1];exact this.alloc _
 have BA1:Hid (Blk w1 (w.heap.size+1+1+1) 41 [.int .i64 0,.int .i64 0,.int .i64 0,.int .u8 0,.int .i64 0,.int .i64 0,.slice none 0 0,.slice none 0 0]):=by
  have:=Blk.made (((w.alloc (.cells #[.int .i64 p,.slice A n c] 25)).alloc (.cells #[.int .u8 6,.string sp,.string st,.int .i64 av,.int .i64 nv,.slice Ab bl bc] 34)).alloc (.cells #[.int .i64 0,.slice none 0 0] 25)) 41 #[.int .i64 0,.int .i64 0,.int .i64 0,.int .u8 0,.int .i64 0,.int .i64 0,.slice none 0 0,.slice none 0 0]
  rw[World.size_alloc,World.size_alloc,World.size_alloc] at this;rw[hw1];exact this
 have CC:=jH (zau p A n c es w1 (h.new n1) hn hR);have N1:=jH n1;have HW:=jH hw1;have RR:=jH hR;have HAB:=jH hab;obtain⟨D,hD⟩:∃D,D=doF ⟨p,nds es⟩ ⟨6,sp,st,av,nv,ab⟩:=⟨_,rfl⟩;rw[←hD];have HD:=jH hD;obtain⟨g1,hg1⟩:∃g,g=pN sp.data.toList:=⟨_,rfl⟩
 have e1:pnB sp=g1.map baL:=by rw[hg1];rfl
 have L1:Hid (g1.length≤6):=by rw[hg1];exact zcc _
 have CP1:Hid (∀u,Calls Tryz.prog 35 #[.string sp] u (RetP u g1 0)):=fun u=>by
  have:=zaj sp u hs
  rw[←hg1,show pE sp.data.toList=0 from hpe] at this;exact this
 have HE1:=jH e1;have HPE:=jH hpe;clear e1 hg1 hpe hs;obtain⟨g2,hg2⟩:∃g,g=pN st.data.toList:=⟨_,rfl⟩
 have e2:pnB st=g2.map baL:=by rw[hg2];rfl
 have L2:Hid (g2.length≤6):=by rw[hg2];exact zcc _
 obtain⟨x2,hx2⟩:∃x,x=peB st:=⟨_,rfl⟩;have HX:=jH hx2
 have CP2:Hid (∀u,Calls Tryz.prog 35 #[.string st] u (RetP u g2 x2)):=fun u=>by
  have:=zaj st u ht
  rw[←hg2] at this;rw[hx2];exact this
 have HPT:=jH hpt;clear e2 hg2 hx2 hpt ht L2;clear h n1 hw1 hn hR hab hD;go_enter Tryz.func17,Tryz.ntmps17;generalize hqq:(bodyPost _ _ _:Exit→Act→World→Prop)=QQ
 go_upto_region 1 with fail
 rw[←HW.out];clear HW;obtain⟨gk,hgk⟩:∃gk,gk=w.heap.size:=⟨_,rfl⟩;rw[←hgk] at BT1 BC1 BR1 BA1;have GK:=jH hgk
 have GKS:Hid (∀u:World,New w u→gk≤u.heap.size):=fun u hu=>by rw[hgk];exact hu.size
 obtain⟨a0,a1⟩:=BT1.out.p2;rw[←hgk];clear hgk;go_wp2_with fail;refine CC.out.mono ?_;rintro e w2 ⟨A2,c2,es2,rfl,hL,T2,k2⟩;have hL:nds es2=nds es:=hL;obtain⟨w3,hw3⟩:∃w3,w3=(w2.setCell ⟨gk,0,none⟩ (.int .i64 p)).setCell ⟨gk,1,none⟩ (.slice A2 es2.length c2):=⟨_,rfl⟩;have BE:=BT1.out.kept k2 id;obtain⟨e0,e1⟩:=BE.p2;obtain⟨f0,f1⟩:=BE.f2
 have K3:Kept (·=gk) w2 w3:=by rw[hw3];exact (Kept.set1 _ _ _ _).setCell (p:=⟨gk,1,none⟩) (fun _=>rfl) _
 have BT3:Hid (Blk w3 gk 25 [.int .i64 p,.slice A2 es2.length c2]):=by rw[hw3];exact (BE.put 0 _).put 1 _
 have BC3:=jH ((BC1.out.kept k2 id).kept K3 (by omega));have BR3:=jH ((BR1.out.kept k2 id).kept K3 (by omega));have BA3:=jH ((BA1.out.kept k2 id).kept K3 (by omega));have T3:=jH (TOwn.far (T2.mono N1.out.size) K3 BE.at_ (by decide) (by decide) (by decide))
 have N3:Hid (New w w3):=by
  rw[hw3];exact ((N1.out.new k2).setCell (p:=⟨gk,0,none⟩) (fun hh=>absurd hh (by rw[GK.out];exact Nat.lt_irrefl _)) _).setCell (p:=⟨gk,1,none⟩) (fun hh=>absurd hh (by rw[GK.out];exact Nat.lt_irrefl _)) _
 have HW3:=jH hw3;rw[←hL] at RR HD;clear BT1 BC1 BR1 BA1 CC T2 k2 hw3 BE K3 a0 a1 hL
 go_upto_region 2 with fail
 rw[←HW3.out];clear HW3 e0 e1 f0 f1;have CR:=jH (zao p A2 es2.length c2 es2 w3 T3.out.in_ rfl RR.out);obtain⟨b0,b1⟩:=BT3.out.p2;go_wp2_with fail;refine CR.out.mono ?_;rintro e wb ⟨rfl,k4⟩;have BT:=jH (BT3.out.kept k4 id);have BC:=jH (BC3.out.kept k4 id);have BR:=jH (BR3.out.kept k4 id);have BA:=jH (BA3.out.kept k4 id);have HT:=jH (T3.out.new k4);have NW:=jH (N3.out.new k4);have AB:=jH (HAB.out.new (N3.out.new k4));have HWB:Hid (w.heap.size≤wb.heap.size):=NW.out.size
 have M48:Hid (es2.length≤48):=by have:=RR.out.len;rwa [zab] at this
 clear BT3 BC3 BR3 BA3 T3 N3 k4 b0 b1 CR HAB N1;generalize hm:es2.length=m at *;have LN:=jH hm;clear hm;have NB:Hid (New wb wb):=kR
 have EM:Hid (D=(⟨p,nds es2⟩,erA x2)):=by
  rw[Hid,HD.out,HX.out];unfold doF;rw[if_neg (by simp),if_neg (by show ¬peB sp≠0;rw[HPE.out];simp),if_pos ⟨by unfold twoK;simp,HPT.out⟩]
 have d3:(((x2:Nat):Int) != 0)=true:=bne_iff_ne.2 (by have:=HPT.out;rw[←HX.out] at this;omega);obtain⟨a0,a1⟩:=(BC.out.kept NB.out id).p2;go_wp2_with fail;refine (CP1.out _).mono ?_;rintro e w5 ⟨G1,c1,rfl,O1,k5⟩;have N5:=jH k5;obtain⟨n1,hn1⟩:∃n1,n1=g1.length:=⟨_,rfl⟩
 have X1:Hid (∀u,New w5 u→Txs u G1 n1 g1):=fun u hu=>by rw[hn1];exact O1.txs.new hu
 rw[←hn1] at L1 ⊢;clear k5 a0 a1 hn1 CP1 O1;have a0:=(BC.out.kept N5.out id).q0;have a2:=(BC.out.kept N5.out id).q2;go_wp2_with fail;refine (CP2.out _).mono ?_;rintro e w6 ⟨G2,cc2,rfl,O2,k6⟩;have N6:Hid (New wb w6):=N5.out.new k6;clear k6 a0 a2 O2 CP2 HPT HX X1 HE1;have BRZ:=jH (BR.out.kept N6.out id);have BAZ:=jH (BA.out.kept N6.out id);have BTZ:=BT.out.kept N6.out id;obtain⟨b0,b1⟩:=BTZ.p2;have HTZ:=jH (HT.out.new N6.out);have LNZ:=LN
 have KWZ:Hid (Kept (zak none) w w6):=(NW.out.new N6.out).mono fun _ _ f=>f.elim
 obtain⟨t0,t1⟩:=BRZ.out.p2;obtain⟨f0,f1⟩:=BRZ.out.f2;obtain⟨r0,r1,r2,r3,r4,r5,r6,r7⟩:=BAZ.out.p8;obtain⟨g0,g1,g2,g3,g4,g5,g6,g7⟩:=BAZ.out.f8;have HLD:Hid (((((((((((w6.setCell ⟨gk+1+1,0,none⟩ (.int .i64 p)).setCell ⟨gk+1+1,1,none⟩ (.slice (A2) m c2)).setCell ⟨gk+1+1+1,0,none⟩ (.int .i64 x2)).setCell ⟨gk+1+1+1,1,none⟩ (.int .i64 0)).setCell ⟨gk+1+1+1,2,none⟩ (.int .i64 0)).setCell ⟨gk+1+1+1,3,none⟩ (.int .u8 0)).setCell ⟨gk+1+1+1,4,none⟩ (.int .i64 0)).setCell ⟨gk+1+1+1,5,none⟩ (.int .i64 0)).setCell ⟨gk+1+1+1,6,none⟩ (.slice none 0 0)).setCell ⟨gk+1+1+1,7,none⟩ (.slice none 0 0))=laid w6 (gk+1+1) (gk+1+1+1) p (A2) m c2 (erA x2) none 0 0 none 0 0):=rfl
 have DD:=jH (zag (w:=w) (A0:=none) (a:=erA x2) (p:=p) (c:=c2) (n:=m) (d':=0) (t':=0) (B':=none) (m:=0) (q:=0) (T':=none) BRZ.out BAZ.out (by have:=GK.out;omega) (by have:=GK.out;omega) HTZ.out LNZ.out rfl (OwnB.nil _ _ _) rfl (Txs.nil _ _) (fun _ h=>by cases h) rfl KWZ.out);have DB:=jH (zae (p:=p) (A:=A2) (n:=m) (c:=c2) (a:=erA x2) (d':=0) (t':=0) (B':=none) (m:=0) (q:=0) (T':=none) BRZ.out BAZ.out);clear HTZ KWZ;go_wp2_with fail;rw[HLD.out];generalize laid w6 (gk+1+1) (gk+1+1+1) p (A2) m c2 (erA x2) none 0 0 none 0 0=wf at *;have d0:=DB.out.1.cell 0;have d1:=DB.out.1.cell 1;have d2:=DB.out.2.cell 0
 have d3:=DB.out.2.cell 1;have d4:=DB.out.2.cell 2;have d5:=DB.out.2.cell 3;have d6:=DB.out.2.cell 4;have d7:=DB.out.2.cell 5;have d8:=DB.out.2.cell 6;have d9:=DB.out.2.cell 7;simp at d0 d1 d2 d3 d4 d5 d6 d7 d8 d9
 try simp only[Exit.then]
 rw[←hqq];refine bodyPost_ret (by simp[results,Tryz.results17,go_sem,d0,d1,d2,d3,d4,d5,d6,d7,d8,d9];try rfl) rfl ?_;rw[EM.out];exact DD.out
theorem rdo_look (p:Nat) (A:Option Addr) (n c:Nat) (es:List NE) (sp st:ByteArray) (av nv:Int) (Ab:Option Addr) (bl bc:Nat) (ab:List Nat) (w:World) (h:TIn w A es) (hn:es.length=n) (hR:Rt ⟨p,nds es⟩) (hs:sp.size≤1048576) (_ht:st.size≤1048576) (hab:Bts w Ab bl ab)
  (k:Nat) (hk:1≤k∧k≤11∧k≠4∧k≠6) (hpe:peB sp=0) (hlk:(zad (nds es) (pnB sp) 0 1).2.2≠0):
  Calls Tryz.prog 17 #[.agg #[.int .i64 p,.slice A n c],.agg #[.int .u8 k,.string sp,.string st,.int .i64 av,.int .i64 nv,.slice Ab bl bc]] w
   (DoP w p w.heap.size none (doF ⟨p,nds es⟩ ⟨k,sp,st,av,nv,ab⟩).1.l (doF ⟨p,nds es⟩ ⟨k,sp,st,av,nv,ab⟩).2):=by
 obtain⟨w1,hw1⟩:∃w1,w1=(((w.alloc (.cells #[.int .i64 p,.slice A n c] 25)).alloc (.cells #[.int .u8 k,.string sp,.string st,.int .i64 av,.int .i64 nv,.slice Ab bl bc] 34)).alloc (.cells #[.int .i64 0,.slice none 0 0] 25)).alloc (.cells #[.int .i64 0,.int .i64 0,.int .i64 0,.int .u8 0,.int .i64 0,.int .i64 0,.slice none 0 0,.slice none 0 0] 41):=⟨_,rfl⟩
 have n1:New w w1:=by rw[hw1];exact (((kR.alloc _).alloc _).alloc _).alloc _
 have BT1:Hid (Blk w1 w.heap.size 25 [.int .i64 p,.slice A n c]):=by rw[hw1];exact (((Blk.made w _ _).alloc _).alloc _).alloc _
 have BC1:Hid (Blk w1 (w.heap.size+1) 34 [.int .u8 k,.string sp,.string st,.int .i64 av,.int .i64 nv,.slice Ab bl bc]):=by
  have:=Blk.made (w.alloc (.cells #[.int .i64 p,.slice A n c] 25)) 34 #[.int .u8 k,.string sp,.string st,.int .i64 av,.int .i64 nv,.slice Ab bl bc]
  rw[World.size_alloc] at this;rw[hw1];exact (this.alloc _).alloc _
 have BR1:Hid (Blk w1 (w.heap.size+1+1) 25 [.int .i64 0,.slice none 0 0]):=by
  have:=Blk.made ((w.alloc (.cells #[.int .i64 p,.slice A n c] 25)).alloc (.cells #[.int .u8 k,.string sp,.string st,.int .i64 av,.int .i64 nv,.slice Ab bl bc] 34)) 25 #[.int .i64 0,.slice none 0 0]
  rw[World.size_alloc,World.size_alloc] at this;rw[hw1];exact this.alloc _
 have BA1:Hid (Blk w1 (w.heap.size+1+1+1) 41 [.int .i64 0,.int .i64 0,.int .i64 0,.int .u8 0,.int .i64 0,.int .i64 0,.slice none 0 0,.slice none 0 0]):=by
  have:=Blk.made (((w.alloc (.cells #[.int .i64 p,.slice A n c] 25)).alloc (.cells #[.int .u8 k,.string sp,.string st,.int .i64 av,.int .i64 nv,.slice Ab bl bc] 34)).alloc (.cells #[.int .i64 0,.slice none 0 0] 25)) 41 #[.int .i64 0,.int .i64 0,.int .i64 0,.int .u8 0,.int .i64 0,.int .i64 0,.slice none 0 0,.slice none 0 0]
  rw[World.size_alloc,World.size_alloc,World.size_alloc] at this;rw[hw1];exact this
 have CC:=jH (zau p A n c es w1 (h.new n1) hn hR);have N1:=jH n1;have HW:=jH hw1;have RR:=jH hR;have HAB:=jH hab;obtain⟨D,hD⟩:∃D,D=doF ⟨p,nds es⟩ ⟨k,sp,st,av,nv,ab⟩:=⟨_,rfl⟩;rw[←hD];have HD:=jH hD;obtain⟨g1,hg1⟩:∃g,g=pN sp.data.toList:=⟨_,rfl⟩
 have e1:pnB sp=g1.map baL:=by rw[hg1];rfl
 have L1:Hid (g1.length≤6):=by rw[hg1];exact zcc _
 have CP1:Hid (∀u,Calls Tryz.prog 35 #[.string sp] u (RetP u g1 0)):=fun u=>by
  have:=zaj sp u hs
  rw[←hg1,show pE sp.data.toList=0 from hpe] at this;exact this
 rw[e1] at hlk;have HLK:=jH hlk;have HE1:=jH e1;have HPE:=jH hpe;clear e1 hg1 hlk hpe hs;clear h n1 hw1 hn hR hab hD;go_enter Tryz.func17,Tryz.ntmps17;generalize hqq:(bodyPost _ _ _:Exit→Act→World→Prop)=QQ
 go_upto_region 1 with fail
 rw[←HW.out];clear HW;obtain⟨gk,hgk⟩:∃gk,gk=w.heap.size:=⟨_,rfl⟩;rw[←hgk] at BT1 BC1 BR1 BA1;have GK:=jH hgk
 have GKS:Hid (∀u:World,New w u→gk≤u.heap.size):=fun u hu=>by rw[hgk];exact hu.size
 obtain⟨a0,a1⟩:=BT1.out.p2;rw[←hgk];clear hgk;go_wp2_with fail;refine CC.out.mono ?_;rintro e w2 ⟨A2,c2,es2,rfl,hL,T2,k2⟩;have hL:nds es2=nds es:=hL;obtain⟨w3,hw3⟩:∃w3,w3=(w2.setCell ⟨gk,0,none⟩ (.int .i64 p)).setCell ⟨gk,1,none⟩ (.slice A2 es2.length c2):=⟨_,rfl⟩;have BE:=BT1.out.kept k2 id;obtain⟨e0,e1⟩:=BE.p2;obtain⟨f0,f1⟩:=BE.f2
 have K3:Kept (·=gk) w2 w3:=by rw[hw3];exact (Kept.set1 _ _ _ _).setCell (p:=⟨gk,1,none⟩) (fun _=>rfl) _
 have BT3:Hid (Blk w3 gk 25 [.int .i64 p,.slice A2 es2.length c2]):=by rw[hw3];exact (BE.put 0 _).put 1 _
 have BC3:=jH ((BC1.out.kept k2 id).kept K3 (by omega));have BR3:=jH ((BR1.out.kept k2 id).kept K3 (by omega));have BA3:=jH ((BA1.out.kept k2 id).kept K3 (by omega));have T3:=jH (TOwn.far (T2.mono N1.out.size) K3 BE.at_ (by decide) (by decide) (by decide))
 have N3:Hid (New w w3):=by
  rw[hw3];exact ((N1.out.new k2).setCell (p:=⟨gk,0,none⟩) (fun hh=>absurd hh (by rw[GK.out];exact Nat.lt_irrefl _)) _).setCell (p:=⟨gk,1,none⟩) (fun hh=>absurd hh (by rw[GK.out];exact Nat.lt_irrefl _)) _
 have HW3:=jH hw3;rw[←hL] at RR HD HLK;clear BT1 BC1 BR1 BA1 CC T2 k2 hw3 BE K3 a0 a1 hL
 go_upto_region 2 with fail
 rw[←HW3.out];clear HW3 e0 e1 f0 f1;have CR:=jH (zao p A2 es2.length c2 es2 w3 T3.out.in_ rfl RR.out);obtain⟨b0,b1⟩:=BT3.out.p2;go_wp2_with fail;refine CR.out.mono ?_;rintro e wb ⟨rfl,k4⟩;have BT:=jH (BT3.out.kept k4 id);have BC:=jH (BC3.out.kept k4 id);have BR:=jH (BR3.out.kept k4 id);have BA:=jH (BA3.out.kept k4 id);have HT:=jH (T3.out.new k4);have NW:=jH (N3.out.new k4);have AB:=jH (HAB.out.new (N3.out.new k4));have HWB:Hid (w.heap.size≤wb.heap.size):=NW.out.size
 have M48:Hid (es2.length≤48):=by have:=RR.out.len;rwa [zab] at this
 clear BT3 BC3 BR3 BA3 T3 N3 k4 b0 b1 CR HAB N1;generalize hm:es2.length=m at *;have LN:=jH hm;clear hm;have NB:Hid (New wb wb):=kR;obtain⟨lq,lj,lx,hlx⟩:∃lq lj lx,zad (nds es2) (g1.map baL) 0 1=(lq,lj,lx):=⟨_,_,_,rfl⟩
 have HLX:Hid (lx≠0):=by have:=HLK.out;rw[hlx] at this;exact this
 have HLE:=jH hlx
 have EM:Hid (D=(⟨p,nds es2⟩,erA lx)):=by
  rw[Hid,HD.out];unfold doF;rw[if_neg (by show ¬(k=0∨11 < k);omega),if_neg (by show ¬peB sp≠0;rw[HPE.out];simp),if_neg (by rintro ⟨hh,h2⟩;unfold twoK at hh;have hh:k=4∨k=6:=hh;omega)]
  show (if (zad (nds es2) (pnB sp) 0 1).2.2≠0 then _ else _)=_
  rw[HE1.out,hlx,if_pos HLX.out]
 have d3:(((lx:Nat):Int) != 0)=true:=bne_iff_ne.2 (by have:=HLX.out;omega);clear hlx;have k1:decide (((k:Nat):Int) < 1)=false:=decide_eq_false (by omega);have k2:decide (11 < ((k:Nat):Int))=false:=decide_eq_false (by omega);have k6:(((k:Nat):Int) == 4)=false:=beq_eq_false_iff_ne.2 (by omega);have k8:(((k:Nat):Int) == 6)=false:=beq_eq_false_iff_ne.2 (by omega);obtain⟨a0,a1⟩:=(BC.out.kept NB.out id).p2;go_wp2_with fail;refine (CP1.out _).mono ?_;rintro e w5 ⟨G1,c1,rfl,O1,k5⟩;have N5:=jH k5;obtain⟨n1,hn1⟩:∃n1,n1=g1.length:=⟨_,rfl⟩
 have X1:Hid (∀u,New w5 u→Txs u G1 n1 g1):=fun u hu=>by rw[hn1];exact O1.txs.new hu
 rw[←hn1] at L1 ⊢;clear k5 a0 a1 hn1 CP1 O1;have a0:=(BC.out.kept N5.out id).q0;obtain⟨b0,b1⟩:=(BT.out.kept N5.out id).p2;have CL:=jH (zat p A2 m c2 es2 G1 n1 c1 g1 w5 (HT.out.new N5.out).in_ LN.out RR.out (X1.out w5 kR) (by have:=L1.out;omega));rw[HLE.out] at CL;go_wp2_with fail;refine CL.out.mono ?_;rintro e w7 ⟨rfl,kk⟩;have N7:Hid (New wb w7):=N5.out.new kk;clear kk CL X1 HLK a0 b0 b1 HLE HLX HE1 HPE;have BRZ:=jH (BR.out.kept N7.out id);have BAZ:=jH (BA.out.kept N7.out id);have BTZ:=BT.out.kept N7.out id;obtain⟨b0,b1⟩:=BTZ.p2;have HTZ:=jH (HT.out.new N7.out);have LNZ:=LN
 have KWZ:Hid (Kept (zak none) w w7):=(NW.out.new N7.out).mono fun _ _ f=>f.elim
 obtain⟨t0,t1⟩:=BRZ.out.p2;obtain⟨f0,f1⟩:=BRZ.out.f2;obtain⟨r0,r1,r2,r3,r4,r5,r6,r7⟩:=BAZ.out.p8;obtain⟨g0,g1,g2,g3,g4,g5,g6,g7⟩:=BAZ.out.f8;have HLD:Hid (((((((((((w7.setCell ⟨gk+1+1,0,none⟩ (.int .i64 p)).setCell ⟨gk+1+1,1,none⟩ (.slice (A2) m c2)).setCell ⟨gk+1+1+1,0,none⟩ (.int .i64 (lx:Nat))).setCell ⟨gk+1+1+1,1,none⟩ (.int .i64 0)).setCell ⟨gk+1+1+1,2,none⟩ (.int .i64 0)).setCell ⟨gk+1+1+1,3,none⟩ (.int .u8 0)).setCell ⟨gk+1+1+1,4,none⟩ (.int .i64 0)).setCell ⟨gk+1+1+1,5,none⟩ (.int .i64 0)).setCell ⟨gk+1+1+1,6,none⟩ (.slice none 0 0)).setCell ⟨gk+1+1+1,7,none⟩ (.slice none 0 0))=laid w7 (gk+1+1) (gk+1+1+1) p (A2) m c2 (erA lx) none 0 0 none 0 0):=rfl
 have DD:=jH (zag (w:=w) (A0:=none) (a:=erA lx) (p:=p) (c:=c2) (n:=m) (d':=0) (t':=0) (B':=none) (m:=0) (q:=0) (T':=none) BRZ.out BAZ.out (by have:=GK.out;omega) (by have:=GK.out;omega) HTZ.out LNZ.out rfl (OwnB.nil _ _ _) rfl (Txs.nil _ _) (fun _ h=>by cases h) rfl KWZ.out);have DB:=jH (zae (p:=p) (A:=A2) (n:=m) (c:=c2) (a:=erA lx) (d':=0) (t':=0) (B':=none) (m:=0) (q:=0) (T':=none) BRZ.out BAZ.out);clear HTZ KWZ;go_wp2_with fail;rw[HLD.out];generalize laid w7 (gk+1+1) (gk+1+1+1) p (A2) m c2 (erA lx) none 0 0 none 0 0=wf at *;have d0:=DB.out.1.cell 0;have d1:=DB.out.1.cell 1;have d2:=DB.out.2.cell 0
 have d3:=DB.out.2.cell 1;have d4:=DB.out.2.cell 2;have d5:=DB.out.2.cell 3;have d6:=DB.out.2.cell 4;have d7:=DB.out.2.cell 5;have d8:=DB.out.2.cell 6;have d9:=DB.out.2.cell 7;simp at d0 d1 d2 d3 d4 d5 d6 d7 d8 d9
 try simp only[Exit.then]
 rw[←hqq];refine bodyPost_ret (by simp[results,Tryz.results17,go_sem,d0,d1,d2,d3,d4,d5,d6,d7,d8,d9];try rfl) rfl ?_;rw[EM.out];exact DD.out
theorem rdo_look4 (p:Nat) (A:Option Addr) (n c:Nat) (es:List NE) (sp st:ByteArray) (av nv:Int) (Ab:Option Addr) (bl bc:Nat) (ab:List Nat) (w:World) (h:TIn w A es) (hn:es.length=n) (hR:Rt ⟨p,nds es⟩) (hs:sp.size≤1048576) (ht:st.size≤1048576) (hab:Bts w Ab bl ab)
  (hpe:peB sp=0) (hpt:peB st=0) (hlk:(zad (nds es) (pnB sp) 0 1).2.2≠0):
  Calls Tryz.prog 17 #[.agg #[.int .i64 p,.slice A n c],.agg #[.int .u8 4,.string sp,.string st,.int .i64 av,.int .i64 nv,.slice Ab bl bc]] w
   (DoP w p w.heap.size none (doF ⟨p,nds es⟩ ⟨4,sp,st,av,nv,ab⟩).1.l (doF ⟨p,nds es⟩ ⟨4,sp,st,av,nv,ab⟩).2):=by
 obtain⟨w1,hw1⟩:∃w1,w1=(((w.alloc (.cells #[.int .i64 p,.slice A n c] 25)).alloc (.cells #[.int .u8 4,.string sp,.string st,.int .i64 av,.int .i64 nv,.slice Ab bl bc] 34)).alloc (.cells #[.int .i64 0,.slice none 0 0] 25)).alloc (.cells #[.int .i64 0,.int .i64 0,.int .i64 0,.int .u8 0,.int .i64 0,.int .i64 0,.slice none 0 0,.slice none 0 0] 41):=⟨_,rfl⟩
 have n1:New w w1:=by rw[hw1];exact (((kR.alloc _).alloc _).alloc _).alloc _
 have BT1:Hid (Blk w1 w.heap.size 25 [.int .i64 p,.slice A n c]):=by rw[hw1];exact (((Blk.made w _ _).alloc _).alloc _).alloc _
 have BC1:Hid (Blk w1 (w.heap.size+1) 34 [.int .u8 4,.string sp,.string st,.int .i64 av,.int .i64 nv,.slice Ab bl bc]):=by
  have:=Blk.made (w.alloc (.cells #[.int .i64 p,.slice A n c] 25)) 34 #[.int .u8 4,.string sp,.string st,.int .i64 av,.int .i64 nv,.slice Ab bl bc]
  rw[World.size_alloc] at this;rw[hw1];exact (this.alloc _).alloc _
 have BR1:Hid (Blk w1 (w.heap.size+1+1) 25 [.int .i64 0,.slice none 0 0]):=by
  have:=Blk.made ((w.alloc (.cells #[.int .i64 p,.slice A n c] 25)).alloc (.cells #[.int .u8 4,.string sp,.string st,.int .i64 av,.int .i64 nv,.slice Ab bl bc] 34)) 25 #[.int .i64 0,.slice none 0 0]
  rw[World.size_alloc,World.size_alloc] at this;rw[hw1];exact this.alloc _
 have BA1:Hid (Blk w1 (w.heap.size+1+1+1) 41 [.int .i64 0,.int .i64 0,.int .i64 0,.int .u8 0,.int .i64 0,.int .i64 0,.slice none 0 0,.slice none 0 0]):=by
  have:=Blk.made (((w.alloc (.cells #[.int .i64 p,.slice A n c] 25)).alloc (.cells #[.int .u8 4,.string sp,.string st,.int .i64 av,.int .i64 nv,.slice Ab bl bc] 34)).alloc (.cells #[.int .i64 0,.slice none 0 0] 25)) 41 #[.int .i64 0,.int .i64 0,.int .i64 0,.int .u8 0,.int .i64 0,.int .i64 0,.slice none 0 0,.slice none 0 0]
  rw[World.size_alloc,World.size_alloc,World.size_alloc] at this;rw[hw1];exact this
 have CC:=jH (zau p A n c es w1 (h.new n1) hn hR);have N1:=jH n1;have HW:=jH hw1;have RR:=jH hR;have HAB:=jH hab;obtain⟨D,hD⟩:∃D,D=doF ⟨p,nds es⟩ ⟨4,sp,st,av,nv,ab⟩:=⟨_,rfl⟩;rw[←hD];have HD:=jH hD;obtain⟨g1,hg1⟩:∃g,g=pN sp.data.toList:=⟨_,rfl⟩
 have e1:pnB sp=g1.map baL:=by rw[hg1];rfl
 have L1:Hid (g1.length≤6):=by rw[hg1];exact zcc _
 have CP1:Hid (∀u,Calls Tryz.prog 35 #[.string sp] u (RetP u g1 0)):=fun u=>by
  have:=zaj sp u hs
  rw[←hg1,show pE sp.data.toList=0 from hpe] at this;exact this
 rw[e1] at hlk;have HLK:=jH hlk;have HE1:=jH e1;have HPE:=jH hpe;clear e1 hg1 hlk hpe hs;obtain⟨g2,hg2⟩:∃g,g=pN st.data.toList:=⟨_,rfl⟩
 have e2:pnB st=g2.map baL:=by rw[hg2];rfl
 have L2:Hid (g2.length≤6):=by rw[hg2];exact zcc _
 have CP2:Hid (∀u,Calls Tryz.prog 35 #[.string st] u (RetP u g2 0)):=fun u=>by
  have:=zaj st u ht
  rw[←hg2,show pE st.data.toList=0 from hpt] at this;exact this
 have HE2:=jH e2;have HPT:=jH hpt;clear e2 hg2 hpt ht;clear h n1 hw1 hn hR hab hD;go_enter Tryz.func17,Tryz.ntmps17;generalize hqq:(bodyPost _ _ _:Exit→Act→World→Prop)=QQ
 go_upto_region 1 with fail
 rw[←HW.out];clear HW;obtain⟨gk,hgk⟩:∃gk,gk=w.heap.size:=⟨_,rfl⟩;rw[←hgk] at BT1 BC1 BR1 BA1;have GK:=jH hgk
 have GKS:Hid (∀u:World,New w u→gk≤u.heap.size):=fun u hu=>by rw[hgk];exact hu.size
 obtain⟨a0,a1⟩:=BT1.out.p2;rw[←hgk];clear hgk;go_wp2_with fail;refine CC.out.mono ?_;rintro e w2 ⟨A2,c2,es2,rfl,hL,T2,k2⟩;have hL:nds es2=nds es:=hL;obtain⟨w3,hw3⟩:∃w3,w3=(w2.setCell ⟨gk,0,none⟩ (.int .i64 p)).setCell ⟨gk,1,none⟩ (.slice A2 es2.length c2):=⟨_,rfl⟩;have BE:=BT1.out.kept k2 id;obtain⟨e0,e1⟩:=BE.p2;obtain⟨f0,f1⟩:=BE.f2
 have K3:Kept (·=gk) w2 w3:=by rw[hw3];exact (Kept.set1 _ _ _ _).setCell (p:=⟨gk,1,none⟩) (fun _=>rfl) _
 have BT3:Hid (Blk w3 gk 25 [.int .i64 p,.slice A2 es2.length c2]):=by rw[hw3];exact (BE.put 0 _).put 1 _
 have BC3:=jH ((BC1.out.kept k2 id).kept K3 (by omega));have BR3:=jH ((BR1.out.kept k2 id).kept K3 (by omega));have BA3:=jH ((BA1.out.kept k2 id).kept K3 (by omega));have T3:=jH (TOwn.far (T2.mono N1.out.size) K3 BE.at_ (by decide) (by decide) (by decide))
 have N3:Hid (New w w3):=by
  rw[hw3];exact ((N1.out.new k2).setCell (p:=⟨gk,0,none⟩) (fun hh=>absurd hh (by rw[GK.out];exact Nat.lt_irrefl _)) _).setCell (p:=⟨gk,1,none⟩) (fun hh=>absurd hh (by rw[GK.out];exact Nat.lt_irrefl _)) _
 have HW3:=jH hw3;rw[←hL] at RR HD HLK;clear BT1 BC1 BR1 BA1 CC T2 k2 hw3 BE K3 a0 a1 hL
 go_upto_region 2 with fail
 rw[←HW3.out];clear HW3 e0 e1 f0 f1;have CR:=jH (zao p A2 es2.length c2 es2 w3 T3.out.in_ rfl RR.out);obtain⟨b0,b1⟩:=BT3.out.p2;go_wp2_with fail;refine CR.out.mono ?_;rintro e wb ⟨rfl,k4⟩;have BT:=jH (BT3.out.kept k4 id);have BC:=jH (BC3.out.kept k4 id);have BR:=jH (BR3.out.kept k4 id);have BA:=jH (BA3.out.kept k4 id);have HT:=jH (T3.out.new k4);have NW:=jH (N3.out.new k4);have AB:=jH (HAB.out.new (N3.out.new k4));have HWB:Hid (w.heap.size≤wb.heap.size):=NW.out.size
 have M48:Hid (es2.length≤48):=by have:=RR.out.len;rwa [zab] at this
 clear BT3 BC3 BR3 BA3 T3 N3 k4 b0 b1 CR HAB N1;generalize hm:es2.length=m at *;have LN:=jH hm;clear hm;have NB:Hid (New wb wb):=kR;obtain⟨lq,lj,lx,hlx⟩:∃lq lj lx,zad (nds es2) (g1.map baL) 0 1=(lq,lj,lx):=⟨_,_,_,rfl⟩
 have HLX:Hid (lx≠0):=by have:=HLK.out;rw[hlx] at this;exact this
 have HLE:=jH hlx
 have EM:Hid (D=(⟨p,nds es2⟩,erA lx)):=by
  rw[Hid,HD.out];unfold doF;rw[if_neg (by simp),if_neg (by show ¬peB sp≠0;rw[HPE.out];simp),if_neg (by rintro ⟨hh,h2⟩;exact h2 HPT.out)]
  show (if (zad (nds es2) (pnB sp) 0 1).2.2≠0 then _ else _)=_
  rw[HE1.out,hlx,if_pos HLX.out]
 have d3:(((lx:Nat):Int) != 0)=true:=bne_iff_ne.2 (by have:=HLX.out;omega);clear hlx;obtain⟨a0,a1⟩:=(BC.out.kept NB.out id).p2;go_wp2_with fail;refine (CP1.out _).mono ?_;rintro e w5 ⟨G1,c1,rfl,O1,k5⟩;have N5:=jH k5;obtain⟨n1,hn1⟩:∃n1,n1=g1.length:=⟨_,rfl⟩
 have X1:Hid (∀u,New w5 u→Txs u G1 n1 g1):=fun u hu=>by rw[hn1];exact O1.txs.new hu
 rw[←hn1] at L1 ⊢;clear k5 a0 a1 hn1 CP1 O1;have a0:=(BC.out.kept N5.out id).q0;have a2:=(BC.out.kept N5.out id).q2;go_wp2_with fail;refine (CP2.out _).mono ?_;rintro e w6 ⟨G2,cc2,rfl,O2,k6⟩;have N6:Hid (New wb w6):=N5.out.new k6;obtain⟨n2,hn2⟩:∃n2,n2=g2.length:=⟨_,rfl⟩
 have X2:Hid (∀u,New w6 u→Txs u G2 n2 g2):=fun u hu=>by rw[hn2];exact O2.txs.new hu
 have X1:Hid (∀u,New w6 u→Txs u G1 n1 g1):=fun u hu=>X1.out u (Kept.new k6 hu)
 rw[←hn2] at L2 ⊢;clear k6 a0 a2 hn2 CP2 O2;obtain⟨b0,b1⟩:=(BT.out.kept N6.out id).p2;have CL:=jH (zat p A2 m c2 es2 G1 n1 c1 g1 w6 (HT.out.new N6.out).in_ LN.out RR.out (X1.out w6 kR) (by have:=L1.out;omega));rw[HLE.out] at CL;go_wp2_with fail;refine CL.out.mono ?_;rintro e w7 ⟨rfl,kk⟩;have N7:Hid (New wb w7):=N6.out.new kk;clear kk CL X1 X2 HLK b0 b1 HLE HLX HE1 HE2 HPE HPT;have BRZ:=jH (BR.out.kept N7.out id);have BAZ:=jH (BA.out.kept N7.out id);have BTZ:=BT.out.kept N7.out id;obtain⟨b0,b1⟩:=BTZ.p2;have HTZ:=jH (HT.out.new N7.out);have LNZ:=LN
 have KWZ:Hid (Kept (zak none) w w7):=(NW.out.new N7.out).mono fun _ _ f=>f.elim
 obtain⟨t0,t1⟩:=BRZ.out.p2;obtain⟨f0,f1⟩:=BRZ.out.f2;obtain⟨r0,r1,r2,r3,r4,r5,r6,r7⟩:=BAZ.out.p8;obtain⟨g0,g1,g2,g3,g4,g5,g6,g7⟩:=BAZ.out.f8;have HLD:Hid (((((((((((w7.setCell ⟨gk+1+1,0,none⟩ (.int .i64 p)).setCell ⟨gk+1+1,1,none⟩ (.slice (A2) m c2)).setCell ⟨gk+1+1+1,0,none⟩ (.int .i64 (lx:Nat))).setCell ⟨gk+1+1+1,1,none⟩ (.int .i64 0)).setCell ⟨gk+1+1+1,2,none⟩ (.int .i64 0)).setCell ⟨gk+1+1+1,3,none⟩ (.int .u8 0)).setCell ⟨gk+1+1+1,4,none⟩ (.int .i64 0)).setCell ⟨gk+1+1+1,5,none⟩ (.int .i64 0)).setCell ⟨gk+1+1+1,6,none⟩ (.slice none 0 0)).setCell ⟨gk+1+1+1,7,none⟩ (.slice none 0 0))=laid w7 (gk+1+1) (gk+1+1+1) p (A2) m c2 (erA lx) none 0 0 none 0 0):=rfl
 have DD:=jH (zag (w:=w) (A0:=none) (a:=erA lx) (p:=p) (c:=c2) (n:=m) (d':=0) (t':=0) (B':=none) (m:=0) (q:=0) (T':=none) BRZ.out BAZ.out (by have:=GK.out;omega) (by have:=GK.out;omega) HTZ.out LNZ.out rfl (OwnB.nil _ _ _) rfl (Txs.nil _ _) (fun _ h=>by cases h) rfl KWZ.out);have DB:=jH (zae (p:=p) (A:=A2) (n:=m) (c:=c2) (a:=erA lx) (d':=0) (t':=0) (B':=none) (m:=0) (q:=0) (T':=none) BRZ.out BAZ.out);clear HTZ KWZ;go_wp2_with fail;rw[HLD.out];generalize laid w7 (gk+1+1) (gk+1+1+1) p (A2) m c2 (erA lx) none 0 0 none 0 0=wf at *;have d0:=DB.out.1.cell 0;have d1:=DB.out.1.cell 1;have d2:=DB.out.2.cell 0
 have d3:=DB.out.2.cell 1;have d4:=DB.out.2.cell 2;have d5:=DB.out.2.cell 3;have d6:=DB.out.2.cell 4;have d7:=DB.out.2.cell 5;have d8:=DB.out.2.cell 6;have d9:=DB.out.2.cell 7;simp at d0 d1 d2 d3 d4 d5 d6 d7 d8 d9
 try simp only[Exit.then]
 rw[←hqq];refine bodyPost_ret (by simp[results,Tryz.results17,go_sem,d0,d1,d2,d3,d4,d5,d6,d7,d8,d9];try rfl) rfl ?_;rw[EM.out];exact DD.out
theorem rdo_look6 (p:Nat) (A:Option Addr) (n c:Nat) (es:List NE) (sp st:ByteArray) (av nv:Int) (Ab:Option Addr) (bl bc:Nat) (ab:List Nat) (w:World) (h:TIn w A es) (hn:es.length=n) (hR:Rt ⟨p,nds es⟩) (hs:sp.size≤1048576) (ht:st.size≤1048576) (hab:Bts w Ab bl ab)
  (hpe:peB sp=0) (hpt:peB st=0) (hlk:(zad (nds es) (pnB sp) 0 1).2.2≠0):
  Calls Tryz.prog 17 #[.agg #[.int .i64 p,.slice A n c],.agg #[.int .u8 6,.string sp,.string st,.int .i64 av,.int .i64 nv,.slice Ab bl bc]] w
   (DoP w p w.heap.size none (doF ⟨p,nds es⟩ ⟨6,sp,st,av,nv,ab⟩).1.l (doF ⟨p,nds es⟩ ⟨6,sp,st,av,nv,ab⟩).2):=by
 obtain⟨w1,hw1⟩:∃w1,w1=(((w.alloc (.cells #[.int .i64 p,.slice A n c] 25)).alloc (.cells #[.int .u8 6,.string sp,.string st,.int .i64 av,.int .i64 nv,.slice Ab bl bc] 34)).alloc (.cells #[.int .i64 0,.slice none 0 0] 25)).alloc (.cells #[.int .i64 0,.int .i64 0,.int .i64 0,.int .u8 0,.int .i64 0,.int .i64 0,.slice none 0 0,.slice none 0 0] 41):=⟨_,rfl⟩
 have n1:New w w1:=by rw[hw1];exact (((kR.alloc _).alloc _).alloc _).alloc _
 have BT1:Hid (Blk w1 w.heap.size 25 [.int .i64 p,.slice A n c]):=by rw[hw1];exact (((Blk.made w _ _).alloc _).alloc _).alloc _
 have BC1:Hid (Blk w1 (w.heap.size+1) 34 [.int .u8 6,.string sp,.string st,.int .i64 av,.int .i64 nv,.slice Ab bl bc]):=by
  have:=Blk.made (w.alloc (.cells #[.int .i64 p,.slice A n c] 25)) 34 #[.int .u8 6,.string sp,.string st,.int .i64 av,.int .i64 nv,.slice Ab bl bc]
  rw[World.size_alloc] at this;rw[hw1];exact (this.alloc _).alloc _
 have BR1:Hid (Blk w1 (w.heap.size+1+1) 25 [.int .i64 0,.slice none 0 0]):=by
  have:=Blk.made ((w.alloc (.cells #[.int .i64 p,.slice A n c] 25)).alloc (.cells #[.int .u8 6,.string sp,.string st,.int .i64 av,.int .i64 nv,.slice Ab bl bc] 34)) 25 #[.int .i64 0,.slice none 0 0]
  rw[World.size_alloc,World.size_alloc] at this;rw[hw1];exact this.alloc _
 have BA1:Hid (Blk w1 (w.heap.size+1+1+1) 41 [.int .i64 0,.int .i64 0,.int .i64 0,.int .u8 0,.int .i64 0,.int .i64 0,.slice none 0 0,.slice none 0 0]):=by
  have:=Blk.made (((w.alloc (.cells #[.int .i64 p,.slice A n c] 25)).alloc (.cells #[.int .u8 6,.string sp,.string st,.int .i64 av,.int .i64 nv,.slice Ab bl bc] 34)).alloc (.cells #[.int .i64 0,.slice none 0 0] 25)) 41 #[.int .i64 0,.int .i64 0,.int .i64 0,.int .u8 0,.int .i64 0,.int .i64 0,.slice none 0 0,.slice none 0 0]
  rw[World.size_alloc,World.size_alloc,World.size_alloc] at this;rw[hw1];exact this
 have CC:=jH (zau p A n c es w1 (h.new n1) hn hR);have N1:=jH n1;have HW:=jH hw1;have RR:=jH hR;have HAB:=jH hab;obtain⟨D,hD⟩:∃D,D=doF ⟨p,nds es⟩ ⟨6,sp,st,av,nv,ab⟩:=⟨_,rfl⟩;rw[←hD];have HD:=jH hD;obtain⟨g1,hg1⟩:∃g,g=pN sp.data.toList:=⟨_,rfl⟩
 have e1:pnB sp=g1.map baL:=by rw[hg1];rfl
 have L1:Hid (g1.length≤6):=by rw[hg1];exact zcc _
 have CP1:Hid (∀u,Calls Tryz.prog 35 #[.string sp] u (RetP u g1 0)):=fun u=>by
  have:=zaj sp u hs
  rw[←hg1,show pE sp.data.toList=0 from hpe] at this;exact this
 rw[e1] at hlk;have HLK:=jH hlk;have HE1:=jH e1;have HPE:=jH hpe;clear e1 hg1 hlk hpe hs;obtain⟨g2,hg2⟩:∃g,g=pN st.data.toList:=⟨_,rfl⟩
 have e2:pnB st=g2.map baL:=by rw[hg2];rfl
 have L2:Hid (g2.length≤6):=by rw[hg2];exact zcc _
 have CP2:Hid (∀u,Calls Tryz.prog 35 #[.string st] u (RetP u g2 0)):=fun u=>by
  have:=zaj st u ht
  rw[←hg2,show pE st.data.toList=0 from hpt] at this;exact this
 have HE2:=jH e2;have HPT:=jH hpt;clear e2 hg2 hpt ht;clear h n1 hw1 hn hR hab hD;go_enter Tryz.func17,Tryz.ntmps17;generalize hqq:(bodyPost _ _ _:Exit→Act→World→Prop)=QQ
 go_upto_region 1 with fail
 rw[←HW.out];clear HW;obtain⟨gk,hgk⟩:∃gk,gk=w.heap.size:=⟨_,rfl⟩;rw[←hgk] at BT1 BC1 BR1 BA1;have GK:=jH hgk
 have GKS:Hid (∀u:World,New w u→gk≤u.heap.size):=fun u hu=>by rw[hgk];exact hu.size
 obtain⟨a0,a1⟩:=BT1.out.p2;rw[←hgk];clear hgk;go_wp2_with fail;refine CC.out.mono ?_;rintro e w2 ⟨A2,c2,es2,rfl,hL,T2,k2⟩;have hL:nds es2=nds es:=hL;obtain⟨w3,hw3⟩:∃w3,w3=(w2.setCell ⟨gk,0,none⟩ (.int .i64 p)).setCell ⟨gk,1,none⟩ (.slice A2 es2.length c2):=⟨_,rfl⟩;have BE:=BT1.out.kept k2 id;obtain⟨e0,e1⟩:=BE.p2;obtain⟨f0,f1⟩:=BE.f2
 have K3:Kept (·=gk) w2 w3:=by rw[hw3];exact (Kept.set1 _ _ _ _).setCell (p:=⟨gk,1,none⟩) (fun _=>rfl) _
 have BT3:Hid (Blk w3 gk 25 [.int .i64 p,.slice A2 es2.length c2]):=by rw[hw3];exact (BE.put 0 _).put 1 _
 have BC3:=jH ((BC1.out.kept k2 id).kept K3 (by omega));have BR3:=jH ((BR1.out.kept k2 id).kept K3 (by omega));have BA3:=jH ((BA1.out.kept k2 id).kept K3 (by omega));have T3:=jH (TOwn.far (T2.mono N1.out.size) K3 BE.at_ (by decide) (by decide) (by decide))
 have N3:Hid (New w w3):=by
  rw[hw3];exact ((N1.out.new k2).setCell (p:=⟨gk,0,none⟩) (fun hh=>absurd hh (by rw[GK.out];exact Nat.lt_irrefl _)) _).setCell (p:=⟨gk,1,none⟩) (fun hh=>absurd hh (by rw[GK.out];exact Nat.lt_irrefl _)) _
 have HW3:=jH hw3;rw[←hL] at RR HD HLK;clear BT1 BC1 BR1 BA1 CC T2 k2 hw3 BE K3 a0 a1 hL
 go_upto_region 2 with fail
 rw[←HW3.out];clear HW3 e0 e1 f0 f1;have CR:=jH (zao p A2 es2.length c2 es2 w3 T3.out.in_ rfl RR.out);obtain⟨b0,b1⟩:=BT3.out.p2;go_wp2_with fail;refine CR.out.mono ?_;rintro e wb ⟨rfl,k4⟩;have BT:=jH (BT3.out.kept k4 id);have BC:=jH (BC3.out.kept k4 id);have BR:=jH (BR3.out.kept k4 id);have BA:=jH (BA3.out.kept k4 id);have HT:=jH (T3.out.new k4);have NW:=jH (N3.out.new k4);have AB:=jH (HAB.out.new (N3.out.new k4));have HWB:Hid (w.heap.size≤wb.heap.size):=NW.out.size
 have M48:Hid (es2.length≤48):=by have:=RR.out.len;rwa [zab] at this
 clear BT3 BC3 BR3 BA3 T3 N3 k4 b0 b1 CR HAB N1;generalize hm:es2.length=m at *;have LN:=jH hm;clear hm;have NB:Hid (New wb wb):=kR;obtain⟨lq,lj,lx,hlx⟩:∃lq lj lx,zad (nds es2) (g1.map baL) 0 1=(lq,lj,lx):=⟨_,_,_,rfl⟩
 have HLX:Hid (lx≠0):=by have:=HLK.out;rw[hlx] at this;exact this
 have HLE:=jH hlx
 have EM:Hid (D=(⟨p,nds es2⟩,erA lx)):=by
  rw[Hid,HD.out];unfold doF;rw[if_neg (by simp),if_neg (by show ¬peB sp≠0;rw[HPE.out];simp),if_neg (by rintro ⟨hh,h2⟩;exact h2 HPT.out)]
  show (if (zad (nds es2) (pnB sp) 0 1).2.2≠0 then _ else _)=_
  rw[HE1.out,hlx,if_pos HLX.out]
 have d3:(((lx:Nat):Int) != 0)=true:=bne_iff_ne.2 (by have:=HLX.out;omega);clear hlx;obtain⟨a0,a1⟩:=(BC.out.kept NB.out id).p2;go_wp2_with fail;refine (CP1.out _).mono ?_;rintro e w5 ⟨G1,c1,rfl,O1,k5⟩;have N5:=jH k5;obtain⟨n1,hn1⟩:∃n1,n1=g1.length:=⟨_,rfl⟩
 have X1:Hid (∀u,New w5 u→Txs u G1 n1 g1):=fun u hu=>by rw[hn1];exact O1.txs.new hu
 rw[←hn1] at L1 ⊢;clear k5 a0 a1 hn1 CP1 O1;have a0:=(BC.out.kept N5.out id).q0;have a2:=(BC.out.kept N5.out id).q2;go_wp2_with fail;refine (CP2.out _).mono ?_;rintro e w6 ⟨G2,cc2,rfl,O2,k6⟩;have N6:Hid (New wb w6):=N5.out.new k6;obtain⟨n2,hn2⟩:∃n2,n2=g2.length:=⟨_,rfl⟩
 have X2:Hid (∀u,New w6 u→Txs u G2 n2 g2):=fun u hu=>by rw[hn2];exact O2.txs.new hu
 have X1:Hid (∀u,New w6 u→Txs u G1 n1 g1):=fun u hu=>X1.out u (Kept.new k6 hu)
 rw[←hn2] at L2 ⊢;clear k6 a0 a2 hn2 CP2 O2;obtain⟨b0,b1⟩:=(BT.out.kept N6.out id).p2;have CL:=jH (zat p A2 m c2 es2 G1 n1 c1 g1 w6 (HT.out.new N6.out).in_ LN.out RR.out (X1.out w6 kR) (by have:=L1.out;omega));rw[HLE.out] at CL;go_wp2_with fail;refine CL.out.mono ?_;rintro e w7 ⟨rfl,kk⟩;have N7:Hid (New wb w7):=N6.out.new kk;clear kk CL X1 X2 HLK b0 b1 HLE HLX HE1 HE2 HPE HPT;have BRZ:=jH (BR.out.kept N7.out id);have BAZ:=jH (BA.out.kept N7.out id);have BTZ:=BT.out.kept N7.out id;obtain⟨b0,b1⟩:=BTZ.p2;have HTZ:=jH (HT.out.new N7.out);have LNZ:=LN
 have KWZ:Hid (Kept (zak none) w w7):=(NW.out.new N7.out).mono fun _ _ f=>f.elim
 obtain⟨t0,t1⟩:=BRZ.out.p2;obtain⟨f0,f1⟩:=BRZ.out.f2;obtain⟨r0,r1,r2,r3,r4,r5,r6,r7⟩:=BAZ.out.p8;obtain⟨g0,g1,g2,g3,g4,g5,g6,g7⟩:=BAZ.out.f8;have HLD:Hid (((((((((((w7.setCell ⟨gk+1+1,0,none⟩ (.int .i64 p)).setCell ⟨gk+1+1,1,none⟩ (.slice (A2) m c2)).setCell ⟨gk+1+1+1,0,none⟩ (.int .i64 (lx:Nat))).setCell ⟨gk+1+1+1,1,none⟩ (.int .i64 0)).setCell ⟨gk+1+1+1,2,none⟩ (.int .i64 0)).setCell ⟨gk+1+1+1,3,none⟩ (.int .u8 0)).setCell ⟨gk+1+1+1,4,none⟩ (.int .i64 0)).setCell ⟨gk+1+1+1,5,none⟩ (.int .i64 0)).setCell ⟨gk+1+1+1,6,none⟩ (.slice none 0 0)).setCell ⟨gk+1+1+1,7,none⟩ (.slice none 0 0))=laid w7 (gk+1+1) (gk+1+1+1) p (A2) m c2 (erA lx) none 0 0 none 0 0):=rfl
 have DD:=jH (zag (w:=w) (A0:=none) (a:=erA lx) (p:=p) (c:=c2) (n:=m) (d':=0) (t':=0) (B':=none) (m:=0) (q:=0) (T':=none) BRZ.out BAZ.out (by have:=GK.out;omega) (by have:=GK.out;omega) HTZ.out LNZ.out rfl (OwnB.nil _ _ _) rfl (Txs.nil _ _) (fun _ h=>by cases h) rfl KWZ.out);have DB:=jH (zae (p:=p) (A:=A2) (n:=m) (c:=c2) (a:=erA lx) (d':=0) (t':=0) (B':=none) (m:=0) (q:=0) (T':=none) BRZ.out BAZ.out);clear HTZ KWZ;go_wp2_with fail;rw[HLD.out];generalize laid w7 (gk+1+1) (gk+1+1+1) p (A2) m c2 (erA lx) none 0 0 none 0 0=wf at *;have d0:=DB.out.1.cell 0;have d1:=DB.out.1.cell 1;have d2:=DB.out.2.cell 0
 have d3:=DB.out.2.cell 1;have d4:=DB.out.2.cell 2;have d5:=DB.out.2.cell 3;have d6:=DB.out.2.cell 4;have d7:=DB.out.2.cell 5;have d8:=DB.out.2.cell 6;have d9:=DB.out.2.cell 7;simp at d0 d1 d2 d3 d4 d5 d6 d7 d8 d9
 try simp only[Exit.then]
 rw[←hqq];refine bodyPost_ret (by simp[results,Tryz.results17,go_sem,d0,d1,d2,d3,d4,d5,d6,d7,d8,d9];try rfl) rfl ?_;rw[EM.out];exact DD.out
theorem rdo_lookto4 (p:Nat) (A:Option Addr) (n c:Nat) (es:List NE) (sp st:ByteArray) (av nv:Int) (Ab:Option Addr) (bl bc:Nat) (ab:List Nat) (w:World) (h:TIn w A es) (hn:es.length=n) (hR:Rt ⟨p,nds es⟩) (hs:sp.size≤1048576) (ht:st.size≤1048576) (hab:Bts w Ab bl ab)
  (q j:Nat) (hpe:peB sp=0) (hpt:peB st=0) (hlk:zad (nds es) (pnB sp) 0 1=(q,j,0)) (hlt:(zad (nds es) (pnB st) 0 1).2.2≠0):
  Calls Tryz.prog 17 #[.agg #[.int .i64 p,.slice A n c],.agg #[.int .u8 4,.string sp,.string st,.int .i64 av,.int .i64 nv,.slice Ab bl bc]] w
   (DoP w p w.heap.size none (doF ⟨p,nds es⟩ ⟨4,sp,st,av,nv,ab⟩).1.l (doF ⟨p,nds es⟩ ⟨4,sp,st,av,nv,ab⟩).2):=by
 obtain⟨w1,hw1⟩:∃w1,w1=(((w.alloc (.cells #[.int .i64 p,.slice A n c] 25)).alloc (.cells #[.int .u8 4,.string sp,.string st,.int .i64 av,.int .i64 nv,.slice Ab bl bc] 34)).alloc (.cells #[.int .i64 0,.slice none 0 0] 25)).alloc (.cells #[.int .i64 0,.int .i64 0,.int .i64 0,.int .u8 0,.int .i64 0,.int .i64 0,.slice none 0 0,.slice none 0 0] 41):=⟨_,rfl⟩
 have n1:New w w1:=by rw[hw1];exact (((kR.alloc _).alloc _).alloc _).alloc _
 have BT1:Hid (Blk w1 w.heap.size 25 [.int .i64 p,.slice A n c]):=by rw[hw1];exact (((Blk.made w _ _).alloc _).alloc _).alloc _
 have BC1:Hid (Blk w1 (w.heap.size+1) 34 [.int .u8 4,.string sp,.string st,.int .i64 av,.int .i64 nv,.slice Ab bl bc]):=by
  have:=Blk.made (w.alloc (.cells #[.int .i64 p,.slice A n c] 25)) 34 #[.int .u8 4,.string sp,.string st,.int .i64 av,.int .i64 nv,.slice Ab bl bc]
  rw[World.size_alloc] at this;rw[hw1];exact (this.alloc _).alloc _
 have BR1:Hid (Blk w1 (w.heap.size+1+1) 25 [.int .i64 0,.slice none 0 0]):=by
  have:=Blk.made ((w.alloc (.cells #[.int .i64 p,.slice A n c] 25)).alloc (.cells #[.int .u8 4,.string sp,.string st,.int .i64 av,.int .i64 nv,.slice Ab bl bc] 34)) 25 #[.int .i64 0,.slice none 0 0]
  rw[World.size_alloc,World.size_alloc] at this;rw[hw1];exact this.alloc _
 have BA1:Hid (Blk w1 (w.heap.size+1+1+1) 41 [.int .i64 0,.int .i64 0,.int .i64 0,.int .u8 0,.int .i64 0,.int .i64 0,.slice none 0 0,.slice none 0 0]):=by
  have:=Blk.made (((w.alloc (.cells #[.int .i64 p,.slice A n c] 25)).alloc (.cells #[.int .u8 4,.string sp,.string st,.int .i64 av,.int .i64 nv,.slice Ab bl bc] 34)).alloc (.cells #[.int .i64 0,.slice none 0 0] 25)) 41 #[.int .i64 0,.int .i64 0,.int .i64 0,.int .u8 0,.int .i64 0,.int .i64 0,.slice none 0 0,.slice none 0 0]
  rw[World.size_alloc,World.size_alloc,World.size_alloc] at this;rw[hw1];exact this
 have CC:=jH (zau p A n c es w1 (h.new n1) hn hR);have N1:=jH n1;have HW:=jH hw1;have RR:=jH hR;have HAB:=jH hab;obtain⟨D,hD⟩:∃D,D=doF ⟨p,nds es⟩ ⟨4,sp,st,av,nv,ab⟩:=⟨_,rfl⟩;rw[←hD];have HD:=jH hD;obtain⟨g1,hg1⟩:∃g,g=pN sp.data.toList:=⟨_,rfl⟩
 have e1:pnB sp=g1.map baL:=by rw[hg1];rfl
 have L1:Hid (g1.length≤6):=by rw[hg1];exact zcc _
 have CP1:Hid (∀u,Calls Tryz.prog 35 #[.string sp] u (RetP u g1 0)):=fun u=>by
  have:=zaj sp u hs
  rw[←hg1,show pE sp.data.toList=0 from hpe] at this;exact this
 rw[e1] at hlk;have HLK:=jH hlk;have HE1:=jH e1;have HPE:=jH hpe;clear e1 hg1 hlk hpe hs;obtain⟨g2,hg2⟩:∃g,g=pN st.data.toList:=⟨_,rfl⟩
 have e2:pnB st=g2.map baL:=by rw[hg2];rfl
 have L2:Hid (g2.length≤6):=by rw[hg2];exact zcc _
 have CP2:Hid (∀u,Calls Tryz.prog 35 #[.string st] u (RetP u g2 0)):=fun u=>by
  have:=zaj st u ht
  rw[←hg2,show pE st.data.toList=0 from hpt] at this;exact this
 have HE2:=jH e2;have HPT:=jH hpt;clear e2 hg2 hpt ht;rw[HE2.out] at hlt;have HLT:=jH hlt;clear hlt;clear h n1 hw1 hn hR hab hD;go_enter Tryz.func17,Tryz.ntmps17;generalize hqq:(bodyPost _ _ _:Exit→Act→World→Prop)=QQ
 go_upto_region 1 with fail
 rw[←HW.out];clear HW;obtain⟨gk,hgk⟩:∃gk,gk=w.heap.size:=⟨_,rfl⟩;rw[←hgk] at BT1 BC1 BR1 BA1;have GK:=jH hgk
 have GKS:Hid (∀u:World,New w u→gk≤u.heap.size):=fun u hu=>by rw[hgk];exact hu.size
 obtain⟨a0,a1⟩:=BT1.out.p2;rw[←hgk];clear hgk;go_wp2_with fail;refine CC.out.mono ?_;rintro e w2 ⟨A2,c2,es2,rfl,hL,T2,k2⟩;have hL:nds es2=nds es:=hL;obtain⟨w3,hw3⟩:∃w3,w3=(w2.setCell ⟨gk,0,none⟩ (.int .i64 p)).setCell ⟨gk,1,none⟩ (.slice A2 es2.length c2):=⟨_,rfl⟩;have BE:=BT1.out.kept k2 id;obtain⟨e0,e1⟩:=BE.p2;obtain⟨f0,f1⟩:=BE.f2
 have K3:Kept (·=gk) w2 w3:=by rw[hw3];exact (Kept.set1 _ _ _ _).setCell (p:=⟨gk,1,none⟩) (fun _=>rfl) _
 have BT3:Hid (Blk w3 gk 25 [.int .i64 p,.slice A2 es2.length c2]):=by rw[hw3];exact (BE.put 0 _).put 1 _
 have BC3:=jH ((BC1.out.kept k2 id).kept K3 (by omega));have BR3:=jH ((BR1.out.kept k2 id).kept K3 (by omega));have BA3:=jH ((BA1.out.kept k2 id).kept K3 (by omega));have T3:=jH (TOwn.far (T2.mono N1.out.size) K3 BE.at_ (by decide) (by decide) (by decide))
 have N3:Hid (New w w3):=by
  rw[hw3];exact ((N1.out.new k2).setCell (p:=⟨gk,0,none⟩) (fun hh=>absurd hh (by rw[GK.out];exact Nat.lt_irrefl _)) _).setCell (p:=⟨gk,1,none⟩) (fun hh=>absurd hh (by rw[GK.out];exact Nat.lt_irrefl _)) _
 have HW3:=jH hw3;rw[←hL] at RR HD HLK HLT;clear BT1 BC1 BR1 BA1 CC T2 k2 hw3 BE K3 a0 a1 hL
 go_upto_region 2 with fail
 rw[←HW3.out];clear HW3 e0 e1 f0 f1;have CR:=jH (zao p A2 es2.length c2 es2 w3 T3.out.in_ rfl RR.out);obtain⟨b0,b1⟩:=BT3.out.p2;go_wp2_with fail;refine CR.out.mono ?_;rintro e wb ⟨rfl,k4⟩;have BT:=jH (BT3.out.kept k4 id);have BC:=jH (BC3.out.kept k4 id);have BR:=jH (BR3.out.kept k4 id);have BA:=jH (BA3.out.kept k4 id);have HT:=jH (T3.out.new k4);have NW:=jH (N3.out.new k4);have AB:=jH (HAB.out.new (N3.out.new k4));have HWB:Hid (w.heap.size≤wb.heap.size):=NW.out.size
 have M48:Hid (es2.length≤48):=by have:=RR.out.len;rwa [zab] at this
 clear BT3 BC3 BR3 BA3 T3 N3 k4 b0 b1 CR HAB N1;generalize hm:es2.length=m at *;have LN:=jH hm;clear hm;have NB:Hid (New wb wb):=kR;obtain⟨lq,lj,lx,hlx⟩:∃lq lj lx,zad (nds es2) (g2.map baL) 0 1=(lq,lj,lx):=⟨_,_,_,rfl⟩
 have HLX:Hid (lx≠0):=by have:=HLT.out;rw[hlx] at this;exact this
 have HLE:=jH hlx
 have EM:Hid (D=(⟨p,nds es2⟩,erA lx)):=by
  rw[Hid,HD.out];unfold doF;rw[if_neg (by simp),if_neg (by show ¬peB sp≠0;rw[HPE.out];simp),if_neg (by rintro ⟨hh,h2⟩;exact h2 HPT.out)]
  show (if (zad (nds es2) (pnB sp) 0 1).2.2≠0 then _ else _)=_
  rw[HE1.out,HLK.out,if_neg (by simp),if_pos (by unfold twoK;simp)]
  show (if (zad (nds es2) (pnB st) 0 1).2.2≠0 then _ else _)=_
  rw[HE2.out,hlx,if_pos HLX.out]
 have d3:(((lx:Nat):Int) != 0)=true:=bne_iff_ne.2 (by have:=HLX.out;omega);clear hlx;obtain⟨a0,a1⟩:=(BC.out.kept NB.out id).p2;go_wp2_with fail;refine (CP1.out _).mono ?_;rintro e w5 ⟨G1,c1,rfl,O1,k5⟩;have N5:=jH k5;obtain⟨n1,hn1⟩:∃n1,n1=g1.length:=⟨_,rfl⟩
 have X1:Hid (∀u,New w5 u→Txs u G1 n1 g1):=fun u hu=>by rw[hn1];exact O1.txs.new hu
 rw[←hn1] at L1 ⊢;clear k5 a0 a1 hn1 CP1 O1;have a0:=(BC.out.kept N5.out id).q0;have a2:=(BC.out.kept N5.out id).q2;go_wp2_with fail;refine (CP2.out _).mono ?_;rintro e w6 ⟨G2,cc2,rfl,O2,k6⟩;have N6:Hid (New wb w6):=N5.out.new k6;obtain⟨n2,hn2⟩:∃n2,n2=g2.length:=⟨_,rfl⟩
 have X2:Hid (∀u,New w6 u→Txs u G2 n2 g2):=fun u hu=>by rw[hn2];exact O2.txs.new hu
 have X1:Hid (∀u,New w6 u→Txs u G1 n1 g1):=fun u hu=>X1.out u (Kept.new k6 hu)
 rw[←hn2] at L2 ⊢;clear k6 a0 a2 hn2 CP2 O2;obtain⟨b0,b1⟩:=(BT.out.kept N6.out id).p2;have CL:=jH (zat p A2 m c2 es2 G1 n1 c1 g1 w6 (HT.out.new N6.out).in_ LN.out RR.out (X1.out w6 kR) (by have:=L1.out;omega));rw[HLK.out] at CL;go_wp2_with fail;refine CL.out.mono ?_;rintro e w7 ⟨rfl,kk⟩;have N7:Hid (New wb w7):=N6.out.new kk
 have X2:Hid (∀u,New w7 u→Txs u G2 n2 g2):=fun u hu=>X2.out u (Kept.new kk hu)
 clear kk CL b0 b1;obtain⟨b0,b1⟩:=(BT.out.kept N7.out id).p2;have CL:=jH (zat p A2 m c2 es2 G2 n2 cc2 g2 w7 (HT.out.new N7.out).in_ LN.out RR.out (X2.out w7 kR) (by have:=L2.out;omega));rw[HLE.out] at CL;go_wp2_with fail;refine CL.out.mono ?_;rintro e w8 ⟨rfl,kk⟩;have N8:Hid (New wb w8):=N7.out.new kk;clear kk CL X1 X2 HLK HLT b0 b1 HLE HLX HE1 HE2 HPE HPT;have BRZ:=jH (BR.out.kept N8.out id);have BAZ:=jH (BA.out.kept N8.out id);have BTZ:=BT.out.kept N8.out id;obtain⟨b0,b1⟩:=BTZ.p2;have HTZ:=jH (HT.out.new N8.out);have LNZ:=LN
 have KWZ:Hid (Kept (zak none) w w8):=(NW.out.new N8.out).mono fun _ _ f=>f.elim
 obtain⟨t0,t1⟩:=BRZ.out.p2;obtain⟨f0,f1⟩:=BRZ.out.f2;obtain⟨r0,r1,r2,r3,r4,r5,r6,r7⟩:=BAZ.out.p8;obtain⟨g0,g1,g2,g3,g4,g5,g6,g7⟩:=BAZ.out.f8;have HLD:Hid (((((((((((w8.setCell ⟨gk+1+1,0,none⟩ (.int .i64 p)).setCell ⟨gk+1+1,1,none⟩ (.slice (A2) m c2)).setCell ⟨gk+1+1+1,0,none⟩ (.int .i64 (lx:Nat))).setCell ⟨gk+1+1+1,1,none⟩ (.int .i64 0)).setCell ⟨gk+1+1+1,2,none⟩ (.int .i64 0)).setCell ⟨gk+1+1+1,3,none⟩ (.int .u8 0)).setCell ⟨gk+1+1+1,4,none⟩ (.int .i64 0)).setCell ⟨gk+1+1+1,5,none⟩ (.int .i64 0)).setCell ⟨gk+1+1+1,6,none⟩ (.slice none 0 0)).setCell ⟨gk+1+1+1,7,none⟩ (.slice none 0 0))=laid w8 (gk+1+1) (gk+1+1+1) p (A2) m c2 (erA lx) none 0 0 none 0 0):=rfl
 have DD:=jH (zag (w:=w) (A0:=none) (a:=erA lx) (p:=p) (c:=c2) (n:=m) (d':=0) (t':=0) (B':=none) (m:=0) (q:=0) (T':=none) BRZ.out BAZ.out (by have:=GK.out;omega) (by have:=GK.out;omega) HTZ.out LNZ.out rfl (OwnB.nil _ _ _) rfl (Txs.nil _ _) (fun _ h=>by cases h) rfl KWZ.out);have DB:=jH (zae (p:=p) (A:=A2) (n:=m) (c:=c2) (a:=erA lx) (d':=0) (t':=0) (B':=none) (m:=0) (q:=0) (T':=none) BRZ.out BAZ.out);clear HTZ KWZ;go_wp2_with fail;rw[HLD.out];generalize laid w8 (gk+1+1) (gk+1+1+1) p (A2) m c2 (erA lx) none 0 0 none 0 0=wf at *;have d0:=DB.out.1.cell 0;have d1:=DB.out.1.cell 1;have d2:=DB.out.2.cell 0
 have d3:=DB.out.2.cell 1;have d4:=DB.out.2.cell 2;have d5:=DB.out.2.cell 3;have d6:=DB.out.2.cell 4;have d7:=DB.out.2.cell 5;have d8:=DB.out.2.cell 6;have d9:=DB.out.2.cell 7;simp at d0 d1 d2 d3 d4 d5 d6 d7 d8 d9
 try simp only[Exit.then]
 rw[←hqq];refine bodyPost_ret (by simp[results,Tryz.results17,go_sem,d0,d1,d2,d3,d4,d5,d6,d7,d8,d9];try rfl) rfl ?_;rw[EM.out];exact DD.out
theorem rdo_lookto6 (p:Nat) (A:Option Addr) (n c:Nat) (es:List NE) (sp st:ByteArray) (av nv:Int) (Ab:Option Addr) (bl bc:Nat) (ab:List Nat) (w:World) (h:TIn w A es) (hn:es.length=n) (hR:Rt ⟨p,nds es⟩) (hs:sp.size≤1048576) (ht:st.size≤1048576) (hab:Bts w Ab bl ab)
  (q j:Nat) (hpe:peB sp=0) (hpt:peB st=0) (hlk:zad (nds es) (pnB sp) 0 1=(q,j,0)) (hlt:(zad (nds es) (pnB st) 0 1).2.2≠0):
  Calls Tryz.prog 17 #[.agg #[.int .i64 p,.slice A n c],.agg #[.int .u8 6,.string sp,.string st,.int .i64 av,.int .i64 nv,.slice Ab bl bc]] w
   (DoP w p w.heap.size none (doF ⟨p,nds es⟩ ⟨6,sp,st,av,nv,ab⟩).1.l (doF ⟨p,nds es⟩ ⟨6,sp,st,av,nv,ab⟩).2):=by
 obtain⟨w1,hw1⟩:∃w1,w1=(((w.alloc (.cells #[.int .i64 p,.slice A n c] 25)).alloc (.cells #[.int .u8 6,.string sp,.string st,.int .i64 av,.int .i64 nv,.slice Ab bl bc] 34)).alloc (.cells #[.int .i64 0,.slice none 0 0] 25)).alloc (.cells #[.int .i64 0,.int .i64 0,.int .i64 0,.int .u8 0,.int .i64 0,.int .i64 0,.slice none 0 0,.slice none 0 0] 41):=⟨_,rfl⟩
 have n1:New w w1:=by rw[hw1];exact (((kR.alloc _).alloc _).alloc _).alloc _
 have BT1:Hid (Blk w1 w.heap.size 25 [.int .i64 p,.slice A n c]):=by rw[hw1];exact (((Blk.made w _ _).alloc _).alloc _).alloc _
 have BC1:Hid (Blk w1 (w.heap.size+1) 34 [.int .u8 6,.string sp,.string st,.int .i64 av,.int .i64 nv,.slice Ab bl bc]):=by
  have:=Blk.made (w.alloc (.cells #[.int .i64 p,.slice A n c] 25)) 34 #[.int .u8 6,.string sp,.string st,.int .i64 av,.int .i64 nv,.slice Ab bl bc]
  rw[World.size_alloc] at this;rw[hw1];exact (this.alloc _).alloc _
 have BR1:Hid (Blk w1 (w.heap.size+1+1) 25 [.int .i64 0,.slice none 0 0]):=by
  have:=Blk.made ((w.alloc (.cells #[.int .i64 p,.slice A n c] 25)).alloc (.cells #[.int .u8 6,.string sp,.string st,.int .i64 av,.int .i64 nv,.slice Ab bl bc] 34)) 25 #[.int .i64 0,.slice none 0 0]
  rw[World.size_alloc,World.size_alloc] at this;rw[hw1];exact this.alloc _
 have BA1:Hid (Blk w1 (w.heap.size+1+1+1) 41 [.int .i64 0,.int .i64 0,.int .i64 0,.int .u8 0,.int .i64 0,.int .i64 0,.slice none 0 0,.slice none 0 0]):=by
  have:=Blk.made (((w.alloc (.cells #[.int .i64 p,.slice A n c] 25)).alloc (.cells #[.int .u8 6,.string sp,.string st,.int .i64 av,.int .i64 nv,.slice Ab bl bc] 34)).alloc (.cells #[.int .i64 0,.slice none 0 0] 25)) 41 #[.int .i64 0,.int .i64 0,.int .i64 0,.int .u8 0,.int .i64 0,.int .i64 0,.slice none 0 0,.slice none 0 0]
  rw[World.size_alloc,World.size_alloc,World.size_alloc] at this;rw[hw1];exact this
 have CC:=jH (zau p A n c es w1 (h.new n1) hn hR);have N1:=jH n1;have HW:=jH hw1;have RR:=jH hR;have HAB:=jH hab;obtain⟨D,hD⟩:∃D,D=doF ⟨p,nds es⟩ ⟨6,sp,st,av,nv,ab⟩:=⟨_,rfl⟩;rw[←hD];have HD:=jH hD;obtain⟨g1,hg1⟩:∃g,g=pN sp.data.toList:=⟨_,rfl⟩
 have e1:pnB sp=g1.map baL:=by rw[hg1];rfl
 have L1:Hid (g1.length≤6):=by rw[hg1];exact zcc _
 have CP1:Hid (∀u,Calls Tryz.prog 35 #[.string sp] u (RetP u g1 0)):=fun u=>by
  have:=zaj sp u hs
  rw[←hg1,show pE sp.data.toList=0 from hpe] at this;exact this
 rw[e1] at hlk;have HLK:=jH hlk;have HE1:=jH e1;have HPE:=jH hpe;clear e1 hg1 hlk hpe hs;obtain⟨g2,hg2⟩:∃g,g=pN st.data.toList:=⟨_,rfl⟩
 have e2:pnB st=g2.map baL:=by rw[hg2];rfl
 have L2:Hid (g2.length≤6):=by rw[hg2];exact zcc _
 have CP2:Hid (∀u,Calls Tryz.prog 35 #[.string st] u (RetP u g2 0)):=fun u=>by
  have:=zaj st u ht
  rw[←hg2,show pE st.data.toList=0 from hpt] at this;exact this
 have HE2:=jH e2;have HPT:=jH hpt;clear e2 hg2 hpt ht;rw[HE2.out] at hlt;have HLT:=jH hlt;clear hlt;clear h n1 hw1 hn hR hab hD;go_enter Tryz.func17,Tryz.ntmps17;generalize hqq:(bodyPost _ _ _:Exit→Act→World→Prop)=QQ
 go_upto_region 1 with fail
 rw[←HW.out];clear HW;obtain⟨gk,hgk⟩:∃gk,gk=w.heap.size:=⟨_,rfl⟩;rw[←hgk] at BT1 BC1 BR1 BA1;have GK:=jH hgk
 have GKS:Hid (∀u:World,New w u→gk≤u.heap.size):=fun u hu=>by rw[hgk];exact hu.size
 obtain⟨a0,a1⟩:=BT1.out.p2;rw[←hgk];clear hgk;go_wp2_with fail;refine CC.out.mono ?_;rintro e w2 ⟨A2,c2,es2,rfl,hL,T2,k2⟩;have hL:nds es2=nds es:=hL;obtain⟨w3,hw3⟩:∃w3,w3=(w2.setCell ⟨gk,0,none⟩ (.int .i64 p)).setCell ⟨gk,1,none⟩ (.slice A2 es2.length c2):=⟨_,rfl⟩;have BE:=BT1.out.kept k2 id;obtain⟨e0,e1⟩:=BE.p2;obtain⟨f0,f1⟩:=BE.f2
 have K3:Kept (·=gk) w2 w3:=by rw[hw3];exact (Kept.set1 _ _ _ _).setCell (p:=⟨gk,1,none⟩) (fun _=>rfl) _
 have BT3:Hid (Blk w3 gk 25 [.int .i64 p,.slice A2 es2.length c2]):=by rw[hw3];exact (BE.put 0 _).put 1 _
 have BC3:=jH ((BC1.out.kept k2 id).kept K3 (by omega));have BR3:=jH ((BR1.out.kept k2 id).kept K3 (by omega));have BA3:=jH ((BA1.out.kept k2 id).kept K3 (by omega));have T3:=jH (TOwn.far (T2.mono N1.out.size) K3 BE.at_ (by decide) (by decide) (by decide))
 have N3:Hid (New w w3):=by
  rw[hw3];exact ((N1.out.new k2).setCell (p:=⟨gk,0,none⟩) (fun hh=>absurd hh (by rw[GK.out];exact Nat.lt_irrefl _)) _).setCell (p:=⟨gk,1,none⟩) (fun hh=>absurd hh (by rw[GK.out];exact Nat.lt_irrefl _)) _
 have HW3:=jH hw3;rw[←hL] at RR HD HLK HLT;clear BT1 BC1 BR1 BA1 CC T2 k2 hw3 BE K3 a0 a1 hL
 go_upto_region 2 with fail
 rw[←HW3.out];clear HW3 e0 e1 f0 f1;have CR:=jH (zao p A2 es2.length c2 es2 w3 T3.out.in_ rfl RR.out);obtain⟨b0,b1⟩:=BT3.out.p2;go_wp2_with fail;refine CR.out.mono ?_;rintro e wb ⟨rfl,k4⟩;have BT:=jH (BT3.out.kept k4 id);have BC:=jH (BC3.out.kept k4 id);have BR:=jH (BR3.out.kept k4 id);have BA:=jH (BA3.out.kept k4 id);have HT:=jH (T3.out.new k4);have NW:=jH (N3.out.new k4);have AB:=jH (HAB.out.new (N3.out.new k4));have HWB:Hid (w.heap.size≤wb.heap.size):=NW.out.size
 have M48:Hid (es2.length≤48):=by have:=RR.out.len;rwa [zab] at this
 clear BT3 BC3 BR3 BA3 T3 N3 k4 b0 b1 CR HAB N1;generalize hm:es2.length=m at *;have LN:=jH hm;clear hm;have NB:Hid (New wb wb):=kR;obtain⟨lq,lj,lx,hlx⟩:∃lq lj lx,zad (nds es2) (g2.map baL) 0 1=(lq,lj,lx):=⟨_,_,_,rfl⟩
 have HLX:Hid (lx≠0):=by have:=HLT.out;rw[hlx] at this;exact this
 have HLE:=jH hlx
 have EM:Hid (D=(⟨p,nds es2⟩,erA lx)):=by
  rw[Hid,HD.out];unfold doF;rw[if_neg (by simp),if_neg (by show ¬peB sp≠0;rw[HPE.out];simp),if_neg (by rintro ⟨hh,h2⟩;exact h2 HPT.out)]
  show (if (zad (nds es2) (pnB sp) 0 1).2.2≠0 then _ else _)=_
  rw[HE1.out,HLK.out,if_neg (by simp),if_pos (by unfold twoK;simp)]
  show (if (zad (nds es2) (pnB st) 0 1).2.2≠0 then _ else _)=_
  rw[HE2.out,hlx,if_pos HLX.out]
 have d3:(((lx:Nat):Int) != 0)=true:=bne_iff_ne.2 (by have:=HLX.out;omega);clear hlx;obtain⟨a0,a1⟩:=(BC.out.kept NB.out id).p2;go_wp2_with fail;refine (CP1.out _).mono ?_;rintro e w5 ⟨G1,c1,rfl,O1,k5⟩;have N5:=jH k5;obtain⟨n1,hn1⟩:∃n1,n1=g1.length:=⟨_,rfl⟩
 have X1:Hid (∀u,New w5 u→Txs u G1 n1 g1):=fun u hu=>by rw[hn1];exact O1.txs.new hu
 rw[←hn1] at L1 ⊢;clear k5 a0 a1 hn1 CP1 O1;have a0:=(BC.out.kept N5.out id).q0;have a2:=(BC.out.kept N5.out id).q2;go_wp2_with fail;refine (CP2.out _).mono ?_;rintro e w6 ⟨G2,cc2,rfl,O2,k6⟩;have N6:Hid (New wb w6):=N5.out.new k6;obtain⟨n2,hn2⟩:∃n2,n2=g2.length:=⟨_,rfl⟩
 have X2:Hid (∀u,New w6 u→Txs u G2 n2 g2):=fun u hu=>by rw[hn2];exact O2.txs.new hu
 have X1:Hid (∀u,New w6 u→Txs u G1 n1 g1):=fun u hu=>X1.out u (Kept.new k6 hu)
 rw[←hn2] at L2 ⊢;clear k6 a0 a2 hn2 CP2 O2;obtain⟨b0,b1⟩:=(BT.out.kept N6.out id).p2;have CL:=jH (zat p A2 m c2 es2 G1 n1 c1 g1 w6 (HT.out.new N6.out).in_ LN.out RR.out (X1.out w6 kR) (by have:=L1.out;omega));rw[HLK.out] at CL;go_wp2_with fail;refine CL.out.mono ?_;rintro e w7 ⟨rfl,kk⟩;have N7:Hid (New wb w7):=N6.out.new kk
 have X2:Hid (∀u,New w7 u→Txs u G2 n2 g2):=fun u hu=>X2.out u (Kept.new kk hu)
 clear kk CL b0 b1;obtain⟨b0,b1⟩:=(BT.out.kept N7.out id).p2;have CL:=jH (zat p A2 m c2 es2 G2 n2 cc2 g2 w7 (HT.out.new N7.out).in_ LN.out RR.out (X2.out w7 kR) (by have:=L2.out;omega));rw[HLE.out] at CL;go_wp2_with fail;refine CL.out.mono ?_;rintro e w8 ⟨rfl,kk⟩;have N8:Hid (New wb w8):=N7.out.new kk;clear kk CL X1 X2 HLK HLT b0 b1 HLE HLX HE1 HE2 HPE HPT;have BRZ:=jH (BR.out.kept N8.out id);have BAZ:=jH (BA.out.kept N8.out id);have BTZ:=BT.out.kept N8.out id;obtain⟨b0,b1⟩:=BTZ.p2;have HTZ:=jH (HT.out.new N8.out);have LNZ:=LN
 have KWZ:Hid (Kept (zak none) w w8):=(NW.out.new N8.out).mono fun _ _ f=>f.elim
 obtain⟨t0,t1⟩:=BRZ.out.p2;obtain⟨f0,f1⟩:=BRZ.out.f2;obtain⟨r0,r1,r2,r3,r4,r5,r6,r7⟩:=BAZ.out.p8;obtain⟨g0,g1,g2,g3,g4,g5,g6,g7⟩:=BAZ.out.f8;have HLD:Hid (((((((((((w8.setCell ⟨gk+1+1,0,none⟩ (.int .i64 p)).setCell ⟨gk+1+1,1,none⟩ (.slice (A2) m c2)).setCell ⟨gk+1+1+1,0,none⟩ (.int .i64 (lx:Nat))).setCell ⟨gk+1+1+1,1,none⟩ (.int .i64 0)).setCell ⟨gk+1+1+1,2,none⟩ (.int .i64 0)).setCell ⟨gk+1+1+1,3,none⟩ (.int .u8 0)).setCell ⟨gk+1+1+1,4,none⟩ (.int .i64 0)).setCell ⟨gk+1+1+1,5,none⟩ (.int .i64 0)).setCell ⟨gk+1+1+1,6,none⟩ (.slice none 0 0)).setCell ⟨gk+1+1+1,7,none⟩ (.slice none 0 0))=laid w8 (gk+1+1) (gk+1+1+1) p (A2) m c2 (erA lx) none 0 0 none 0 0):=rfl
 have DD:=jH (zag (w:=w) (A0:=none) (a:=erA lx) (p:=p) (c:=c2) (n:=m) (d':=0) (t':=0) (B':=none) (m:=0) (q:=0) (T':=none) BRZ.out BAZ.out (by have:=GK.out;omega) (by have:=GK.out;omega) HTZ.out LNZ.out rfl (OwnB.nil _ _ _) rfl (Txs.nil _ _) (fun _ h=>by cases h) rfl KWZ.out);have DB:=jH (zae (p:=p) (A:=A2) (n:=m) (c:=c2) (a:=erA lx) (d':=0) (t':=0) (B':=none) (m:=0) (q:=0) (T':=none) BRZ.out BAZ.out);clear HTZ KWZ;go_wp2_with fail;rw[HLD.out];generalize laid w8 (gk+1+1) (gk+1+1+1) p (A2) m c2 (erA lx) none 0 0 none 0 0=wf at *;have d0:=DB.out.1.cell 0;have d1:=DB.out.1.cell 1;have d2:=DB.out.2.cell 0
 have d3:=DB.out.2.cell 1;have d4:=DB.out.2.cell 2;have d5:=DB.out.2.cell 3;have d6:=DB.out.2.cell 4;have d7:=DB.out.2.cell 5;have d8:=DB.out.2.cell 6;have d9:=DB.out.2.cell 7;simp at d0 d1 d2 d3 d4 d5 d6 d7 d8 d9
 try simp only[Exit.then]
 rw[←hqq];refine bodyPost_ret (by simp[results,Tryz.results17,go_sem,d0,d1,d2,d3,d4,d5,d6,d7,d8,d9];try rfl) rfl ?_;rw[EM.out];exact DD.out
end
end Go.Proofs.YtjjamoemheljdaaGreat
