/-
  Layer 7: contracts (Qk Qm).
-/
import Derived.Test.YtjjamoemheljdaaGreatC44
namespace Go.Proofs.YtjjamoemheljdaaGreat
set_option maxRecDepth 100000
set_option maxHeartbeats 8000000
set_option linter.unusedSimpArgs false
set_option linter.unusedVariables false
section
open Go.RowKit
theorem rdo_kind (p:Nat) (A:Option Addr) (n c:Nat) (es:List NE) (sp st:ByteArray) (av nv:Int) (Ab:Option Addr) (bl bc:Nat) (ab:List Nat) (w:World) (h:TIn w A es) (hn:es.length=n) (hR:Rt ⟨p,nds es⟩) (_hs:sp.size≤1048576) (_ht:st.size≤1048576) (hab:Bts w Ab bl ab)
  (k:Nat) (hk:k=0∨11 < k∧k < 256):
  Calls Tryz.prog 17 #[.agg #[.int .i64 p,.slice A n c],.agg #[.int .u8 k,.string sp,.string st,.int .i64 av,.int .i64 nv,.slice Ab bl bc]] w
   (DoP w p w.heap.size none (doF ⟨p,nds es⟩ ⟨k,sp,st,av,nv,ab⟩).1.l (doF ⟨p,nds es⟩ ⟨k,sp,st,av,nv,ab⟩).2):=by
 obtain⟨w1,hw1⟩:∃w1,w1=(((w.alloc (.cells #[.int .i64 p,.slice A n c] 25)).alloc (.cells #[.int .u8 k,.string sp,.string st,.int .i64 av,.int .i64 nv,.slice Ab bl bc] 34)).alloc (.cells #[.int .i64 0,.slice none 0 0] 25)).alloc (.cells #[.int .i64 0,.int .i64 0,.int .i64 0,.int .u8 0,.int .i64 0,.int .i64 0,.slice none 0 0,.slice none 0 0] 41):=⟨_,rfl⟩
 have n1:New w w1:=by rw[hw1];exact (((kR.alloc _).alloc _).alloc _).alloc _
 have BT1:Hid (Blk w1 w.heap.size 25 [.int .i64 p,.slice A n c]):=by rw[hw1];exact (((Blk.made w _ _).alloc _).alloc _).alloc _
 have BC1:Hid (Blk w1 (w.heap.size+1) 34 [.int .u8 k,.string sp,.string st,.int .i64 av,.int .i64 nv,.slice Ab bl bc]):=by
  have:=Blk.made (w.alloc (.cells #[.int .i64 p,.slice A n c] 25)) 34 #[.int .u8 k,.string sp,.string st,.int .i64 av,.int .i64 nv,.slice Ab bl bc]
  rw[World.size_alloc] at this;rw[hw1];exact (this.alloc _).alloc _
 have BR1:Hid (Blk w1 (w.heap.size+1+1) 25 [.int .i64 0,.slice none 0 0]):=by
  have:=Blk.made ((w.alloc (.cells #[.int .i64 p,.slice A n c] 25)).alloc (.cells #[.int .u8 k,.string sp,.string st,.int .i64 av,.int .i64 nv,.slice Ab bl bc] 34)) 25 #[.int .i64 0,.slice none 0 0]
  rw[World.size_alloc,World.size_alloc] at this;rw[hw1];exact this.alloc _
 have BA1:Hid (Blk w1 (w.heap.size+1+1+1) 41 [.int .i64 0,.int .i64 0,.int .i64 0,.int .u8 0,.int .i64 0,.int .i64 0,.slice none 0 0,.slice none 0 0]):=by
  have:=Blk.made (((w.alloc (.cells #[.int .i64 p,.slice A n c] 25)).alloc (.cells #[.int .u8 k,.string sp,.string st,.int .i64 av,.int .i64 nv,.slice Ab bl bc] 34)).alloc (.cells #[.int .i64 0,.slice none 0 0] 25)) 41 #[.int .i64 0,.int .i64 0,.int .i64 0,.int .u8 0,.int .i64 0,.int .i64 0,.slice none 0 0,.slice none 0 0]
  rw[World.size_alloc,World.size_alloc,World.size_alloc] at this;rw[hw1];exact this
 have CC:=jH (zau p A n c es w1 (h.new n1) hn hR);have N1:=jH n1;have HW:=jH hw1;have RR:=jH hR;have HAB:=jH hab;obtain⟨D,hD⟩:∃D,D=doF ⟨p,nds es⟩ ⟨k,sp,st,av,nv,ab⟩:=⟨_,rfl⟩;rw[←hD];have HD:=jH hD;clear h n1 hw1 hn hR hab hD;go_enter Tryz.func17,Tryz.ntmps17;generalize hqq:(bodyPost _ _ _:Exit→Act→World→Prop)=QQ
 go_upto_region 1 with fail
 rw[←HW.out];clear HW;obtain⟨gk,hgk⟩:∃gk,gk=w.heap.size:=⟨_,rfl⟩;rw[←hgk] at BT1 BC1 BR1 BA1;have GK:=jH hgk
 have GKS:Hid (∀u:World,New w u→gk≤u.heap.size):=fun u hu=>by rw[hgk];exact hu.size
 obtain⟨a0,a1⟩:=BT1.out.p2;rw[←hgk];clear hgk;go_wp2_with fail;refine CC.out.mono ?_;rintro e w2 ⟨A2,c2,es2,rfl,hL,T2,k2⟩;have hL:nds es2=nds es:=hL;obtain⟨w3,hw3⟩:∃w3,w3=(w2.setCell ⟨gk,0,none⟩ (.int .i64 p)).setCell ⟨gk,1,none⟩ (.slice A2 es2.length c2):=⟨_,rfl⟩;have BE:=BT1.out.kept k2 id;obtain⟨e0,e1⟩:=BE.p2;obtain⟨f0,f1⟩:=BE.f2
 have K3:Kept (·=gk) w2 w3:=by rw[hw3];exact (Kept.set1 _ _ _ _).setCell (p:=⟨gk,1,none⟩) (fun _=>rfl) _
 have BT3:Hid (Blk w3 gk 25 [.int .i64 p,.slice A2 es2.length c2]):=by rw[hw3];exact (BE.put 0 _).put 1 _
 have BC3:=jH ((BC1.out.kept k2 id).kept K3 (by omega));have BR3:=jH ((BR1.out.kept k2 id).kept K3 (by omega));have BA3:=jH ((BA1.out.kept k2 id).kept K3 (by omega));have T3:=jH (TOwn.far (T2.mono N1.out.size) K3 BE.at_ (by decide) (by decide) (by decide))
 have N3:Hid (New w w3):=by
  rw[hw3];exact ((N1.out.new k2).setCell (p:=⟨gk,0,none⟩) (fun hh=>absurd hh (by rw[GK.out];exact Nat.lt_irrefl _)) _).setCell (p:=⟨gk,1,none⟩) (fun hh=>absurd hh (by rw[GK.out];exact Nat.lt_irrefl _)) _
 have HW3:=jH hw3;rw[←hL] at RR HD;clear BT1 BC1 BR1 BA1 CC T2 k2 hw3 BE K3 a0 a1 hL
 go_upto_region 2 with fail
 rw[←HW3.out];clear HW3 e0 e1 f0 f1;have CR:=jH (zao p A2 es2.length c2 es2 w3 T3.out.in_ rfl RR.out);obtain⟨b0,b1⟩:=BT3.out.p2;go_wp2_with fail;refine CR.out.mono ?_;rintro e wb ⟨rfl,k4⟩;have BT:=jH (BT3.out.kept k4 id);have BC:=jH (BC3.out.kept k4 id);have BR:=jH (BR3.out.kept k4 id);have BA:=jH (BA3.out.kept k4 id);have HT:=jH (T3.out.new k4);have NW:=jH (N3.out.new k4);have AB:=jH (HAB.out.new (N3.out.new k4));have HWB:Hid (w.heap.size≤wb.heap.size):=NW.out.size
 have M48:Hid (es2.length≤48):=by have:=RR.out.len;rwa [zab] at this
 clear BT3 BC3 BR3 BA3 T3 N3 k4 b0 b1 CR HAB N1;generalize hm:es2.length=m at *;have LN:=jH hm;clear hm;have NB:Hid (New wb wb):=kR
 have EM:Hid (D=(⟨p,nds es2⟩,erA 2)):=by
  rw[Hid,HD.out];unfold doF;rw[if_pos (by show k=0∨11 < k;omega)]
 have a0:=BC.out.q0
 rcases hk with hk|⟨hk,hk2⟩
 ·have d1:decide (((k:Nat):Int) < 1)=true:=decide_eq_true (by omega);have BRZ:=jH (BR.out.kept NB.out id);have BAZ:=jH (BA.out.kept NB.out id);have BTZ:=BT.out.kept NB.out id;obtain⟨b0,b1⟩:=BTZ.p2;have HTZ:=jH (HT.out.new NB.out);have LNZ:=LN
  have KWZ:Hid (Kept (zak none) w wb):=(NW.out.new NB.out).mono fun _ _ f=>f.elim
  obtain⟨t0,t1⟩:=BRZ.out.p2;obtain⟨f0,f1⟩:=BRZ.out.f2;obtain⟨r0,r1,r2,r3,r4,r5,r6,r7⟩:=BAZ.out.p8;obtain⟨g0,g1,g2,g3,g4,g5,g6,g7⟩:=BAZ.out.f8;have HLD:Hid (((((((((((wb.setCell ⟨gk+1+1,0,none⟩ (.int .i64 p)).setCell ⟨gk+1+1,1,none⟩ (.slice (A2) m c2)).setCell ⟨gk+1+1+1,0,none⟩ (.int .i64 2)).setCell ⟨gk+1+1+1,1,none⟩ (.int .i64 0)).setCell ⟨gk+1+1+1,2,none⟩ (.int .i64 0)).setCell ⟨gk+1+1+1,3,none⟩ (.int .u8 0)).setCell ⟨gk+1+1+1,4,none⟩ (.int .i64 0)).setCell ⟨gk+1+1+1,5,none⟩ (.int .i64 0)).setCell ⟨gk+1+1+1,6,none⟩ (.slice none 0 0)).setCell ⟨gk+1+1+1,7,none⟩ (.slice none 0 0))=laid wb (gk+1+1) (gk+1+1+1) p (A2) m c2 (erA 2) none 0 0 none 0 0):=rfl
  have DD:=jH (zag (w:=w) (A0:=none) (a:=erA 2) (p:=p) (c:=c2) (n:=m) (d':=0) (t':=0) (B':=none) (m:=0) (q:=0) (T':=none) BRZ.out BAZ.out (by have:=GK.out;omega) (by have:=GK.out;omega) HTZ.out LNZ.out rfl (OwnB.nil _ _ _) rfl (Txs.nil _ _) (fun _ h=>by cases h) rfl KWZ.out);have DB:=jH (zae (p:=p) (A:=A2) (n:=m) (c:=c2) (a:=erA 2) (d':=0) (t':=0) (B':=none) (m:=0) (q:=0) (T':=none) BRZ.out BAZ.out);clear HTZ KWZ;go_wp2_with fail;rw[HLD.out];generalize laid wb (gk+1+1) (gk+1+1+1) p (A2) m c2 (erA 2) none 0 0 none 0 0=wf at *;have d0:=DB.out.1.cell 0;have d1:=DB.out.1.cell 1;have d2:=DB.out.2.cell 0
  have d3:=DB.out.2.cell 1;have d4:=DB.out.2.cell 2;have d5:=DB.out.2.cell 3;have d6:=DB.out.2.cell 4;have d7:=DB.out.2.cell 5;have d8:=DB.out.2.cell 6;have d9:=DB.out.2.cell 7;simp at d0 d1 d2 d3 d4 d5 d6 d7 d8 d9
  try simp only[Exit.then]
  rw[←hqq];refine bodyPost_ret (by simp[results,Tryz.results17,go_sem,d0,d1,d2,d3,d4,d5,d6,d7,d8,d9];try rfl) rfl ?_;rw[EM.out];exact DD.out
 ·have d1:decide (((k:Nat):Int) < 1)=false:=decide_eq_false (by omega);have d2:decide (11 < ((k:Nat):Int))=true:=decide_eq_true (by omega);have BRZ:=jH (BR.out.kept NB.out id);have BAZ:=jH (BA.out.kept NB.out id);have BTZ:=BT.out.kept NB.out id;obtain⟨b0,b1⟩:=BTZ.p2;have HTZ:=jH (HT.out.new NB.out);have LNZ:=LN
  have KWZ:Hid (Kept (zak none) w wb):=(NW.out.new NB.out).mono fun _ _ f=>f.elim
  obtain⟨t0,t1⟩:=BRZ.out.p2;obtain⟨f0,f1⟩:=BRZ.out.f2;obtain⟨r0,r1,r2,r3,r4,r5,r6,r7⟩:=BAZ.out.p8;obtain⟨g0,g1,g2,g3,g4,g5,g6,g7⟩:=BAZ.out.f8;have HLD:Hid (((((((((((wb.setCell ⟨gk+1+1,0,none⟩ (.int .i64 p)).setCell ⟨gk+1+1,1,none⟩ (.slice (A2) m c2)).setCell ⟨gk+1+1+1,0,none⟩ (.int .i64 2)).setCell ⟨gk+1+1+1,1,none⟩ (.int .i64 0)).setCell ⟨gk+1+1+1,2,none⟩ (.int .i64 0)).setCell ⟨gk+1+1+1,3,none⟩ (.int .u8 0)).setCell ⟨gk+1+1+1,4,none⟩ (.int .i64 0)).setCell ⟨gk+1+1+1,5,none⟩ (.int .i64 0)).setCell ⟨gk+1+1+1,6,none⟩ (.slice none 0 0)).setCell ⟨gk+1+1+1,7,none⟩ (.slice none 0 0))=laid wb (gk+1+1) (gk+1+1+1) p (A2) m c2 (erA 2) none 0 0 none 0 0):=rfl
  have DD:=jH (zag (w:=w) (A0:=none) (a:=erA 2) (p:=p) (c:=c2) (n:=m) (d':=0) (t':=0) (B':=none) (m:=0) (q:=0) (T':=none) BRZ.out BAZ.out (by have:=GK.out;omega) (by have:=GK.out;omega) HTZ.out LNZ.out rfl (OwnB.nil _ _ _) rfl (Txs.nil _ _) (fun _ h=>by cases h) rfl KWZ.out);have DB:=jH (zae (p:=p) (A:=A2) (n:=m) (c:=c2) (a:=erA 2) (d':=0) (t':=0) (B':=none) (m:=0) (q:=0) (T':=none) BRZ.out BAZ.out);clear HTZ KWZ;go_wp2_with fail;rw[HLD.out];generalize laid wb (gk+1+1) (gk+1+1+1) p (A2) m c2 (erA 2) none 0 0 none 0 0=wf at *;have d0:=DB.out.1.cell 0;have d1:=DB.out.1.cell 1;have d2:=DB.out.2.cell 0
  have d3:=DB.out.2.cell 1;have d4:=DB.out.2.cell 2;have d5:=DB.out.2.cell 3;have d6:=DB.out.2.cell 4;have d7:=DB.out.2.cell 5;have d8:=DB.out.2.cell 6;have d9:=DB.out.2.cell 7;simp at d0 d1 d2 d3 d4 d5 d6 d7 d8 d9
  try simp only[Exit.then]
  rw[←hqq];refine bodyPost_ret (by simp[results,Tryz.results17,go_sem,d0,d1,d2,d3,d4,d5,d6,d7,d8,d9];try rfl) rfl ?_;rw[EM.out];exact DD.out
theorem rdo_path (p:Nat) (A:Option Addr) (n c:Nat) (es:List NE) (sp st:ByteArray) (av nv:Int) (Ab:Option Addr) (bl bc:Nat) (ab:List Nat) (w:World) (h:TIn w A es) (hn:es.length=n) (hR:Rt ⟨p,nds es⟩) (hs:sp.size≤1048576) (_ht:st.size≤1048576) (hab:Bts w Ab bl ab)
  (k:Nat) (hk:1≤k∧k≤11) (hpe:peB sp≠0):
  Calls Tryz.prog 17 #[.agg #[.int .i64 p,.slice A n c],.agg #[.int .u8 k,.string sp,.string st,.int .i64 av,.int .i64 nv,.slice Ab bl bc]] w
   (DoP w p w.heap.size none (doF ⟨p,nds es⟩ ⟨k,sp,st,av,nv,ab⟩).1.l (doF ⟨p,nds es⟩ ⟨k,sp,st,av,nv,ab⟩).2):=by
 obtain⟨w1,hw1⟩:∃w1,w1=(((w.alloc (.cells #[.int .i64 p,.slice A n c] 25)).alloc (.cells #[.int .u8 k,.string sp,.string st,.int .i64 av,.int .i64 nv,.slice Ab bl bc] 34)).alloc (.cells #[.int .i64 0,.slice none 0 0] 25)).alloc (.cells #[.int .i64 0,.int .i64 0,.int .i64 0,.int .u8 0,.int .i64 0,.int .i64 0,.slice none 0 0,.slice none 0 0] 41):=⟨_,rfl⟩
 have n1:New w w1:=by rw[hw1];exact (((kR.alloc _).alloc _).alloc _).alloc _
 have BT1:Hid (Blk w1 w.heap.size 25 [.int .i64 p,.slice A n c]):=by rw[hw1];exact (((Blk.made w _ _).alloc _).alloc _).alloc _
 have BC1:Hid (Blk w1 (w.heap.size+1) 34 [.int .u8 k,.string sp,.string st,.int .i64 av,.int .i64 nv,.slice Ab bl bc]):=by
  have:=Blk.made (w.alloc (.cells #[.int .i64 p,.slice A n c] 25)) 34 #[.int .u8 k,.string sp,.string st,.int .i64 av,.int .i64 nv,.slice Ab bl bc]
  rw[World.size_alloc] at this;rw[hw1];exact (this.alloc _).alloc _
 have BR1:Hid (Blk w1 (w.heap.size+1+1) 25 [.int .i64 0,.slice none 0 0]):=by
  have:=Blk.made ((w.alloc (.cells #[.int .i64 p,.slice A n c] 25)).alloc (.cells #[.int .u8 k,.string sp,.string st,.int .i64 av,.int .i64 nv,.slice Ab bl bc] 34)) 25 #[.int .i64 0,.slice none 0 0]
  rw[World.size_alloc,World.size_alloc] at this;rw[hw1];exact this.alloc _
 have BA1:Hid (Blk w1 (w.heap.size+1+1+1) 41 [.int .i64 0,.int .i64 0,.int .i64 0,.int .u8 0,.int .i64 0,.int .i64 0,.slice none 0 0,.slice none 0 0]):=by
  have:=Blk.made (((w.alloc (.cells #[.int .i64 p,.slice A n c] 25)).alloc (.cells #[.int .u8 k,.string sp,.string st,.int .i64 av,.int .i64 nv,.slice Ab bl bc] 34)).alloc (.cells #[.int .i64 0,.slice none 0 0] 25)) 41 #[.int .i64 0,.int .i64 0,.int .i64 0,.int .u8 0,.int .i64 0,.int .i64 0,.slice none 0 0,.slice none 0 0]
  rw[World.size_alloc,World.size_alloc,World.size_alloc] at this;rw[hw1];exact this
 have CC:=jH (zau p A n c es w1 (h.new n1) hn hR);have N1:=jH n1;have HW:=jH hw1;have RR:=jH hR;have HAB:=jH hab;obtain⟨D,hD⟩:∃D,D=doF ⟨p,nds es⟩ ⟨k,sp,st,av,nv,ab⟩:=⟨_,rfl⟩;rw[←hD];have HD:=jH hD;obtain⟨g1,hg1⟩:∃g,g=pN sp.data.toList:=⟨_,rfl⟩
 have e1:pnB sp=g1.map baL:=by rw[hg1];rfl
 obtain⟨x1,hx1⟩:∃x,x=peB sp:=⟨_,rfl⟩
 have CP1:Hid (∀u,Calls Tryz.prog 35 #[.string sp] u (RetP u g1 x1)):=fun u=>by
  have:=zaj sp u hs
  rw[←hg1] at this;rw[hx1];exact this
 have HP:=jH hpe;rw[←hx1] at HP;have HX:=jH hx1;clear hpe hs e1 hg1 hx1;clear h n1 hw1 hn hR hab hD;go_enter Tryz.func17,Tryz.ntmps17;generalize hqq:(bodyPost _ _ _:Exit→Act→World→Prop)=QQ
 go_upto_region 1 with fail
 rw[←HW.out];clear HW;obtain⟨gk,hgk⟩:∃gk,gk=w.heap.size:=⟨_,rfl⟩;rw[←hgk] at BT1 BC1 BR1 BA1;have GK:=jH hgk
 have GKS:Hid (∀u:World,New w u→gk≤u.heap.size):=fun u hu=>by rw[hgk];exact hu.size
 obtain⟨a0,a1⟩:=BT1.out.p2;rw[←hgk];clear hgk;go_wp2_with fail;refine CC.out.mono ?_;rintro e w2 ⟨A2,c2,es2,rfl,hL,T2,k2⟩;have hL:nds es2=nds es:=hL;obtain⟨w3,hw3⟩:∃w3,w3=(w2.setCell ⟨gk,0,none⟩ (.int .i64 p)).setCell ⟨gk,1,none⟩ (.slice A2 es2.length c2):=⟨_,rfl⟩;have BE:=BT1.out.kept k2 id;obtain⟨e0,e1⟩:=BE.p2;obtain⟨f0,f1⟩:=BE.f2
 have K3:Kept (·=gk) w2 w3:=by rw[hw3];exact (Kept.set1 _ _ _ _).setCell (p:=⟨gk,1,none⟩) (fun _=>rfl) _
 have BT3:Hid (Blk w3 gk 25 [.int .i64 p,.slice A2 es2.length c2]):=by rw[hw3];exact (BE.put 0 _).put 1 _
 have BC3:=jH ((BC1.out.kept k2 id).kept K3 (by omega));have BR3:=jH ((BR1.out.kept k2 id).kept K3 (by omega));have BA3:=jH ((BA1.out.kept k2 id).kept K3 (by omega));have T3:=jH (TOwn.far (T2.mono N1.out.size) K3 BE.at_ (by decide) (by decide) (by decide))
 have N3:Hid (New w w3):=by
  rw[hw3];exact ((N1.out.new k2).setCell (p:=⟨gk,0,none⟩) (fun hh=>absurd hh (by rw[GK.out];exact Nat.lt_irrefl _)) _).setCell (p:=⟨gk,1,none⟩) (fun hh=>absurd hh (by rw[GK.out];exact Nat.lt_irrefl _)) _
 have HW3:=jH hw3;rw[←hL] at RR HD;clear BT1 BC1 BR1 BA1 CC T2 k2 hw3 BE K3 a0 a1 hL
 go_upto_region 2 with fail
 rw[←HW3.out];clear HW3 e0 e1 f0 f1;have CR:=jH (zao p A2 es2.length c2 es2 w3 T3.out.in_ rfl RR.out);obtain⟨b0,b1⟩:=BT3.out.p2;go_wp2_with fail;refine CR.out.mono ?_;rintro e wb ⟨rfl,k4⟩;have BT:=jH (BT3.out.kept k4 id);have BC:=jH (BC3.out.kept k4 id);have BR:=jH (BR3.out.kept k4 id);have BA:=jH (BA3.out.kept k4 id);have HT:=jH (T3.out.new k4);have NW:=jH (N3.out.new k4);have AB:=jH (HAB.out.new (N3.out.new k4));have HWB:Hid (w.heap.size≤wb.heap.size):=NW.out.size
 have M48:Hid (es2.length≤48):=by have:=RR.out.len;rwa [zab] at this
 clear BT3 BC3 BR3 BA3 T3 N3 k4 b0 b1 CR HAB N1;generalize hm:es2.length=m at *;have LN:=jH hm;clear hm;have NB:Hid (New wb wb):=kR
 have EM:Hid (D=(⟨p,nds es2⟩,erA x1)):=by
  rw[Hid,HD.out,HX.out];unfold doF;rw[if_neg (by show ¬(k=0∨11 < k);omega),if_pos (by show peB sp≠0;rw[←HX.out];exact HP.out)]
 have d3:(((x1:Nat):Int) != 0)=true:=bne_iff_ne.2 (by have:=HP.out;omega);obtain⟨a0,a1⟩:=BC.out.p2;have d1:decide (((k:Nat):Int) < 1)=false:=decide_eq_false (by omega);have d2:decide (11 < ((k:Nat):Int))=false:=decide_eq_false (by omega);go_wp2_with fail;refine (CP1.out _).mono ?_;rintro e w5 ⟨G1,c1,rfl,O1,k5⟩;have N5:=jH k5;clear k5 a0 a1 O1 CP1 HP HX;have BRZ:=jH (BR.out.kept N5.out id);have BAZ:=jH (BA.out.kept N5.out id);have BTZ:=BT.out.kept N5.out id;obtain⟨b0,b1⟩:=BTZ.p2;have HTZ:=jH (HT.out.new N5.out);have LNZ:=LN
 have KWZ:Hid (Kept (zak none) w w5):=(NW.out.new N5.out).mono fun _ _ f=>f.elim
 obtain⟨t0,t1⟩:=BRZ.out.p2;obtain⟨f0,f1⟩:=BRZ.out.f2;obtain⟨r0,r1,r2,r3,r4,r5,r6,r7⟩:=BAZ.out.p8;obtain⟨g0,g1,g2,g3,g4,g5,g6,g7⟩:=BAZ.out.f8;have HLD:Hid (((((((((((w5.setCell ⟨gk+1+1,0,none⟩ (.int .i64 p)).setCell ⟨gk+1+1,1,none⟩ (.slice (A2) m c2)).setCell ⟨gk+1+1+1,0,none⟩ (.int .i64 x1)).setCell ⟨gk+1+1+1,1,none⟩ (.int .i64 0)).setCell ⟨gk+1+1+1,2,none⟩ (.int .i64 0)).setCell ⟨gk+1+1+1,3,none⟩ (.int .u8 0)).setCell ⟨gk+1+1+1,4,none⟩ (.int .i64 0)).setCell ⟨gk+1+1+1,5,none⟩ (.int .i64 0)).setCell ⟨gk+1+1+1,6,none⟩ (.slice none 0 0)).setCell ⟨gk+1+1+1,7,none⟩ (.slice none 0 0))=laid w5 (gk+1+1) (gk+1+1+1) p (A2) m c2 (erA x1) none 0 0 none 0 0):=rfl
 have DD:=jH (zag (w:=w) (A0:=none) (a:=erA x1) (p:=p) (c:=c2) (n:=m) (d':=0) (t':=0) (B':=none) (m:=0) (q:=0) (T':=none) BRZ.out BAZ.out (by have:=GK.out;omega) (by have:=GK.out;omega) HTZ.out LNZ.out rfl (OwnB.nil _ _ _) rfl (Txs.nil _ _) (fun _ h=>by cases h) rfl KWZ.out);have DB:=jH (zae (p:=p) (A:=A2) (n:=m) (c:=c2) (a:=erA x1) (d':=0) (t':=0) (B':=none) (m:=0) (q:=0) (T':=none) BRZ.out BAZ.out);clear HTZ KWZ;go_wp2_with fail;rw[HLD.out];generalize laid w5 (gk+1+1) (gk+1+1+1) p (A2) m c2 (erA x1) none 0 0 none 0 0=wf at *;have d0:=DB.out.1.cell 0;have d1:=DB.out.1.cell 1;have d2:=DB.out.2.cell 0
 have d3:=DB.out.2.cell 1;have d4:=DB.out.2.cell 2;have d5:=DB.out.2.cell 3;have d6:=DB.out.2.cell 4;have d7:=DB.out.2.cell 5;have d8:=DB.out.2.cell 6;have d9:=DB.out.2.cell 7;simp at d0 d1 d2 d3 d4 d5 d6 d7 d8 d9
 try simp only[Exit.then]
 rw[←hqq];refine bodyPost_ret (by simp[results,Tryz.results17,go_sem,d0,d1,d2,d3,d4,d5,d6,d7,d8,d9];try rfl) rfl ?_;rw[EM.out];exact DD.out
end
section
open Go.RowKit
theorem rdo_ls (p:Nat) (A:Option Addr) (n c:Nat) (es:List NE) (sp st:ByteArray) (av nv:Int) (Ab:Option Addr) (bl bc:Nat) (ab:List Nat) (w:World) (h:TIn w A es) (hn:es.length=n) (hR:Rt ⟨p,nds es⟩) (hs:sp.size≤1048576) (_ht:st.size≤1048576) (hab:Bts w Ab bl ab)
    (q j:Nat) (hpe:peB sp=0) (hlk:zad (nds es) (pnB sp) 0 1=(q,j,0)):
    Calls Tryz.prog 17 #[.agg #[.int .i64 p,.slice A n c],.agg #[.int .u8 11,.string sp,.string st,.int .i64 av,.int .i64 nv,.slice Ab bl bc]] w
      (DoP w p w.heap.size none (actF ⟨p,nds es⟩ ⟨11,sp,st,av,nv,ab⟩ (pnB sp) [] q j 0 0).1.l (actF ⟨p,nds es⟩ ⟨11,sp,st,av,nv,ab⟩ (pnB sp) [] q j 0 0).2):=by
  obtain⟨w1,hw1⟩:∃w1,w1=(((w.alloc (.cells #[.int .i64 p,.slice A n c] 25)).alloc (.cells #[.int .u8 11,.string sp,.string st,.int .i64 av,.int .i64 nv,.slice Ab bl bc] 34)).alloc (.cells #[.int .i64 0,.slice none 0 0] 25)).alloc (.cells #[.int .i64 0,.int .i64 0,.int .i64 0,.int .u8 0,.int .i64 0,.int .i64 0,.slice none 0 0,.slice none 0 0] 41):=⟨_,rfl⟩
  have n1:New w w1:=by rw[hw1];exact (((kR.alloc _).alloc _).alloc _).alloc _
  have BT1:Hid (Blk w1 w.heap.size 25 [.int .i64 p,.slice A n c]):=by rw[hw1];exact (((Blk.made w _ _).alloc _).alloc _).alloc _
  have BC1:Hid (Blk w1 (w.heap.size+1) 34 [.int .u8 11,.string sp,.string st,.int .i64 av,.int .i64 nv,.slice Ab bl bc]):=by
    have:=Blk.made (w.alloc (.cells #[.int .i64 p,.slice A n c] 25)) 34 #[.int .u8 11,.string sp,.string st,.int .i64 av,.int .i64 nv,.slice Ab bl bc]
    rw[World.size_alloc] at this;rw[hw1];exact (this.alloc _).alloc _
  have BR1:Hid (Blk w1 (w.heap.size+1+1) 25 [.int .i64 0,.slice none 0 0]):=by
    have:=Blk.made ((w.alloc (.cells #[.int .i64 p,.slice A n c] 25)).alloc (.cells #[.int .u8 11,.string sp,.string st,.int .i64 av,.int .i64 nv,.slice Ab bl bc] 34)) 25 #[.int .i64 0,.slice none 0 0]
    rw[World.size_alloc,World.size_alloc] at this;rw[hw1];exact this.alloc _
  have BA1:Hid (Blk w1 (w.heap.size+1+1+1) 41 [.int .i64 0,.int .i64 0,.int .i64 0,.int .u8 0,.int .i64 0,.int .i64 0,.slice none 0 0,.slice none 0 0]):=by
    have:=Blk.made (((w.alloc (.cells #[.int .i64 p,.slice A n c] 25)).alloc (.cells #[.int .u8 11,.string sp,.string st,.int .i64 av,.int .i64 nv,.slice Ab bl bc] 34)).alloc (.cells #[.int .i64 0,.slice none 0 0] 25)) 41 #[.int .i64 0,.int .i64 0,.int .i64 0,.int .u8 0,.int .i64 0,.int .i64 0,.slice none 0 0,.slice none 0 0]
    rw[World.size_alloc,World.size_alloc,World.size_alloc] at this;rw[hw1];exact this
  have CC:=jH (zau p A n c es w1 (h.new n1) hn hR);have N1:=jH n1;have HW:=jH hw1;have RR:=jH hR;have HAB:=jH hab;obtain⟨D,hD⟩:∃D,D=actF ⟨p,nds es⟩ ⟨11,sp,st,av,nv,ab⟩ (pnB sp) [] q j 0 0:=⟨_,rfl⟩;rw[←hD];have HD:=jH hD;obtain⟨g1,hg1⟩:∃g,g=pN sp.data.toList:=⟨_,rfl⟩
  have e1:pnB sp=g1.map baL:=by rw[hg1];rfl
  have L1:Hid (g1.length≤6):=by rw[hg1];exact zcc _
  have CP1:Hid (∀u,Calls Tryz.prog 35 #[.string sp] u (RetP u g1 0)):=fun u=>by
    have:=zaj sp u hs
    rw[←hg1,show pE sp.data.toList=0 from hpe] at this;exact this
  rw[e1] at hlk;rw[e1] at HD;have HLK:=jH hlk;clear e1 hg1 hlk hpe hs;clear h n1 hw1 hn hR hab hD;go_enter Tryz.func17,Tryz.ntmps17;generalize hqq:(bodyPost _ _ _:Exit→Act→World→Prop)=QQ
  go_upto_region 1 with fail
  rw[←HW.out];clear HW;obtain⟨gk,hgk⟩:∃gk,gk=w.heap.size:=⟨_,rfl⟩;rw[←hgk] at BT1 BC1 BR1 BA1;have GK:=jH hgk
  have GKS:Hid (∀u:World,New w u→gk≤u.heap.size):=fun u hu=>by rw[hgk];exact hu.size
  obtain⟨a0,a1⟩:=BT1.out.p2;rw[←hgk];clear hgk;go_wp2_with fail;refine CC.out.mono ?_;rintro e w2 ⟨A2,c2,es2,rfl,hL,T2,k2⟩;have hL:nds es2=nds es:=hL;obtain⟨w3,hw3⟩:∃w3,w3=(w2.setCell ⟨gk,0,none⟩ (.int .i64 p)).setCell ⟨gk,1,none⟩ (.slice A2 es2.length c2):=⟨_,rfl⟩;have BE:=BT1.out.kept k2 id;obtain⟨e0,e1⟩:=BE.p2;obtain⟨f0,f1⟩:=BE.f2
  have K3:Kept (·=gk) w2 w3:=by rw[hw3];exact (Kept.set1 _ _ _ _).setCell (p:=⟨gk,1,none⟩) (fun _=>rfl) _
  have BT3:Hid (Blk w3 gk 25 [.int .i64 p,.slice A2 es2.length c2]):=by rw[hw3];exact (BE.put 0 _).put 1 _
  have BC3:=jH ((BC1.out.kept k2 id).kept K3 (by omega));have BR3:=jH ((BR1.out.kept k2 id).kept K3 (by omega));have BA3:=jH ((BA1.out.kept k2 id).kept K3 (by omega));have T3:=jH (TOwn.far (T2.mono N1.out.size) K3 BE.at_ (by decide) (by decide) (by decide))
  have N3:Hid (New w w3):=by
    rw[hw3];exact ((N1.out.new k2).setCell (p:=⟨gk,0,none⟩) (fun hh=>absurd hh (by rw[GK.out];exact Nat.lt_irrefl _)) _).setCell (p:=⟨gk,1,none⟩) (fun hh=>absurd hh (by rw[GK.out];exact Nat.lt_irrefl _)) _
  have HW3:=jH hw3;rw[←hL] at RR HD HLK;clear BT1 BC1 BR1 BA1 CC T2 k2 hw3 BE K3 a0 a1 hL
  go_upto_region 2 with fail
  rw[←HW3.out];clear HW3 e0 e1 f0 f1;have CR:=jH (zao p A2 es2.length c2 es2 w3 T3.out.in_ rfl RR.out);obtain⟨b0,b1⟩:=BT3.out.p2;go_wp2_with fail;refine CR.out.mono ?_;rintro e wb ⟨rfl,k4⟩;have BT:=jH (BT3.out.kept k4 id);have BC:=jH (BC3.out.kept k4 id);have BR:=jH (BR3.out.kept k4 id);have BA:=jH (BA3.out.kept k4 id);have HT:=jH (T3.out.new k4);have NW:=jH (N3.out.new k4);have AB:=jH (HAB.out.new (N3.out.new k4));have HWB:Hid (w.heap.size≤wb.heap.size):=NW.out.size
  have M48:Hid (es2.length≤48):=by have:=RR.out.len;rwa [zab] at this
  clear BT3 BC3 BR3 BA3 T3 N3 k4 b0 b1 CR HAB N1;generalize hm:es2.length=m at *;have LN:=jH hm;clear hm;have NB:Hid (New wb wb):=kR;obtain⟨a0,a1⟩:=(BC.out.kept NB.out id).p2;go_wp2_with fail;refine (CP1.out _).mono ?_;rintro e w5 ⟨G1,c1,rfl,O1,k5⟩;have N5:=jH k5;obtain⟨n1,hn1⟩:∃n1,n1=g1.length:=⟨_,rfl⟩
  have X1:Hid (∀u,New w5 u→Txs u G1 n1 g1):=fun u hu=>by rw[hn1];exact O1.txs.new hu
  have O1:Hid (∀x,G1=some x→At w5 x.block 9):=fun x hx=>(O1.at_ x hx).1
  rw[←hn1] at L1 ⊢;have LG1:=jH hn1;clear k5 a0 a1 hn1 CP1;obtain⟨b0,b1⟩:=(BT.out.kept N5.out id).p2;have a0:=(BC.out.kept N5.out id).q0;have CL1:=jH (zat p A2 m c2 es2 G1 n1 c1 g1 w5 (HT.out.new N5.out).in_ LN.out RR.out (X1.out w5 kR) (by have:=L1.out;omega));rw[HLK.out] at CL1;go_wp2_with fail;refine CL1.out.mono ?_;rintro e w7 ⟨rfl,k7⟩;have N7:Hid (New wb w7):=N5.out.new k7
  have X1:Hid (∀u,New w7 u→Txs u G1 n1 g1):=fun u hu=>X1.out u (Kept.new k7 hu)
  have O1:Hid (∀x,G1=some x→At w7 x.block 9):=fun x hx=>(O1.out x hx).kept k7 id
  clear k7 b0 b1 CL1 a0;have HP1:=jH (zbx RR.out HLK.out);clear HLK
  rcases Nat.eq_zero_or_pos j with hj0|hj0
  · subst hj0
    have EM:Hid (D=(⟨p,nds es2⟩,erA 12)):=by rw[Hid,HD.out];unfold actF;simp
    have a0:=(BC.out.kept N7.out id).q0;have BRZ:=jH (BR.out.kept N7.out id);have BAZ:=jH (BA.out.kept N7.out id);have BTZ:=BT.out.kept N7.out id;obtain⟨b0,b1⟩:=BTZ.p2;have HTZ:=jH (HT.out.new N7.out);have LNZ:=LN
    have KWZ:Hid (Kept (zak none) w w7):=(NW.out.new N7.out).mono fun _ _ f=>f.elim
    obtain⟨t0,t1⟩:=BRZ.out.p2;obtain⟨f0,f1⟩:=BRZ.out.f2;obtain⟨r0,r1,r2,r3,r4,r5,r6,r7⟩:=BAZ.out.p8;obtain⟨g0,g1,g2,g3,g4,g5,g6,g7⟩:=BAZ.out.f8;have HLD:Hid (((((((((((w7.setCell ⟨gk+1+1,0,none⟩ (.int .i64 p)).setCell ⟨gk+1+1,1,none⟩ (.slice (A2) m c2)).setCell ⟨gk+1+1+1,0,none⟩ (.int .i64 12)).setCell ⟨gk+1+1+1,1,none⟩ (.int .i64 0)).setCell ⟨gk+1+1+1,2,none⟩ (.int .i64 0)).setCell ⟨gk+1+1+1,3,none⟩ (.int .u8 0)).setCell ⟨gk+1+1+1,4,none⟩ (.int .i64 0)).setCell ⟨gk+1+1+1,5,none⟩ (.int .i64 0)).setCell ⟨gk+1+1+1,6,none⟩ (.slice none 0 0)).setCell ⟨gk+1+1+1,7,none⟩ (.slice none 0 0))=laid w7 (gk+1+1) (gk+1+1+1) p (A2) m c2 (erA 12) none 0 0 none 0 0):=rfl
    have DD:=jH (zag (w:=w) (A0:=none) (a:=erA 12) (p:=p) (c:=c2) (n:=m) (d':=0) (t':=0) (B':=none) (m:=0) (q:=0) (T':=none) BRZ.out BAZ.out (by have:=GK.out;omega) (by have:=GK.out;omega) HTZ.out LNZ.out rfl (OwnB.nil _ _ _) rfl (Txs.nil _ _) (fun _ h=>by cases h) rfl KWZ.out);have DB:=jH (zae (p:=p) (A:=A2) (n:=m) (c:=c2) (a:=erA 12) (d':=0) (t':=0) (B':=none) (m:=0) (q:=0) (T':=none) BRZ.out BAZ.out);clear HTZ KWZ;go_wp2_with fail;rw[HLD.out];generalize laid w7 (gk+1+1) (gk+1+1+1) p (A2) m c2 (erA 12) none 0 0 none 0 0=wf at *;have d0:=DB.out.1.cell 0;have d1:=DB.out.1.cell 1;have d2:=DB.out.2.cell 0
    have d3:=DB.out.2.cell 1;have d4:=DB.out.2.cell 2;have d5:=DB.out.2.cell 3;have d6:=DB.out.2.cell 4;have d7:=DB.out.2.cell 5;have d8:=DB.out.2.cell 6;have d9:=DB.out.2.cell 7;simp at d0 d1 d2 d3 d4 d5 d6 d7 d8 d9
    try simp only[Exit.then]
    rw[←hqq];refine bodyPost_ret (by simp[results,Tryz.results17,go_sem,d0,d1,d2,d3,d4,d5,d6,d7,d8,d9];try rfl) rfl ?_;rw[EM.out];exact DD.out
  have d0:(((j:Nat):Int) == 0)=false:=beq_eq_false_iff_ne.2 (by omega);obtain⟨y,hy⟩:=zce RR.out HP1.out (by omega);have hy:ndI (nds es2) j=some y:=hy;obtain⟨z,hz,hzy,hzm⟩:=zbg hy
  have hpl:posI (nds es2) j < m:=by have:=(List.getElem?_eq_some_iff.1 hz).1;rwa [LN.out] at this
  have hm48:=M48.out
  have CNy:Hid (∀u,New wb u→Calls Tryz.prog 25 #[.agg #[.int .i64 p,.slice A2 m c2],.int .i64 j] u (zaw u ((posI (nds es2) j:Nat):Int))):=fun u hu=>by
    have:=zam p A2 m c2 es2 j u (HT.out.new hu).in_ LN.out (by omega)
    rwa [zaz hy] at this
  obtain⟨ga,oa,z',eA,_⟩:=HT.out.in_.pos (i:=posI (nds es2) j) (by rw[LN.out];exact hpl)
  have ON:oa=0:=by
    have:=HT.out.1.2.2.2
    rcases this with ⟨e,_⟩|⟨g',sp,e,_⟩
    · rw[e] at eA;cases eA
    · rw[e] at eA;injection eA with eA;injection eA with _ e2;exact e2.symm
  subst ON;subst eA
  have ZC:Hid (∀u,New wb u→u.cell? ⟨gk,0,none⟩=some (.int .i64 p)∧u.cell? ⟨gk,1,none⟩=some (.slice (some ⟨ga,0,none⟩) m c2)∧u.cell? ⟨ga,posI (nds es2) j*5,none⟩=some (.int .i64 z.n.i)∧u.cell? ⟨ga,posI (nds es2) j*5+1,none⟩=some (.int .u8 z.n.k)∧u.cell? ⟨ga,posI (nds es2) j*5+2,none⟩=some (.int .i64 z.n.l) ∧
      u.cell? ⟨ga,posI (nds es2) j*5+3,none⟩=some (.slice z.A z.n.ns.length z.c)∧u.cell? ⟨ga,posI (nds es2) j*5+4,none⟩=some (.slice z.B z.n.b.length z.d)):=fun u hu=>by
    have b:=BT.out.kept hu id
    have:=((HT.out.new hu).in_.get hz).2
    rw[Nat.zero_add] at this;exact⟨b.cell 0,b.cell 1,this⟩
  have HY:=jH hy;have HZY:=jH hzy;have HZM:=jH (And.intro hz hzm);generalize hpj:posI (nds es2) j=pj at *
  have s0:(pj:Int) < (m:Int):=by omega
  have s1:(0:Int)≤(pj:Int):=by omega
  clear hy hz hzy hzm;have a0:=(BC.out.kept N7.out id).q0;have CNr:=jH (fun (uu:World) (hu:New w7 uu)=>CNy.out uu (N7.out.new hu));have ZCr:=jH (fun (uu:World) (hu:New w7 uu)=>ZC.out uu (N7.out.new hu));have NUr:Hid (New w7 w7):=kR;obtain⟨b0,b1,z0,z1,z2,z3,z4⟩:=ZCr.out w7 NUr.out;have hga:ga < w7.heap.size:=World.block_lt_of_cell? w7 _ z0;have hgk:gk < w7.heap.size:=World.block_lt_of_cell? w7 _ b0
  have MK:Hid (∀(wC:World),New wC (wC.alloc (.cells #[.int .i64 z.n.i,.int .u8 z.n.k,.int .i64 z.n.l,.slice z.A z.n.ns.length z.c,.slice z.B z.n.b.length z.d] 53))∧Blk (wC.alloc (.cells #[.int .i64 z.n.i,.int .u8 z.n.k,.int .i64 z.n.l,.slice z.A z.n.ns.length z.c,.slice z.B z.n.b.length z.d] 53)) wC.heap.size 53 [.int .i64 z.n.i,.int .u8 z.n.k,.int .i64 z.n.l,.slice z.A z.n.ns.length z.c,.slice z.B z.n.b.length z.d]):=fun wC=>⟨kR.alloc _,Blk.made wC _ _⟩
  have ZB:Hid (∀wx:World,wx.heap.size=w7.heap.size→∀wC,New (wx.alloc (.cells #[.int .i64 0,.int .u8 0,.int .i64 0,.slice none 0 0,.slice none 0 0] 53)) wC→Blk wC w7.heap.size 53 [.int .i64 0,.int .u8 0,.int .i64 0,.slice none 0 0,.slice none 0 0]):=fun wx hx wC hC=>by
    have:=(Blk.made wx 53 #[.int .i64 0,.int .u8 0,.int .i64 0,.slice none 0 0,.slice none 0 0]).kept hC id
    rwa [hx] at this
  have hgx:w7.heap.size≤w7.heap.size:=Nat.le_refl _
  have SETN:Hid (∀wC:World,New w7 wC→New w7 (((((wC.setCell ⟨w7.heap.size,0,none⟩ (.int .i64 z.n.i)).setCell ⟨w7.heap.size,1,none⟩ (.int .u8 z.n.k)).setCell ⟨w7.heap.size,2,none⟩ (.int .i64 z.n.l)).setCell ⟨w7.heap.size,3,none⟩ (.slice z.A z.n.ns.length z.c)).setCell ⟨w7.heap.size,4,none⟩ (.slice z.B z.n.b.length z.d))):=fun wC hC=>
    (((((hC.setCell (p:=⟨w7.heap.size,0,none⟩) (fun hh=>absurd hh (Nat.not_lt.2 hgx)) _).setCell (p:=⟨w7.heap.size,1,none⟩) (fun hh=>absurd hh (Nat.not_lt.2 hgx)) _).setCell (p:=⟨w7.heap.size,2,none⟩) (fun hh=>absurd hh (Nat.not_lt.2 hgx)) _).setCell (p:=⟨w7.heap.size,3,none⟩) (fun hh=>absurd hh (Nat.not_lt.2 hgx)) _).setCell (p:=⟨w7.heap.size,4,none⟩) (fun hh=>absurd hh (Nat.not_lt.2 hgx)) _)
  have SETB:Hid (∀wC:World,Blk wC w7.heap.size 53 [.int .i64 0,.int .u8 0,.int .i64 0,.slice none 0 0,.slice none 0 0]→Blk (((((wC.setCell ⟨w7.heap.size,0,none⟩ (.int .i64 z.n.i)).setCell ⟨w7.heap.size,1,none⟩ (.int .u8 z.n.k)).setCell ⟨w7.heap.size,2,none⟩ (.int .i64 z.n.l)).setCell ⟨w7.heap.size,3,none⟩ (.slice z.A z.n.ns.length z.c)).setCell ⟨w7.heap.size,4,none⟩ (.slice z.B z.n.b.length z.d)) w7.heap.size 53 [.int .i64 z.n.i,.int .u8 z.n.k,.int .i64 z.n.l,.slice z.A z.n.ns.length z.c,.slice z.B z.n.b.length z.d]):=fun wC hC=>
    (((((hC.put 0 (.int .i64 z.n.i)).put 1 (.int .u8 z.n.k)).put 2 (.int .i64 z.n.l)).put 3 (.slice z.A z.n.ns.length z.c)).put 4 (.slice z.B z.n.b.length z.d))
  clear hgx
  go_upto_region 32 with fail
  go_cut [16] from 21 to 284 (fun v wx=>∃gx:Nat,v=.pointer (some ⟨gx,0,none⟩)∧Hid (New w7 wx)∧Hid (Blk wx gx 53 [.int .i64 z.n.i,.int .u8 z.n.k,.int .i64 z.n.l,.slice z.A z.n.ns.length z.c,.slice z.B z.n.b.length z.d]))
  case first=>
    as_aux_lemma=>
      subst hqq
      go_region_law (first
        | (go_simp;go_at_call 25;refine (CNr.out _ (by first|exact NUr.out|exact NUr.out.drew)).mono ?_;rintro e wC ⟨rfl,k4⟩;have NC:Hid (New w7 wC):=(by first|exact NUr.out.new k4|exact NUr.out.drew.new k4);clear k4;obtain⟨t0,t1,t2,t3,t4,t5,t6⟩:=ZCr.out wC NC.out;have hgc:ga < wC.heap.size:=World.block_lt_of_cell? wC _ t2;have hgkc:gk < wC.heap.size:=World.block_lt_of_cell? wC _ t1)
        | (go_simp;go_at_call 25;refine (CNr.out _ (by first|exact NUr.out.alloc _|exact NUr.out.drew.alloc _)).mono ?_;rintro e wC ⟨rfl,k4⟩;have NC:Hid (New w7 wC):=(by first|exact (NUr.out.alloc _).new k4|exact (NUr.out.drew.alloc _).new k4);have BZ:=ZB.out w7 rfl wC (by first|exact k4|exact zbm k4);clear k4;obtain⟨t0,t1,t2,t3,t4,t5,t6⟩:=ZCr.out wC NC.out;obtain⟨f0,f1,f2,f3,f4⟩:=BZ.f5;have y0:=BZ.cell 0;have y1:=BZ.cell 1;have y2:=BZ.cell 2;have y3:=BZ.cell 3;have y4:=BZ.cell 4))
      all_goals
        simp only[Exit.then];refine (‹∀(a':Act) (w':World),Met _ a' w'→_›) _ _ ?_
        go_meet
        case rel=>
          first
            | (have hb:=SETB.out wC BZ
               have hn:=SETN.out wC NC.out
               exact⟨w7.heap.size,rfl,hn,hb⟩)
            | (have hn:=NC.out.new (MK.out wC).1
               have hb:=(MK.out wC).2
               exact⟨wC.heap.size,rfl,hn,hb⟩)
  case rest=>
    obtain⟨gx1,rfl,NX1,BX1⟩:=hcut;clear b0 b1 z0 z1 z2 z3 z4 hga hgk MK SETN SETB ZB CNr ZCr NUr;have NW1:Hid (New wb wc):=N7.out.new NX1.out
    have X1:Hid (∀u,New wc u→Txs u G1 n1 g1):=fun u hu=>X1.out u (NX1.out.new hu)
    have O1:Hid (∀x,G1=some x→At wc x.block 9):=fun x hx=>(O1.out x hx).kept NX1.out id
    have HD2:Hid (D=lsF ⟨p,nds es2⟩ y):=by
      rw[Hid,HD.out];unfold actF;rw[if_neg (by simp),if_neg (by omega)]
      show (match ndI (nds es2) j with|none=>_|some n=>_)=_
      rw[HY.out]
      rfl
    have y1:=BX1.out.q1;have a0:=(BC.out.kept NW1.out id).q0
    go_upto_if 142 with fail
    go_upto_if 169 with fail
    go_upto_if 207 with fail
    go_upto_if 224 with fail
    go_upto_if 240 with fail
    go_upto_if 253 with fail
    by_cases hk1:z.n.k=1
    · have d1:(((z.n.k:Nat):Int) != 1)=false:=bne_eq_false_iff_eq.2 (by omega)
      obtain⟨xs,hxs⟩:∃xs,xs=z.n.ns.map (·.1):=⟨_,rfl⟩
      have EM:Hid (D=(⟨p,nds es2⟩,{ erA 0 with ns:=xs })):=by
        rw[Hid,HD2.out];unfold lsF;rw[if_neg (by rw[←HZY.out];exact fun e=>e hk1),hxs,HZY.out]
      have XN:Hid (∀u,New wc u→NmIn u z.A z.n.ns):=fun u hu=>((HT.out.new (NW1.out.new hu)).in_.2 z (List.mem_of_getElem? HZM.out.1)).1
      have XL:Hid (z.n.ns.length≤288):=RR.out.ns_le (by rw[HZY.out];exact (zaa HY.out).1)
      have LX:Hid (xs.length=z.n.ns.length):=by rw[hxs,Hid,List.length_map]
      have HX:Hid (∀(t:Nat) (e:ByteArray×Nat),z.n.ns[t]?=some e→xs[t]?=some e.1):=fun t e he=>by rw[hxs,List.getElem?_map,he];rfl
      have XCC:Hid (∀u,New wc u→u.cell? ⟨gx1,3,none⟩=some (.slice z.A z.n.ns.length z.c)):=fun u hu=>(BX1.out.kept hu id).cell 3
      clear hk1 hxs HD2 HD HZM HZY HY BX1 CNy ZC HP1 X1 O1 NX1;generalize z.n.k=kz at *;generalize z.n.ns=zs at *;generalize z.A=zA at *;generalize hzl:zs.length=zl at *;have HZL:=jH hzl;have hz288:=XL.out;clear hzl XL
      go_upto_if 257 with fail
      go_wp2_with fail
      go_loopw [19,20] (fun a b wr=>∃(t:Nat) (A5:Option Addr) (c5:Nat),t≤zl∧b=.int .i64 t∧a=.slice A5 t c5∧Hid (OwnT wr wc.heap.size A5 c5 ((xs.map (·.data.toList)).take t))∧Hid (New wc wr)) (fun _ b _=>zl - (intOf b).toNat)
      case atStart=>exact⟨0,none,0,Nat.zero_le _,rfl,rfl,OwnT.nil _ _,kR⟩
      case round=>
        obtain⟨t,A5,c5,ht,rfl,rfl,VO,VN⟩:=hrel;have x3:=XCC.out wr VN.out
        by_cases hlt:t < zl
        · obtain⟨g2,o2,e,eA2,he⟩:=NmIn.pos (XN.out wr VN.out) (i:=t) (by rw[HZL.out];exact hlt)
          obtain⟨x0,_⟩:=NmIn.get (g:=g2) (o:=o2) (by rw[←eA2];exact XN.out wr VN.out) he;rw[eA2] at x3
          have GE:Hid ((xs.map (·.data.toList))[t]?=some e.1.data.toList):=by rw[Hid,List.getElem?_map,HX.out t e he];rfl
          have HN:Hid (t=((xs.map (·.data.toList)).take t).length):=by rw[Hid,List.length_take,List.length_map,LX.out];omega
          clear he eA2
          go_wp2_with (first
            | (at_builtin;refine zas _ rfl _ _ rfl wc.heap.size A5 t c5 _ rfl (VO.out.alloc _) HN.out _ 1 1 [e.1.data.toList] rfl (Txs.one _ _ _ _ rfl) (by omega) (VN.out.alloc _).size ?_)
            | fail)
          intro A8 c8 w8 O8 g8;have K8:=jH (Kept.of_ownT (VN.out.alloc _) (VO.out.alloc _) (Nat.le_refl _) g8.out)
          have E1:Hid (OwnT w8 wc.heap.size A8 c8 ((xs.map (·.data.toList)).take (t+1))):=by rw[List.take_add_one,GE.out];exact O8.out
          clear O8 g8 VO VN x3 x0 GE HN;go_wp2;go_roundw
          case rel=>exact⟨t+1,A8,c8,by omega,by go_num,by go_num,E1,K8⟩
          case measure=>simp[intOf];omega
        · obtain rfl:t=zl:=by omega
          have LXT:Hid (xs.length=t):=LX
          have VF:Hid (OwnT wr wc.heap.size A5 c5 (xs.map (·.data.toList))):=by
            have:=VO.out
            rwa [List.take_of_length_le (by rw[List.length_map,LX.out];exact Nat.le_refl _)] at this
          have NWR:Hid (New wb wr):=NW1.out.new VN.out
          have TX3:Hid (Txs wr A5 t (xs.map (·.data.toList))):=by
            have:=VF.out.txs
            rwa [List.length_map,LX.out] at this
          have AT3:Hid (∀x,A5=some x→At wr x.block 9):=fun x hx=>(VF.out.at_ x hx).1
          have BR3:=jH (BR.out.kept NWR.out id);have BA3:=jH (BA.out.kept NWR.out id);have BTZ:=BT.out.kept NWR.out id;obtain⟨b0,b1⟩:=BTZ.p2
          have KW3:Hid (Kept (zak none) w wr):=(NW.out.new NWR.out).mono fun _ _ f=>f.elim
          have TR3:=jH (HT.out.new NWR.out);clear VO BTZ;obtain⟨t0,t1⟩:=BR3.out.p2;obtain⟨f0,f1⟩:=BR3.out.f2;obtain⟨r0,r1,r2,r3,r4,r5,r6,r7⟩:=BA3.out.p8;obtain⟨g0,g1,g2,g3,g4,g5,g6,g7⟩:=BA3.out.f8;go_wp2_with fail;have HLD:Hid (((((((((((wr.setCell ⟨gk+1+1,0,none⟩ (.int .i64 p)).setCell ⟨gk+1+1,1,none⟩ (.slice (some ⟨ga,0,none⟩) m c2)).setCell ⟨gk+1+1+1,0,none⟩ (.int .i64 0)).setCell ⟨gk+1+1+1,1,none⟩ (.int .i64 0)).setCell ⟨gk+1+1+1,2,none⟩ (.int .i64 0)).setCell ⟨gk+1+1+1,3,none⟩ (.int .u8 0)).setCell ⟨gk+1+1+1,4,none⟩ (.int .i64 0)).setCell ⟨gk+1+1+1,5,none⟩ (.int .i64 0)).setCell ⟨gk+1+1+1,6,none⟩ (.slice none 0 0)).setCell ⟨gk+1+1+1,7,none⟩ (.slice A5 t c5))=laid wr (gk+1+1) (gk+1+1+1) p (some ⟨ga,0,none⟩) m c2 ({ erA 0 with ns:=xs }) none 0 0 A5 t c5):=rfl
          have DD:=jH (zag (w:=w) (A0:=none) (a:={ erA 0 with ns:=xs }) (p:=p) (c:=c2) (n:=m) (d':=0) (t':=c5) (B':=none) (m:=0) (q:=t) (T':=A5) BR3.out BA3.out (by have:=GK.out;omega) (by have:=GK.out;omega) TR3.out LN.out rfl (OwnB.nil _ _ _) rfl TX3.out AT3.out LXT.out KW3.out);have DB:=jH (zae (p:=p) (A:=some ⟨ga,0,none⟩) (n:=m) (c:=c2) (a:={ erA 0 with ns:=xs }) (d':=0) (t':=c5) (B':=none) (m:=0) (q:=t) (T':=A5) BR3.out BA3.out);rw[HLD.out];generalize laid wr (gk+1+1) (gk+1+1+1) p (some ⟨ga,0,none⟩) m c2 ({ erA 0 with ns:=xs }) none 0 0 A5 t c5=wf at *;have d0:=DB.out.1.cell 0;have d1:=DB.out.1.cell 1
          have d2:=DB.out.2.cell 0;have d3:=DB.out.2.cell 1;have d4:=DB.out.2.cell 2;have d5:=DB.out.2.cell 3;have d6:=DB.out.2.cell 4;have d7:=DB.out.2.cell 5;have d8:=DB.out.2.cell 6;have d9:=DB.out.2.cell 7;simp at d0 d1 d2 d3 d4 d5 d6 d7 d8 d9
          try simp only[Exit.then]
          rw[←hqq];refine bodyPost_ret (by simp[results,Tryz.results17,go_sem,d0,d1,d2,d3,d4,d5,d6,d7,d8,d9];try rfl) rfl ?_;rw[EM.out]
          first
            | exact DD.out
            | (have:=DD.out;rw[←LXT.out] at this;exact this)
    · have d1:(((z.n.k:Nat):Int) != 1)=true:=bne_iff_ne.2 (by omega)
      have EM:Hid (D=(⟨p,nds es2⟩,erA 14)):=by
        rw[Hid,HD2.out];unfold lsF;rw[if_pos (by rw[←HZY.out];exact hk1)]
      clear hk1 HD2;generalize z.n.k=kz at *
      go_upto_if 257 with fail
      have BRZ:=jH (BR.out.kept NW1.out id);have BAZ:=jH (BA.out.kept NW1.out id);have BTZ:=BT.out.kept NW1.out id;obtain⟨b0,b1⟩:=BTZ.p2;have HTZ:=jH (HT.out.new NW1.out);have LNZ:=LN
      have KWZ:Hid (Kept (zak none) w wc):=(NW.out.new NW1.out).mono fun _ _ f=>f.elim
      obtain⟨t0,t1⟩:=BRZ.out.p2;obtain⟨f0,f1⟩:=BRZ.out.f2;obtain⟨r0,r1,r2,r3,r4,r5,r6,r7⟩:=BAZ.out.p8;obtain⟨g0,g1,g2,g3,g4,g5,g6,g7⟩:=BAZ.out.f8;have HLD:Hid (((((((((((wc.setCell ⟨gk+1+1,0,none⟩ (.int .i64 p)).setCell ⟨gk+1+1,1,none⟩ (.slice (some ⟨ga,0,none⟩) m c2)).setCell ⟨gk+1+1+1,0,none⟩ (.int .i64 14)).setCell ⟨gk+1+1+1,1,none⟩ (.int .i64 0)).setCell ⟨gk+1+1+1,2,none⟩ (.int .i64 0)).setCell ⟨gk+1+1+1,3,none⟩ (.int .u8 0)).setCell ⟨gk+1+1+1,4,none⟩ (.int .i64 0)).setCell ⟨gk+1+1+1,5,none⟩ (.int .i64 0)).setCell ⟨gk+1+1+1,6,none⟩ (.slice none 0 0)).setCell ⟨gk+1+1+1,7,none⟩ (.slice none 0 0))=laid wc (gk+1+1) (gk+1+1+1) p (some ⟨ga,0,none⟩) m c2 (erA 14) none 0 0 none 0 0):=rfl
      have DD:=jH (zag (w:=w) (A0:=none) (a:=erA 14) (p:=p) (c:=c2) (n:=m) (d':=0) (t':=0) (B':=none) (m:=0) (q:=0) (T':=none) BRZ.out BAZ.out (by have:=GK.out;omega) (by have:=GK.out;omega) HTZ.out LNZ.out rfl (OwnB.nil _ _ _) rfl (Txs.nil _ _) (fun _ h=>by cases h) rfl KWZ.out);have DB:=jH (zae (p:=p) (A:=some ⟨ga,0,none⟩) (n:=m) (c:=c2) (a:=erA 14) (d':=0) (t':=0) (B':=none) (m:=0) (q:=0) (T':=none) BRZ.out BAZ.out);clear HTZ KWZ;go_wp2_with fail;rw[HLD.out];generalize laid wc (gk+1+1) (gk+1+1+1) p (some ⟨ga,0,none⟩) m c2 (erA 14) none 0 0 none 0 0=wf at *;have d0:=DB.out.1.cell 0;have d1:=DB.out.1.cell 1
      have d2:=DB.out.2.cell 0;have d3:=DB.out.2.cell 1;have d4:=DB.out.2.cell 2;have d5:=DB.out.2.cell 3;have d6:=DB.out.2.cell 4;have d7:=DB.out.2.cell 5;have d8:=DB.out.2.cell 6;have d9:=DB.out.2.cell 7;simp at d0 d1 d2 d3 d4 d5 d6 d7 d8 d9
      try simp only[Exit.then]
      rw[←hqq];refine bodyPost_ret (by simp[results,Tryz.results17,go_sem,d0,d1,d2,d3,d4,d5,d6,d7,d8,d9];try rfl) rfl ?_;rw[EM.out];exact DD.out
end
end Go.Proofs.YtjjamoemheljdaaGreat
