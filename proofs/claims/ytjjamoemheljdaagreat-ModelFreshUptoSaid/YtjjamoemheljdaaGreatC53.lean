/-
  Layer 7: contracts (Qn).
-/
import Derived.Test.YtjjamoemheljdaaGreatC48
namespace Go.Proofs.YtjjamoemheljdaaGreat
set_option maxRecDepth 100000
set_option maxHeartbeats 8000000
set_option linter.unusedSimpArgs false
set_option linter.unusedVariables false
section
open Go.RowKit
theorem rdo_ln (p:Nat) (A:Option Addr) (n c:Nat) (es:List NE) (sp st:ByteArray) (av nv:Int) (Ab:Option Addr) (bl bc:Nat) (ab:List Nat) (w:World) (h:TIn w A es) (hn:es.length=n) (hR:Rt ⟨p,nds es⟩) (hs:sp.size≤1048576) (ht:st.size≤1048576) (hab:Bts w Ab bl ab)
    (q j r v:Nat) (hpe:peB sp=0) (hlk:zad (nds es) (pnB sp) 0 1=(q,j,0)) (hpt:peB st=0) (hlt:zad (nds es) (pnB st) 0 1=(r,v,0)):
    Calls Tryz.prog 17 #[.agg #[.int .i64 p,.slice A n c],.agg #[.int .u8 4,.string sp,.string st,.int .i64 av,.int .i64 nv,.slice Ab bl bc]] w
      (DoP w p w.heap.size none (actF ⟨p,nds es⟩ ⟨4,sp,st,av,nv,ab⟩ (pnB sp) (pnB st) q j r v).1.l (actF ⟨p,nds es⟩ ⟨4,sp,st,av,nv,ab⟩ (pnB sp) (pnB st) q j r v).2):=by
  obtain⟨w1,hw1⟩:∃w1,w1=(((w.alloc (.cells #[.int .i64 p,.slice A n c] 25)).alloc (.cells #[.int .u8 4,.string sp,.string st,.int .i64 av,.int .i64 nv,.slice Ab bl bc] 34)).alloc (.cells #[.int .i64 0,.slice none 0 0] 25)).alloc (.cells #[.int .i64 0,.int .i64 0,.int .i64 0,.int .u8 0,.int .i64 0,.int .i64 0,.slice none 0 0,.slice none 0 0] 41):=⟨_,rfl⟩
  have n1:New w w1:=by rw[hw1];exact (((kR.alloc _).alloc _).alloc _).alloc _
  have BT1:Hid (Blk w1 w.heap.size 25 [.int .i64 p,.slice A n c]):=by rw[hw1];exact (((Blk.made w _ _).alloc _).alloc _).alloc _
  have BC1:Hid (Blk w1 (w.heap.size+1) 34 [.int .u8 4,.string sp,.string st,.int .i64 av,.int .i64 nv,.slice Ab bl bc]):=by
    have:=Blk.made (w.alloc (.cells #[.int .i64 p,.slice A n c] 25)) 34 #[.int .u8 4,.string sp,.string st,.int .i64 av,.int .i64 nv,.slice Ab bl bc]
    rw[World.size_alloc] at this;rw[hw1];exact (this.alloc _).alloc _
  have BR1:Hid (Blk w1 (w.heap.size+1+1) 25 [.int .i64 0,.slice none 0 0]):=by
    have:=Blk.made ((w.alloc (.cells #[.int .i64 p,.slice A n c] 25)).alloc (.cells #[.int .u8 4,.string sp,.string st,.int .i64 av,.int .i64 nv,.slice Ab bl bc] 34)) 25 #[.int .i64 0,.slice none 0 0]
    rw[World.size_alloc,World.size_alloc] at this;rw[hw1];exact this.alloc _
  have BA1:Hid (Blk w1 (w.heap.size+1+1+1) 41 [.int .i64 0,.int .i64 0,.int .i64 0,.int .u8 0,.int .i64 0,.int .i64 0,.slice none 0 0,.slice none 0 0]):=by
    have:=Blk.made (((w.alloc (.cells #[.int .i64 p,.slice A n c] 25)).alloc (.cells #[.int .u8 4,.string sp,.string st,.int .i64 av,.int .i64 nv,.slice Ab bl bc] 34)).alloc (.cells #[.int .i64 0,.slice none 0 0] 25)) 41 #[.int .i64 0,.int .i64 0,.int .i64 0,.int .u8 0,.int .i64 0,.int .i64 0,.slice none 0 0,.slice none 0 0]
    rw[World.size_alloc,World.size_alloc,World.size_alloc] at this;rw[hw1];exact this
  have CC:=jH (zau p A n c es w1 (h.new n1) hn hR);have N1:=jH n1;have HW:=jH hw1;have RR:=jH hR;have HAB:=jH hab;obtain⟨D,hD⟩:∃D,D=actF ⟨p,nds es⟩ ⟨4,sp,st,av,nv,ab⟩ (pnB sp) (pnB st) q j r v:=⟨_,rfl⟩;rw[←hD];have HD:=jH hD;obtain⟨g1,hg1⟩:∃g,g=pN sp.data.toList:=⟨_,rfl⟩
  have e1:pnB sp=g1.map baL:=by rw[hg1];rfl
  have L1:Hid (g1.length≤6):=by rw[hg1];exact zcc _
  have CP1:Hid (∀u,Calls Tryz.prog 35 #[.string sp] u (RetP u g1 0)):=fun u=>by
    have:=zaj sp u hs
    rw[←hg1,show pE sp.data.toList=0 from hpe] at this;exact this
  rw[e1] at hlk;rw[e1] at HD;have HLK:=jH hlk;clear e1 hg1 hlk hpe hs;obtain⟨g2,hg2⟩:∃g,g=pN st.data.toList:=⟨_,rfl⟩
  have e2:pnB st=g2.map baL:=by rw[hg2];rfl
  have L2:Hid (g2.length≤6):=by rw[hg2];exact zcc _
  have CP2:Hid (∀u,Calls Tryz.prog 35 #[.string st] u (RetP u g2 0)):=fun u=>by
    have:=zaj st u ht
    rw[←hg2,show pE st.data.toList=0 from hpt] at this;exact this
  rw[e2] at hlt;rw[e2] at HD;have HLT:=jH hlt;clear e2 hg2 hlt hpt ht;clear h n1 hw1 hn hR hab hD;go_enter Tryz.func17,Tryz.ntmps17;generalize hqq:(bodyPost _ _ _:Exit→Act→World→Prop)=QQ
  go_upto_region 1 with fail
  rw[←HW.out];clear HW;obtain⟨gk,hgk⟩:∃gk,gk=w.heap.size:=⟨_,rfl⟩;rw[←hgk] at BT1 BC1 BR1 BA1;have GK:=jH hgk
  have GKS:Hid (∀u:World,New w u→gk≤u.heap.size):=fun u hu=>by rw[hgk];exact hu.size
  obtain⟨a0,a1⟩:=BT1.out.p2;rw[←hgk];clear hgk;go_wp2_with fail;refine CC.out.mono ?_;rintro e w2 ⟨A2,c2,es2,rfl,hL0,T2,k2⟩;have hL:nds es2=nds es:=hL0;clear hL0;obtain⟨w3,hw3⟩:∃w3,w3=(w2.setCell ⟨gk,0,none⟩ (.int .i64 p)).setCell ⟨gk,1,none⟩ (.slice A2 es2.length c2):=⟨_,rfl⟩;have BE:=BT1.out.kept k2 id;obtain⟨e0,e1⟩:=BE.p2;obtain⟨f0,f1⟩:=BE.f2
  have K3:Kept (·=gk) w2 w3:=by rw[hw3];exact (Kept.set1 _ _ _ _).setCell (p:=⟨gk,1,none⟩) (fun _=>rfl) _
  have BT3:Hid (Blk w3 gk 25 [.int .i64 p,.slice A2 es2.length c2]):=by rw[hw3];exact (BE.put 0 _).put 1 _
  have BC3:=jH ((BC1.out.kept k2 id).kept K3 (by omega));have BR3:=jH ((BR1.out.kept k2 id).kept K3 (by omega));have BA3:=jH ((BA1.out.kept k2 id).kept K3 (by omega));have T3:=jH (TOwn.far (T2.mono N1.out.size) K3 BE.at_ (by decide) (by decide) (by decide))
  have N3:Hid (New w w3):=by
    rw[hw3];exact ((N1.out.new k2).setCell (p:=⟨gk,0,none⟩) (fun hh=>absurd hh (by rw[GK.out];exact Nat.lt_irrefl _)) _).setCell (p:=⟨gk,1,none⟩) (fun hh=>absurd hh (by rw[GK.out];exact Nat.lt_irrefl _)) _
  have HW3:=jH hw3;rw[←hL] at RR HD HLK HLT;clear BT1 BC1 BR1 BA1 CC T2 k2 hw3 BE K3 a0 a1 hL
  go_upto_region 2 with fail
  rw[←HW3.out];clear HW3 e0 e1 f0 f1;have CR:=jH (zao p A2 es2.length c2 es2 w3 T3.out.in_ rfl RR.out);obtain⟨b0,b1⟩:=BT3.out.p2;go_wp2_with fail;refine CR.out.mono ?_;rintro e wb ⟨rfl,k4⟩;have BT:=jH (BT3.out.kept k4 id);have BC:=jH (BC3.out.kept k4 id);have BR:=jH (BR3.out.kept k4 id);have BA:=jH (BA3.out.kept k4 id);have HT:=jH (T3.out.new k4);have NW:=jH (N3.out.new k4);have AB:=jH (HAB.out.new (N3.out.new k4));have HWB:Hid (w.heap.size≤wb.heap.size):=NW.out.size
  have M48:Hid (es2.length≤48):=by have:=RR.out.len;rwa [zab] at this
  clear BT3 BC3 BR3 BA3 T3 N3 k4 b0 b1 CR HAB N1;generalize hm:es2.length=m at *;have LN:=jH hm;clear hm;have NB:Hid (New wb wb):=kR;obtain⟨a0,a1⟩:=(BC.out.kept NB.out id).p2;go_wp2_with fail;refine (CP1.out _).mono ?_;rintro e w5 ⟨G1,c1,rfl,O1,k5⟩;have N5:=jH k5;obtain⟨n1,hn1⟩:∃n1,n1=g1.length:=⟨_,rfl⟩
  have X1:Hid (∀u,New w5 u→Txs u G1 n1 g1):=fun u hu=>by rw[hn1];exact O1.txs.new hu
  have O1:Hid (∀x,G1=some x→At w5 x.block 9):=fun x hx=>(O1.at_ x hx).1
  rw[←hn1] at L1 ⊢;have LG1:=jH hn1;clear k5 a0 a1 hn1 CP1;have a0:=(BC.out.kept N5.out id).q0;have a2:=(BC.out.kept N5.out id).q2;go_wp2_with fail;refine (CP2.out _).mono ?_;rintro e w6 ⟨G2,cc2,rfl,O2,k6⟩;have N6:Hid (New wb w6):=N5.out.new k6;obtain⟨n2,hn2⟩:∃n2,n2=g2.length:=⟨_,rfl⟩
  have X2:Hid (∀u,New w6 u→Txs u G2 n2 g2):=fun u hu=>by rw[hn2];exact O2.txs.new hu
  have O2:Hid (∀x,G2=some x→At w6 x.block 9):=fun x hx=>(O2.at_ x hx).1
  have X1:Hid (∀u,New w6 u→Txs u G1 n1 g1):=fun u hu=>X1.out u (Kept.new k6 hu)
  have O1:Hid (∀x,G1=some x→At w6 x.block 9):=fun x hx=>(O1.out x hx).kept k6 id
  rw[←hn2] at L2 ⊢;have LG2:=jH hn2;clear k6 a0 a2 hn2 CP2;obtain⟨b0,b1⟩:=(BT.out.kept N6.out id).p2;have CL1:=jH (zat p A2 m c2 es2 G1 n1 c1 g1 w6 (HT.out.new N6.out).in_ LN.out RR.out (X1.out w6 kR) (by have:=L1.out;omega));rw[HLK.out] at CL1;go_wp2_with fail;refine CL1.out.mono ?_;rintro e w7 ⟨rfl,k7⟩;have N7:Hid (New wb w7):=N6.out.new k7
  have X1:Hid (∀u,New w7 u→Txs u G1 n1 g1):=fun u hu=>X1.out u (Kept.new k7 hu)
  have O1:Hid (∀x,G1=some x→At w7 x.block 9):=fun x hx=>(O1.out x hx).kept k7 id
  have X2:Hid (∀u,New w7 u→Txs u G2 n2 g2):=fun u hu=>X2.out u (Kept.new k7 hu)
  have O2:Hid (∀x,G2=some x→At w7 x.block 9):=fun x hx=>(O2.out x hx).kept k7 id
  clear k7 b0 b1 CL1;obtain⟨b0,b1⟩:=(BT.out.kept N7.out id).p2;have CL2:=jH (zat p A2 m c2 es2 G2 n2 cc2 g2 w7 (HT.out.new N7.out).in_ LN.out RR.out (X2.out w7 kR) (by have:=L2.out;omega));rw[HLT.out] at CL2;go_wp2_with fail;refine CL2.out.mono ?_;rintro e w8 ⟨rfl,k8⟩;have N8:Hid (New wb w8):=N7.out.new k8
  have X1:Hid (∀u,New w8 u→Txs u G1 n1 g1):=fun u hu=>X1.out u (Kept.new k8 hu)
  have X2:Hid (∀u,New w8 u→Txs u G2 n2 g2):=fun u hu=>X2.out u (Kept.new k8 hu)
  have O1:Hid (∀x,G1=some x→At w8 x.block 9):=fun x hx=>(O1.out x hx).kept k8 id
  have O2:Hid (∀x,G2=some x→At w8 x.block 9):=fun x hx=>(O2.out x hx).kept k8 id
  clear k8 b0 b1 CL2;have HP1:=jH (zbx RR.out HLK.out);clear HLK;have HP2:=jH (zbx RR.out HLT.out);clear HLT
  rcases Nat.eq_zero_or_pos j with hj0|hj0
  · subst hj0
    have EM:Hid (D=(⟨p,nds es2⟩,erA 12)):=by rw[Hid,HD.out];unfold actF;simp
    have a0:=(BC.out.kept N8.out id).q0;have BRZ:=jH (BR.out.kept N8.out id);have BAZ:=jH (BA.out.kept N8.out id);have BTZ:=BT.out.kept N8.out id;obtain⟨b0,b1⟩:=BTZ.p2;have HTZ:=jH (HT.out.new N8.out);have LNZ:=LN
    have KWZ:Hid (Kept (zak none) w w8):=(NW.out.new N8.out).mono fun _ _ f=>f.elim
    obtain⟨t0,t1⟩:=BRZ.out.p2;obtain⟨f0,f1⟩:=BRZ.out.f2;obtain⟨r0,r1,r2,r3,r4,r5,r6,r7⟩:=BAZ.out.p8;obtain⟨g0,g1,g2,g3,g4,g5,g6,g7⟩:=BAZ.out.f8;have HLD:Hid (((((((((((w8.setCell ⟨gk+1+1,0,none⟩ (.int .i64 p)).setCell ⟨gk+1+1,1,none⟩ (.slice (A2) m c2)).setCell ⟨gk+1+1+1,0,none⟩ (.int .i64 12)).setCell ⟨gk+1+1+1,1,none⟩ (.int .i64 0)).setCell ⟨gk+1+1+1,2,none⟩ (.int .i64 0)).setCell ⟨gk+1+1+1,3,none⟩ (.int .u8 0)).setCell ⟨gk+1+1+1,4,none⟩ (.int .i64 0)).setCell ⟨gk+1+1+1,5,none⟩ (.int .i64 0)).setCell ⟨gk+1+1+1,6,none⟩ (.slice none 0 0)).setCell ⟨gk+1+1+1,7,none⟩ (.slice none 0 0))=laid w8 (gk+1+1) (gk+1+1+1) p (A2) m c2 (erA 12) none 0 0 none 0 0):=rfl
    have DD:=jH (zag (w:=w) (A0:=none) (a:=erA 12) (p:=p) (c:=c2) (n:=m) (d':=0) (t':=0) (B':=none) (m:=0) (q:=0) (T':=none) BRZ.out BAZ.out (by have:=GK.out;omega) (by have:=GK.out;omega) HTZ.out LNZ.out rfl (OwnB.nil _ _ _) rfl (Txs.nil _ _) (fun _ h=>by cases h) rfl KWZ.out);have DB:=jH (zae (p:=p) (A:=A2) (n:=m) (c:=c2) (a:=erA 12) (d':=0) (t':=0) (B':=none) (m:=0) (q:=0) (T':=none) BRZ.out BAZ.out);clear HTZ KWZ;go_wp2_with fail;rw[HLD.out];generalize laid w8 (gk+1+1) (gk+1+1+1) p (A2) m c2 (erA 12) none 0 0 none 0 0=wf at *;have d0:=DB.out.1.cell 0;have d1:=DB.out.1.cell 1;have d2:=DB.out.2.cell 0
    have d3:=DB.out.2.cell 1;have d4:=DB.out.2.cell 2;have d5:=DB.out.2.cell 3;have d6:=DB.out.2.cell 4;have d7:=DB.out.2.cell 5;have d8:=DB.out.2.cell 6;have d9:=DB.out.2.cell 7;simp at d0 d1 d2 d3 d4 d5 d6 d7 d8 d9
    try simp only[Exit.then]
    rw[←hqq];refine bodyPost_ret (by simp[results,Tryz.results17,go_sem,d0,d1,d2,d3,d4,d5,d6,d7,d8,d9];try rfl) rfl ?_;rw[EM.out];exact DD.out
  have d0:(((j:Nat):Int) == 0)=false:=beq_eq_false_iff_ne.2 (by omega);obtain⟨y,hy⟩:=zce RR.out HP1.out (by omega);have hy:ndI (nds es2) j=some y:=hy;obtain⟨z,hz,hzy,hzm⟩:=zbg hy
  have hpl:posI (nds es2) j < m:=by have:=(List.getElem?_eq_some_iff.1 hz).1;rwa [LN.out] at this
  have hm48:=M48.out
  have CNy:Hid (∀u,New wb u→Calls Tryz.prog 25 #[.agg #[.int .i64 p,.slice A2 m c2],.int .i64 j] u (zaw u ((posI (nds es2) j:Nat):Int))):=fun u hu=>by
    have:=zam p A2 m c2 es2 j u (HT.out.new hu).in_ LN.out (by omega)
    rwa [zaz hy] at this
  obtain⟨ga,oa,z',eA,_⟩:=HT.out.in_.pos (i:=posI (nds es2) j) (by rw[LN.out];exact hpl)
  have ON:oa=0:=by
    have:=HT.out.1.2.2.2
    rcases this with ⟨e,_⟩|⟨g',sp,e,_⟩
    · rw[e] at eA;cases eA
    · rw[e] at eA;injection eA with eA;injection eA with _ e2;exact e2.symm
  subst ON;subst eA
  have ZC:Hid (∀u,New wb u→u.cell? ⟨gk,0,none⟩=some (.int .i64 p)∧u.cell? ⟨gk,1,none⟩=some (.slice (some ⟨ga,0,none⟩) m c2)∧u.cell? ⟨ga,posI (nds es2) j*5,none⟩=some (.int .i64 z.n.i)∧u.cell? ⟨ga,posI (nds es2) j*5+1,none⟩=some (.int .u8 z.n.k)∧u.cell? ⟨ga,posI (nds es2) j*5+2,none⟩=some (.int .i64 z.n.l) ∧
      u.cell? ⟨ga,posI (nds es2) j*5+3,none⟩=some (.slice z.A z.n.ns.length z.c)∧u.cell? ⟨ga,posI (nds es2) j*5+4,none⟩=some (.slice z.B z.n.b.length z.d)):=fun u hu=>by
    have b:=BT.out.kept hu id
    have:=((HT.out.new hu).in_.get hz).2
    rw[Nat.zero_add] at this;exact⟨b.cell 0,b.cell 1,this⟩
  have HY:=jH hy;have HZY:=jH hzy;have HZM:=jH (And.intro hz hzm);generalize hpj:posI (nds es2) j=pj at *
  have s0:(pj:Int) < (m:Int):=by omega
  have s1:(0:Int)≤(pj:Int):=by omega
  clear hy hz hzy hzm;have a0:=(BC.out.kept N8.out id).q0;have CNr:=jH (fun (uu:World) (hu:New w8 uu)=>CNy.out uu (N8.out.new hu));have ZCr:=jH (fun (uu:World) (hu:New w8 uu)=>ZC.out uu (N8.out.new hu));have NUr:Hid (New w8 w8):=kR;obtain⟨b0,b1,z0,z1,z2,z3,z4⟩:=ZCr.out w8 NUr.out;have hga:ga < w8.heap.size:=World.block_lt_of_cell? w8 _ z0;have hgk:gk < w8.heap.size:=World.block_lt_of_cell? w8 _ b0
  have MK:Hid (∀(wC:World),New wC (wC.alloc (.cells #[.int .i64 z.n.i,.int .u8 z.n.k,.int .i64 z.n.l,.slice z.A z.n.ns.length z.c,.slice z.B z.n.b.length z.d] 53))∧Blk (wC.alloc (.cells #[.int .i64 z.n.i,.int .u8 z.n.k,.int .i64 z.n.l,.slice z.A z.n.ns.length z.c,.slice z.B z.n.b.length z.d] 53)) wC.heap.size 53 [.int .i64 z.n.i,.int .u8 z.n.k,.int .i64 z.n.l,.slice z.A z.n.ns.length z.c,.slice z.B z.n.b.length z.d]):=fun wC=>⟨kR.alloc _,Blk.made wC _ _⟩
  have ZB:Hid (∀wx:World,wx.heap.size=w8.heap.size→∀wC,New (wx.alloc (.cells #[.int .i64 0,.int .u8 0,.int .i64 0,.slice none 0 0,.slice none 0 0] 53)) wC→Blk wC w8.heap.size 53 [.int .i64 0,.int .u8 0,.int .i64 0,.slice none 0 0,.slice none 0 0]):=fun wx hx wC hC=>by
    have:=(Blk.made wx 53 #[.int .i64 0,.int .u8 0,.int .i64 0,.slice none 0 0,.slice none 0 0]).kept hC id
    rwa [hx] at this
  have hgx:w8.heap.size≤w8.heap.size:=Nat.le_refl _
  have SETN:Hid (∀wC:World,New w8 wC→New w8 (((((wC.setCell ⟨w8.heap.size,0,none⟩ (.int .i64 z.n.i)).setCell ⟨w8.heap.size,1,none⟩ (.int .u8 z.n.k)).setCell ⟨w8.heap.size,2,none⟩ (.int .i64 z.n.l)).setCell ⟨w8.heap.size,3,none⟩ (.slice z.A z.n.ns.length z.c)).setCell ⟨w8.heap.size,4,none⟩ (.slice z.B z.n.b.length z.d))):=fun wC hC=>
    (((((hC.setCell (p:=⟨w8.heap.size,0,none⟩) (fun hh=>absurd hh (Nat.not_lt.2 hgx)) _).setCell (p:=⟨w8.heap.size,1,none⟩) (fun hh=>absurd hh (Nat.not_lt.2 hgx)) _).setCell (p:=⟨w8.heap.size,2,none⟩) (fun hh=>absurd hh (Nat.not_lt.2 hgx)) _).setCell (p:=⟨w8.heap.size,3,none⟩) (fun hh=>absurd hh (Nat.not_lt.2 hgx)) _).setCell (p:=⟨w8.heap.size,4,none⟩) (fun hh=>absurd hh (Nat.not_lt.2 hgx)) _)
  have SETB:Hid (∀wC:World,Blk wC w8.heap.size 53 [.int .i64 0,.int .u8 0,.int .i64 0,.slice none 0 0,.slice none 0 0]→Blk (((((wC.setCell ⟨w8.heap.size,0,none⟩ (.int .i64 z.n.i)).setCell ⟨w8.heap.size,1,none⟩ (.int .u8 z.n.k)).setCell ⟨w8.heap.size,2,none⟩ (.int .i64 z.n.l)).setCell ⟨w8.heap.size,3,none⟩ (.slice z.A z.n.ns.length z.c)).setCell ⟨w8.heap.size,4,none⟩ (.slice z.B z.n.b.length z.d)) w8.heap.size 53 [.int .i64 z.n.i,.int .u8 z.n.k,.int .i64 z.n.l,.slice z.A z.n.ns.length z.c,.slice z.B z.n.b.length z.d]):=fun wC hC=>
    (((((hC.put 0 (.int .i64 z.n.i)).put 1 (.int .u8 z.n.k)).put 2 (.int .i64 z.n.l)).put 3 (.slice z.A z.n.ns.length z.c)).put 4 (.slice z.B z.n.b.length z.d))
  clear hgx
  go_upto_region 32 with fail
  go_cut [16] from 21 to 284 (fun v wx=>∃gx:Nat,v=.pointer (some ⟨gx,0,none⟩)∧Hid (New w8 wx)∧Hid (Blk wx gx 53 [.int .i64 z.n.i,.int .u8 z.n.k,.int .i64 z.n.l,.slice z.A z.n.ns.length z.c,.slice z.B z.n.b.length z.d]))
  case first=>
    as_aux_lemma=>
      subst hqq
      go_region_law (first
        | (go_simp;go_at_call 25;refine (CNr.out _ (by first|exact NUr.out|exact NUr.out.drew)).mono ?_;rintro e wC ⟨rfl,k4⟩;have NC:Hid (New w8 wC):=(by first|exact NUr.out.new k4|exact NUr.out.drew.new k4);clear k4;obtain⟨t0,t1,t2,t3,t4,t5,t6⟩:=ZCr.out wC NC.out;have hgc:ga < wC.heap.size:=World.block_lt_of_cell? wC _ t2;have hgkc:gk < wC.heap.size:=World.block_lt_of_cell? wC _ t1)
        | (go_simp;go_at_call 25;refine (CNr.out _ (by first|exact NUr.out.alloc _|exact NUr.out.drew.alloc _)).mono ?_;rintro e wC ⟨rfl,k4⟩;have NC:Hid (New w8 wC):=(by first|exact (NUr.out.alloc _).new k4|exact (NUr.out.drew.alloc _).new k4);have BZ:=ZB.out w8 rfl wC (by first|exact k4|exact zbm k4);clear k4;obtain⟨t0,t1,t2,t3,t4,t5,t6⟩:=ZCr.out wC NC.out;obtain⟨f0,f1,f2,f3,f4⟩:=BZ.f5;have y0:=BZ.cell 0;have y1:=BZ.cell 1;have y2:=BZ.cell 2;have y3:=BZ.cell 3;have y4:=BZ.cell 4))
      all_goals
        simp only[Exit.then];refine (‹∀(a':Act) (w':World),Met _ a' w'→_›) _ _ ?_
        go_meet
        case rel=>
          first
            | (have hb:=SETB.out wC BZ
               have hn:=SETN.out wC NC.out
               exact⟨w8.heap.size,rfl,hn,hb⟩)
            | (have hn:=NC.out.new (MK.out wC).1
               have hb:=(MK.out wC).2
               exact⟨wC.heap.size,rfl,hn,hb⟩)
  case rest=>
    obtain⟨gx1,rfl,NX1,BX1⟩:=hcut;clear b0 b1 z0 z1 z2 z3 z4 hga hgk MK SETN SETB ZB CNr ZCr NUr;have NW1:Hid (New wb wc):=N8.out.new NX1.out
    have X1:Hid (∀u,New wc u→Txs u G1 n1 g1):=fun u hu=>X1.out u (NX1.out.new hu)
    have O1:Hid (∀x,G1=some x→At wc x.block 9):=fun x hx=>(O1.out x hx).kept NX1.out id
    have X2:Hid (∀u,New wc u→Txs u G2 n2 g2):=fun u hu=>X2.out u (NX1.out.new hu)
    have O2:Hid (∀x,G2=some x→At wc x.block 9):=fun x hx=>(O2.out x hx).kept NX1.out id
    have HD2:Hid (D=lnF ⟨p,nds es2⟩ (g2.map baL) j r v y):=by
      rw[Hid,HD.out];unfold actF;rw[if_neg (by simp),if_neg (by omega)]
      show (match ndI (nds es2) j with|none=>_|some n=>_)=_
      rw[HY.out]
      rfl
    have y1:=BX1.out.q1;have y2:=BX1.out.q2;have a0:=(BC.out.kept NW1.out id).q0
    go_upto_if 142 with fail
    go_upto_if 169 with fail
    by_cases hk2:z.n.k=2
    · have d1:(((z.n.k:Nat):Int) != 2)=false:=bne_eq_false_iff_eq.2 (by omega)
      by_cases hv:v=0
      · have d2:(((v:Nat):Int) != 0)=false:=bne_eq_false_iff_eq.2 (by omega)
        by_cases hl:6≤z.n.l
        · have d3:decide (6≤z.n.l)=true:=decide_eq_true hl
          have EM:Hid (D=(⟨p,nds es2⟩,erA 3)):=by
            rw[Hid,HD2.out];unfold lnF;rw[if_neg (by rw[←HZY.out];exact fun e=>e hk2),if_neg (by simpa using hv),if_pos (by rw[←HZY.out];exact hl)]
          clear hk2 HD2;generalize z.n.k=kz at *;generalize z.n.l=lz at *
          go_upto_if 182 with fail
          have BRZ:=jH (BR.out.kept NW1.out id);have BAZ:=jH (BA.out.kept NW1.out id);have BTZ:=BT.out.kept NW1.out id;obtain⟨b0,b1⟩:=BTZ.p2;have HTZ:=jH (HT.out.new NW1.out);have LNZ:=LN
          have KWZ:Hid (Kept (zak none) w wc):=(NW.out.new NW1.out).mono fun _ _ f=>f.elim
          obtain⟨t0,t1⟩:=BRZ.out.p2;obtain⟨f0,f1⟩:=BRZ.out.f2;obtain⟨r0,r1,r2,r3,r4,r5,r6,r7⟩:=BAZ.out.p8;obtain⟨g0,g1,g2,g3,g4,g5,g6,g7⟩:=BAZ.out.f8;have HLD:Hid (((((((((((wc.setCell ⟨gk+1+1,0,none⟩ (.int .i64 p)).setCell ⟨gk+1+1,1,none⟩ (.slice (some ⟨ga,0,none⟩) m c2)).setCell ⟨gk+1+1+1,0,none⟩ (.int .i64 3)).setCell ⟨gk+1+1+1,1,none⟩ (.int .i64 0)).setCell ⟨gk+1+1+1,2,none⟩ (.int .i64 0)).setCell ⟨gk+1+1+1,3,none⟩ (.int .u8 0)).setCell ⟨gk+1+1+1,4,none⟩ (.int .i64 0)).setCell ⟨gk+1+1+1,5,none⟩ (.int .i64 0)).setCell ⟨gk+1+1+1,6,none⟩ (.slice none 0 0)).setCell ⟨gk+1+1+1,7,none⟩ (.slice none 0 0))=laid wc (gk+1+1) (gk+1+1+1) p (some ⟨ga,0,none⟩) m c2 (erA 3) none 0 0 none 0 0):=rfl
          have DD:=jH (zag (w:=w) (A0:=none) (a:=erA 3) (p:=p) (c:=c2) (n:=m) (d':=0) (t':=0) (B':=none) (m:=0) (q:=0) (T':=none) BRZ.out BAZ.out (by have:=GK.out;omega) (by have:=GK.out;omega) HTZ.out LNZ.out rfl (OwnB.nil _ _ _) rfl (Txs.nil _ _) (fun _ h=>by cases h) rfl KWZ.out);have DB:=jH (zae (p:=p) (A:=some ⟨ga,0,none⟩) (n:=m) (c:=c2) (a:=erA 3) (d':=0) (t':=0) (B':=none) (m:=0) (q:=0) (T':=none) BRZ.out BAZ.out);clear HTZ KWZ;go_wp2_with fail;rw[HLD.out];generalize laid wc (gk+1+1) (gk+1+1+1) p (some ⟨ga,0,none⟩) m c2 (erA 3) none 0 0 none 0 0=wf at *;have d0:=DB.out.1.cell 0;have d1:=DB.out.1.cell 1
          have d2:=DB.out.2.cell 0;have d3:=DB.out.2.cell 1;have d4:=DB.out.2.cell 2;have d5:=DB.out.2.cell 3;have d6:=DB.out.2.cell 4;have d7:=DB.out.2.cell 5;have d8:=DB.out.2.cell 6;have d9:=DB.out.2.cell 7;simp at d0 d1 d2 d3 d4 d5 d6 d7 d8 d9
          try simp only[Exit.then]
          rw[←hqq];refine bodyPost_ret (by simp[results,Tryz.results17,go_sem,d0,d1,d2,d3,d4,d5,d6,d7,d8,d9];try rfl) rfl ?_;rw[EM.out];exact DD.out
        have d3:decide (6≤z.n.l)=false:=decide_eq_false hl
        have EM:Hid (D=(⟨p,linkE (nds es2) r (lst (g2.map baL)) j z.n.l⟩,erA 0)):=by
          rw[Hid,HD2.out];unfold lnF;rw[if_neg (by rw[←HZY.out];exact fun e=>e hk2),if_neg (by simpa using hv),if_neg (by rw[←HZY.out];exact hl),HZY.out]
        have hgne:g2.map baL≠[]:=by
          obtain⟨dd,hdd⟩:=RR.out.dep;obtain⟨_,_,hgl,_,_,_,_,_,_⟩:=HP2.out.dir RR.out hdd (.inr (by omega));rw[hgl];simp
        obtain⟨rn,hrn,hrk,hve,hro⟩:=dir_nd RR.out HP2.out hgne
        have hrj:r≠j:=fun e=>by
          have h1:=HY.out;have hrn:ndI (nds es2) r=some rn:=hrn;rw[e,h1] at hrn
          injection hrn with hrn
          have:=hk2
          rw[HZY.out,hrn] at this;omega
        have hzi:z.n.i=j:=by rw[HZY.out];exact (zaa HY.out).2
        have RN:Hid (ndI (lnkE (nds es2) j (z.n.l+1)) r=some rn∧OrdS rn.ns∧¬zbn (lst (g2.map baL)) rn.ns∧rn.ns.length≤300):=by
          have hrm:=(zaa hrn).1
          have:=RR.out.ns_le hrm
          refine⟨?_,hro,zci (RR.out.ent_ne hrm) (by rw[←hv];exact hve),by omega⟩;have h2:=upd_nd (L:=nds es2) (j:=j) (f:=fun n=>{ n with l:=z.n.l+1 }) (fun _ _=>rfl) r
          show ndI (updI (nds es2) j _) r=_
          rw[h2,if_neg hrj];exact hrn
        have HG2:Hid (0 < n2):=by
          have h1:=LG2.out
          rcases Nat.eq_zero_or_pos n2 with e|e
          · exact absurd (List.map_eq_nil_iff.2 (List.eq_nil_of_length_eq_zero (by omega))) hgne
          · exact e
        have LS:Hid (∀wC,New wc wC→∃es3,TOwn (wC.setCell ⟨ga,pj*5+2,none⟩ (.int .i64 (z.n.l+1:Nat))) w.heap.size (some ⟨ga,0,none⟩) c2 es3∧nds es3=lnkE (nds es2) j (z.n.l+1)∧es3.length=m∧Kept (·=ga) wc (wC.setCell ⟨ga,pj*5+2,none⟩ (.int .i64 (z.n.l+1:Nat)))):=fun wC hC=>by
          have hT:=HT.out.new (NW1.out.new hC);have hat:At wC ga 53:=(hT.1.at_ _ rfl).1;have hKS:Kept (·=ga) wC (wC.setCell ⟨ga,pj*5+2,none⟩ (.int .i64 (z.n.l+1:Nat))):=Kept.set1 _ _ _ _;have hXo:=hT.2 z (List.mem_of_getElem? HZM.out.1);refine⟨es2.set pj { z with n:={ z.n with l:=z.n.l+1 } },?_,?_,by rw[List.length_set];exact LN.out,(Kept.mono (S':=(·=ga)) hC fun _ _ f=>f.elim).setCell (p:=⟨ga,pj*5+2,none⟩) (fun _=>rfl) _⟩
          · refine TOwn.set hT HZM.out.1 (j:=2) (by omega) rfl rfl ⟨?_,?_⟩
            · exact hXo.1.kept hKS fun a ha e2=>(hXo.1.at_ a ha).1.ne_of hat (by decide) e2
            · exact hXo.2.kept hKS fun a ha e2=>(hXo.2.at_ a ha).1.ne_of hat (by decide) e2
          · rw[nds_set]
            have:=upd_set RR.out.ord (zbc HZM.out.1) (fun n=>{ n with l:=z.n.l+1 })
            rw[←this,hzi]
            rfl
        have FZ:Hid (∀u,New wc u→u.frozen? ⟨ga,pj*5+2,none⟩=false):=fun u hu=>by
          rcases (HT.out.new (NW1.out.new hu)).1.2.2.2 with ⟨e,_⟩|⟨g',sp,e,_,hb,_⟩
          · cases e
          · injection e with e
            injection e with e _
            subst e;exact hb.free _
        clear hk2 HD2 HD hgne hrn hrk hve hro hrj hzi HP1 HP2 X1 O1 HZM HY HZY BX1 NX1;generalize z.n.k=kz at *;generalize z.n.l=lz at *
        have wl:IntKind.i64.wrap (((lz:Nat):Int)+1)=((lz+1:Nat):Int):=by rw[IntKind.wrap_i64];omega
        go_upto_region 49 with fail
        clear hv d2;obtain⟨k2,hk2⟩:∃k,n2=k+1:=⟨n2 - 1,by have:=HG2.out;omega⟩;subst hk2
        have ki2:k2≤5:=by have:=L2.out;omega
        obtain⟨gg2,o2,x2,eG2,hx2,_⟩:=(X2.out wc kR).at_ (j:=k2) (by omega);subst eG2
        have S2:Hid (∀u,New wc u→u.cell? ⟨gg2,o2+k2,none⟩=some (.string (baL x2))):=fun u hu=>by
          obtain⟨b',o',x',e,hx',hc⟩:=(X2.out u hu).at_ (j:=k2) (by omega)
          injection e with e;injection e with e1 e2;subst e1 e2;rw[hx2] at hx';injection hx' with hx';subst hx';exact hc
        have E2:Hid (lst (g2.map baL)=baL x2):=lst_map LG2.out.symm hx2;clear hx2
        have sk2:((k2:Nat):Int) < ((k2:Nat):Int)+1:=by omega
        have wk2:IntKind.i64.wrap ((k2:Nat):Int)=((k2:Nat):Int):=by rw[IntKind.wrap_i64];omega
        rw[E2.out] at RN EM;obtain⟨b0,b1,_⟩:=ZC.out wc NW1.out;have XX:=X2.out wc kR;generalize wc=wd at *;subst hqq
        go_cut [] from 21 to 284 (fun wx=>∃es3,Hid (TOwn wx w.heap.size (some ⟨ga,0,none⟩) c2 es3)∧Hid (nds es3=lnkE (nds es2) j (lz+1))∧Hid (es3.length=m)∧Hid (Kept (·=ga) wd wx))
        case first=>
          refine reg49 gk ga j p m c2 pj lz wd _ ⟨b0,b1⟩ (by omega) (by have:=of_decide_eq_false d3;omega) (fun u hu=>CNy.out u (NW1.out.new hu)) (fun u hu=>⟨(ZC.out u (NW1.out.new hu)).2.2.2.2.1,FZ.out u hu⟩) ?_;intro v185 v186 v187 v188 v189 v190 v191 v192 v193 v194 v195 wC NC;obtain⟨es3,h1,h2,h3,h4⟩:=LS.out wC NC;simp only[Exit.then];refine (‹∀(a':Act) (w':World),Met _ a' w'→_›) _ _ ?_
          go_meet
          case rel=>exact⟨es3,h1,h2,h3,h4⟩
        case rest=>
          obtain⟨es3,T3,L3,LN3,K3⟩:=hcut;have HAT:Hid (At wd ga 53):=((HT.out.new NW1.out).1.at_ _ rfl).1
          have FARR:∀(gg:Nat) (t:TypeId),At wd gg t→53≠t→¬gg=ga:=fun gg t hg hne e=>HAT.out.ne_of (e ▸ hg) hne rfl
          have GAW:w.heap.size≤ga:=(HT.out.1.at_ _ rfl).2
          have NWX:Hid (New w wc):=(NW.out.new NW1.out).trans K3.out fun i hi e=>absurd hi (by rw[e];exact Nat.not_lt.2 GAW)
          have B1:=BR.out.kept NW1.out id;have B2:=BA.out.kept NW1.out id;have B3:=BT.out.kept NW1.out id;have BRX:=jH (B1.kept K3.out (FARR _ _ B1.at_ (by decide)));have BAX:=jH (B2.kept K3.out (FARR _ _ B2.at_ (by decide)));have BTX:=jH (B3.kept K3.out (FARR _ _ B3.at_ (by decide)))
          have X2:Hid (∀u,New wc u→Txs u (some ⟨gg2,o2,none⟩) (k2+1) g2):=fun u hu=>(XX.kept K3.out fun x hx=>FARR _ _ (O2.out x hx) (by decide)).new hu
          have cs2:=S2.out wd kR
          have HG1:Hid (¬(gk=ga∨gk=gk+1+1∨gk=gk+1+1+1)):=by
            have:=FARR gk _ B3.at_ (by decide)
            rintro (e|e|e)
            · exact this e
            · omega
            · omega
          have HG2:Hid (¬(gg2=ga∨gg2=gk+1+1∨gg2=gk+1+1+1)):=by
            have h0:=O2.out ⟨gg2,o2,none⟩ rfl;rintro (e|e|e)
            · exact FARR gg2 _ h0 (by decide) e
            · exact h0.ne_of B1.at_ (by decide) e
            · exact h0.ne_of B2.at_ (by decide) e
          have HG3:Hid (¬gk+1+1=ga∧¬gk+1+1+1=ga):=⟨FARR _ _ B1.at_ (by decide),FARR _ _ B2.at_ (by decide)⟩
          have S2X:Hid (∀u,New wc u→u.cell? ⟨gg2,o2+k2,none⟩=some (.string (baL x2))):=fun u hu=>hu.cell (K3.out.cell cs2 (show ¬gg2=ga from FARR gg2 _ (O2.out ⟨gg2,o2,none⟩ rfl) (by decide))) id
          clear S2 XX X2 O2 B1 B2 B3 FARR HAT K3 LS FZ b0 b1 CNy ZC cs2;rw[←L3.out] at RN
          have OR3:Hid (OrdN (nds es3)):=by rw[Hid,L3.out];exact zcq (fun _ _=>rfl) RR.out.ord
          have CL:Hid (∀u,New wc u→Calls Tryz.prog 39 #[.agg #[.int .i64 p,.slice (some ⟨ga,0,none⟩) m c2],.int .i64 r,.string (baL x2),.int .i64 j] u (RowP u p w.heap.size (some ⟨ga,0,none⟩) c2 (addE (nds es3) r (baL x2) j))):=fun u hu=>
            rwith_any p (some ⟨ga,0,none⟩) m c2 w.heap.size es3 r j (baL x2) rn u (T3.out.new hu) (Nat.le_trans NWX.out.size hu.size) LN3.out (by omega) OR3.out RN.out.1 RN.out.2.1 RN.out.2.2.1 RN.out.2.2.2
          have HLN:nds es3=lnkE (nds es2) j (lz+1):=L3.out
          have HLQ:addE (nds es3) r (baL x2) j=linkE (nds es2) r (baL x2) j lz:=by rw[HLN];rfl
          have HLQ:=jH HLQ;clear HLN;obtain⟨b0,b1⟩:=BTX.out.p2;have c0:=S2X.out wc kR
          go_upto_region 50 with fail
          generalize wc=wq at *
          skip
          go_cut [] from 21 to 284 (fun wx=>∃(A3:Option Addr) (k3 c3:Nat),Hid (DoP w p w.heap.size none (linkE (nds es2) r (baL x2) j lz) (erA 0) (.returned (.tuple #[.agg #[.int .i64 p,.slice A3 k3 c3],.agg #[.int .i64 ((erA 0).e:Nat),.int .i64 ((erA 0).i:Nat),.int .i64 ((erA 0).n:Nat),.int .u8 ((erA 0).k:Nat),.int .i64 ((erA 0).l:Nat),.int .i64 ((erA 0).s:Nat),.slice none 0 0,.slice none 0 0]])) wx)∧Hid (Blk wx (gk+1+1) 25 [.int .i64 p,.slice A3 k3 c3])∧Hid (Blk wx (gk+1+1+1) 41 [.int .i64 ((erA 0).e:Nat),.int .i64 ((erA 0).i:Nat),.int .i64 ((erA 0).n:Nat),.int .u8 ((erA 0).k:Nat),.int .i64 ((erA 0).l:Nat),.int .i64 ((erA 0).s:Nat),.slice none 0 0,.slice none 0 0]))
          case first=>
            refine reg50 gk (gk+1+1) (gk+1+1+1) ga gg2 o2 k2 cc2 j r p m c2 w.heap.size (baL x2) (addE (nds es3) r (baL x2) j) wq _ ⟨b0,b1,c0⟩ ki2 HG1.out HG2.out (by omega) HG3.out.1 HG3.out.2 BRX.out BAX.out (fun u hu=>CL.out u hu) ?_;intro v196 v197 v198 v199 v200 v201 v202 v203 v204 v205 v206 es4 we HL4 TR4 K4;have CF:=jH (zda T3.out K4 kR NWX.out BRX.out BAX.out);have DD:=jH (zag (w:=w) (A0:=none) (a:=erA 0) (p:=p) (c:=c2) (n:=es4.length) (d':=0) (t':=0) (B':=none) (m:=0) (q:=0) (T':=none) CF.out.2.1 CF.out.2.2 (by have:=GK.out;omega) (by have:=GK.out;omega) TR4 rfl (HL4.trans HLQ.out) (OwnB.nil _ _ _) rfl (Txs.nil _ _) (fun _ h=>by cases h) rfl CF.out.1)
            have DB:=jH (zae (p:=p) (A:=some ⟨ga,0,none⟩) (n:=es4.length) (c:=c2) (a:=erA 0) (d':=0) (t':=0) (B':=none) (m:=0) (q:=0) (T':=none) CF.out.2.1 CF.out.2.2);simp only[Exit.then];refine (‹∀(a':Act) (w':World),Met _ a' w'→_›) _ _ ?_
            go_meet
            case rel=>exact⟨some ⟨ga,0,none⟩,es4.length,c2,DD.out,DB.out.1,DB.out.2⟩
          case rest=>
            obtain⟨A3,k3,c3,DD,BR9,BA9⟩:=hcut;generalize hqq:(bodyPost _ _ _:Exit→Act→World→Prop)=QQ at *;have d0:=BR9.out.cell 0;have d1:=BR9.out.cell 1;have d2:=BA9.out.cell 0;have d3:=BA9.out.cell 1;have d4:=BA9.out.cell 2;have d5:=BA9.out.cell 3;have d6:=BA9.out.cell 4;have d7:=BA9.out.cell 5;have d8:=BA9.out.cell 6;have d9:=BA9.out.cell 7;simp at d0 d1 d2 d3 d4 d5 d6 d7 d8 d9;go_wp2_with fail
            try simp only[Exit.then]
            rw[←hqq];refine bodyPost_ret (by simp[results,Tryz.results17,go_sem,d0,d1,d2,d3,d4,d5,d6,d7,d8,d9];try rfl) rfl ?_;rw[EM.out];exact DD.out
      · have d2:(((v:Nat):Int) != 0)=true:=bne_iff_ne.2 (by omega)
        have EM:Hid (D=(⟨p,nds es2⟩,erA 13)):=by
          rw[Hid,HD2.out];unfold lnF;rw[if_neg (by rw[←HZY.out];exact fun e=>e hk2),if_pos hv]
        clear hk2 HD2 y2;generalize z.n.k=kz at *
        go_upto_if 177 with fail
        have BRZ:=jH (BR.out.kept NW1.out id);have BAZ:=jH (BA.out.kept NW1.out id);have BTZ:=BT.out.kept NW1.out id;obtain⟨b0,b1⟩:=BTZ.p2;have HTZ:=jH (HT.out.new NW1.out);have LNZ:=LN
        have KWZ:Hid (Kept (zak none) w wc):=(NW.out.new NW1.out).mono fun _ _ f=>f.elim
        obtain⟨t0,t1⟩:=BRZ.out.p2;obtain⟨f0,f1⟩:=BRZ.out.f2;obtain⟨r0,r1,r2,r3,r4,r5,r6,r7⟩:=BAZ.out.p8;obtain⟨g0,g1,g2,g3,g4,g5,g6,g7⟩:=BAZ.out.f8;have HLD:Hid (((((((((((wc.setCell ⟨gk+1+1,0,none⟩ (.int .i64 p)).setCell ⟨gk+1+1,1,none⟩ (.slice (some ⟨ga,0,none⟩) m c2)).setCell ⟨gk+1+1+1,0,none⟩ (.int .i64 13)).setCell ⟨gk+1+1+1,1,none⟩ (.int .i64 0)).setCell ⟨gk+1+1+1,2,none⟩ (.int .i64 0)).setCell ⟨gk+1+1+1,3,none⟩ (.int .u8 0)).setCell ⟨gk+1+1+1,4,none⟩ (.int .i64 0)).setCell ⟨gk+1+1+1,5,none⟩ (.int .i64 0)).setCell ⟨gk+1+1+1,6,none⟩ (.slice none 0 0)).setCell ⟨gk+1+1+1,7,none⟩ (.slice none 0 0))=laid wc (gk+1+1) (gk+1+1+1) p (some ⟨ga,0,none⟩) m c2 (erA 13) none 0 0 none 0 0):=rfl
        have DD:=jH (zag (w:=w) (A0:=none) (a:=erA 13) (p:=p) (c:=c2) (n:=m) (d':=0) (t':=0) (B':=none) (m:=0) (q:=0) (T':=none) BRZ.out BAZ.out (by have:=GK.out;omega) (by have:=GK.out;omega) HTZ.out LNZ.out rfl (OwnB.nil _ _ _) rfl (Txs.nil _ _) (fun _ h=>by cases h) rfl KWZ.out);have DB:=jH (zae (p:=p) (A:=some ⟨ga,0,none⟩) (n:=m) (c:=c2) (a:=erA 13) (d':=0) (t':=0) (B':=none) (m:=0) (q:=0) (T':=none) BRZ.out BAZ.out);clear HTZ KWZ;go_wp2_with fail;rw[HLD.out];generalize laid wc (gk+1+1) (gk+1+1+1) p (some ⟨ga,0,none⟩) m c2 (erA 13) none 0 0 none 0 0=wf at *;have d0:=DB.out.1.cell 0;have d1:=DB.out.1.cell 1
        have d2:=DB.out.2.cell 0;have d3:=DB.out.2.cell 1;have d4:=DB.out.2.cell 2;have d5:=DB.out.2.cell 3;have d6:=DB.out.2.cell 4;have d7:=DB.out.2.cell 5;have d8:=DB.out.2.cell 6;have d9:=DB.out.2.cell 7;simp at d0 d1 d2 d3 d4 d5 d6 d7 d8 d9
        try simp only[Exit.then]
        rw[←hqq];refine bodyPost_ret (by simp[results,Tryz.results17,go_sem,d0,d1,d2,d3,d4,d5,d6,d7,d8,d9];try rfl) rfl ?_;rw[EM.out];exact DD.out
    · have d1:(((z.n.k:Nat):Int) != 2)=true:=bne_iff_ne.2 (by omega)
      have EM:Hid (D=(⟨p,nds es2⟩,erA 14)):=by
        rw[Hid,HD2.out];unfold lnF;rw[if_pos (by rw[←HZY.out];exact hk2)]
      clear hk2 HD2 y2;generalize z.n.k=kz at *
      go_upto_if 173 with fail
      have BRZ:=jH (BR.out.kept NW1.out id);have BAZ:=jH (BA.out.kept NW1.out id);have BTZ:=BT.out.kept NW1.out id;obtain⟨b0,b1⟩:=BTZ.p2;have HTZ:=jH (HT.out.new NW1.out);have LNZ:=LN
      have KWZ:Hid (Kept (zak none) w wc):=(NW.out.new NW1.out).mono fun _ _ f=>f.elim
      obtain⟨t0,t1⟩:=BRZ.out.p2;obtain⟨f0,f1⟩:=BRZ.out.f2;obtain⟨r0,r1,r2,r3,r4,r5,r6,r7⟩:=BAZ.out.p8;obtain⟨g0,g1,g2,g3,g4,g5,g6,g7⟩:=BAZ.out.f8;have HLD:Hid (((((((((((wc.setCell ⟨gk+1+1,0,none⟩ (.int .i64 p)).setCell ⟨gk+1+1,1,none⟩ (.slice (some ⟨ga,0,none⟩) m c2)).setCell ⟨gk+1+1+1,0,none⟩ (.int .i64 14)).setCell ⟨gk+1+1+1,1,none⟩ (.int .i64 0)).setCell ⟨gk+1+1+1,2,none⟩ (.int .i64 0)).setCell ⟨gk+1+1+1,3,none⟩ (.int .u8 0)).setCell ⟨gk+1+1+1,4,none⟩ (.int .i64 0)).setCell ⟨gk+1+1+1,5,none⟩ (.int .i64 0)).setCell ⟨gk+1+1+1,6,none⟩ (.slice none 0 0)).setCell ⟨gk+1+1+1,7,none⟩ (.slice none 0 0))=laid wc (gk+1+1) (gk+1+1+1) p (some ⟨ga,0,none⟩) m c2 (erA 14) none 0 0 none 0 0):=rfl
      have DD:=jH (zag (w:=w) (A0:=none) (a:=erA 14) (p:=p) (c:=c2) (n:=m) (d':=0) (t':=0) (B':=none) (m:=0) (q:=0) (T':=none) BRZ.out BAZ.out (by have:=GK.out;omega) (by have:=GK.out;omega) HTZ.out LNZ.out rfl (OwnB.nil _ _ _) rfl (Txs.nil _ _) (fun _ h=>by cases h) rfl KWZ.out);have DB:=jH (zae (p:=p) (A:=some ⟨ga,0,none⟩) (n:=m) (c:=c2) (a:=erA 14) (d':=0) (t':=0) (B':=none) (m:=0) (q:=0) (T':=none) BRZ.out BAZ.out);clear HTZ KWZ;go_wp2_with fail;rw[HLD.out];generalize laid wc (gk+1+1) (gk+1+1+1) p (some ⟨ga,0,none⟩) m c2 (erA 14) none 0 0 none 0 0=wf at *;have d0:=DB.out.1.cell 0;have d1:=DB.out.1.cell 1
      have d2:=DB.out.2.cell 0;have d3:=DB.out.2.cell 1;have d4:=DB.out.2.cell 2;have d5:=DB.out.2.cell 3;have d6:=DB.out.2.cell 4;have d7:=DB.out.2.cell 5;have d8:=DB.out.2.cell 6;have d9:=DB.out.2.cell 7;simp at d0 d1 d2 d3 d4 d5 d6 d7 d8 d9
      try simp only[Exit.then]
      rw[←hqq];refine bodyPost_ret (by simp[results,Tryz.results17,go_sem,d0,d1,d2,d3,d4,d5,d6,d7,d8,d9];try rfl) rfl ?_;rw[EM.out];exact DD.out
end
end Go.Proofs.YtjjamoemheljdaaGreat
