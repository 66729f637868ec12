/-
  Layer 7: contracts (Qa).
-/
import Derived.Test.YtjjamoemheljdaaGreatC14
namespace Go.Proofs.YtjjamoemheljdaaGreat
set_option maxRecDepth 100000
set_option maxHeartbeats 8000000
set_option linter.unusedSimpArgs false
set_option linter.unusedVariables false
section
open Go.RowKit
theorem rbytes_lim (p:Nat) (A:Option Addr) (n c B:Nat) (es:List NE) (j k:Nat) (y:ND) (sp st:ByteArray) (av nv:Nat) (Ab:Option Addr) (bl bc:Nat) (w:World) (h:TOwn w B A c es) (hn:es.length=n) (hm:n≤1000) (hy:ndI (nds es) j=some y) (hp:p≤255) (x:Nat) (hk:y.k=2) (hbad:k=8∧8*p < nv∧x=3∨k=7∧bl=0∧x=0∨k=7∧0 < bl∧8*p < av+bl∧x=3):
  Calls Tryz.prog 41 #[.agg #[.int .i64 p,.slice A n c],.int .i64 j,.agg #[.int .u8 k,.string sp,.string st,.int .i64 av,.int .i64 nv,.slice Ab bl bc]] w
   (DoP w p B A (nds es) (erA x)):=by
 obtain⟨z,hx,hxy,hxm⟩:=zbg hy
 have hpl:posI (nds es) j < n:=by have:=(List.getElem?_eq_some_iff.1 hx).1;rwa [hn] at this
 obtain⟨w1,hw1⟩:∃w1,w1=(((w.alloc (.cells #[.int .i64 p,.slice A n c] 25)).alloc (.cells #[.int .u8 k,.string sp,.string st,.int .i64 av,.int .i64 nv,.slice Ab bl bc] 34)).alloc (.cells #[.int .i64 0,.slice none 0 0] 25)).alloc (.cells #[.int .i64 0,.int .i64 0,.int .i64 0,.int .u8 0,.int .i64 0,.int .i64 0,.slice none 0 0,.slice none 0 0] 41):=⟨_,rfl⟩
 have n1:New w w1:=by rw[hw1];exact (((kR.alloc _).alloc _).alloc _).alloc _
 have BT:Hid (Blk w1 w.heap.size 25 [.int .i64 p,.slice A n c]):=by rw[hw1];exact (((Blk.made w _ _).alloc _).alloc _).alloc _
 have BC:Hid (Blk w1 (w.heap.size+1) 34 [.int .u8 k,.string sp,.string st,.int .i64 av,.int .i64 nv,.slice Ab bl bc]):=by
  have:=Blk.made (w.alloc (.cells #[.int .i64 p,.slice A n c] 25)) 34 #[.int .u8 k,.string sp,.string st,.int .i64 av,.int .i64 nv,.slice Ab bl bc]
  rw[World.size_alloc] at this;rw[hw1];exact (this.alloc _).alloc _
 have BR:Hid (Blk w1 (w.heap.size+1+1) 25 [.int .i64 0,.slice none 0 0]):=by
  have:=Blk.made ((w.alloc (.cells #[.int .i64 p,.slice A n c] 25)).alloc (.cells #[.int .u8 k,.string sp,.string st,.int .i64 av,.int .i64 nv,.slice Ab bl bc] 34)) 25 #[.int .i64 0,.slice none 0 0]
  rw[World.size_alloc,World.size_alloc] at this;rw[hw1];exact this.alloc _
 have BA:Hid (Blk w1 (w.heap.size+1+1+1) 41 [.int .i64 0,.int .i64 0,.int .i64 0,.int .u8 0,.int .i64 0,.int .i64 0,.slice none 0 0,.slice none 0 0]):=by
  have:=Blk.made (((w.alloc (.cells #[.int .i64 p,.slice A n c] 25)).alloc (.cells #[.int .u8 k,.string sp,.string st,.int .i64 av,.int .i64 nv,.slice Ab bl bc] 34)).alloc (.cells #[.int .i64 0,.slice none 0 0] 25)) 41 #[.int .i64 0,.int .i64 0,.int .i64 0,.int .u8 0,.int .i64 0,.int .i64 0,.slice none 0 0,.slice none 0 0]
  rw[World.size_alloc,World.size_alloc,World.size_alloc] at this;rw[hw1];exact this
 have CN:Hid (∀u,New w1 u→Calls Tryz.prog 25 #[.agg #[.int .i64 p,.slice A n c],.int .i64 j] u (zaw u ((posI (nds es) j:Nat):Int))):=fun u hu=>by
  have:=zam p A n c es j u ((h.new n1).new hu).in_ hn (by omega)
  rwa [zaz hy] at this
 have GT:Hid (w.heap.size≤w.heap.size+1+1):=by show _≤_;omega
 have GA:Hid (w.heap.size≤w.heap.size+1+1+1):=by show _≤_;omega
 obtain⟨ga,oa,z',eA,_⟩:=(h.new n1).in_.pos (i:=posI (nds es) j) (by rw[hn];exact hpl);have H:=jH (h.new n1);have N1:=jH n1;have HW:=jH hw1;have LN:=jH hn;subst eA
 have XC:Hid (∀u,New w1 u→u.cell? ⟨ga,oa+posI (nds es) j*5,none⟩=some (.int .i64 z.n.i)∧u.cell? ⟨ga,oa+posI (nds es) j*5+1,none⟩=some (.int .u8 z.n.k)∧u.cell? ⟨ga,oa+posI (nds es) j*5+2,none⟩=some (.int .i64 z.n.l) ∧
   u.cell? ⟨ga,oa+posI (nds es) j*5+3,none⟩=some (.slice z.A z.n.ns.length z.c)∧u.cell? ⟨ga,oa+posI (nds es) j*5+4,none⟩=some (.slice z.B z.n.b.length z.d)):=fun u hu=>((H.out.new hu).in_.get hx).2
 have HK:Hid (z.n.k=2):=by rw[hxy];exact hk
 have HB:=jH hbad;clear h n1 hw1 hx hxy hxm hy hn hbad hk;generalize posI (nds es) j=pj at *;go_enter Tryz.func41,Tryz.ntmps41;go_wp2_with fail;rw[←HW.out];clear HW;obtain⟨gk,hgk⟩:∃gk,gk=w.heap.size:=⟨_,rfl⟩;rw[←hgk] at BT BC BR BA GT GA ⊢;have GK:=jH hgk;clear hgk;refine (CN.out w1 kR).mono ?_;rintro e w2 ⟨rfl,k2⟩;obtain⟨w3,hw3⟩:∃w3,w3=w2.alloc (.cells #[.int .i64 z.n.i,.int .u8 z.n.k,.int .i64 z.n.l,.slice z.A z.n.ns.length z.c,.slice z.B z.n.b.length z.d] 53):=⟨_,rfl⟩
 have N3:Hid (New w1 w3):=by rw[hw3];exact Kept.alloc k2 _
 have BX:Hid (Blk w3 w2.heap.size 53 [.int .i64 z.n.i,.int .u8 z.n.k,.int .i64 z.n.l,.slice z.A z.n.ns.length z.c,.slice z.B z.n.b.length z.d]):=by rw[hw3];exact Blk.made w2 _ _
 have HW3:=jH hw3;obtain⟨x0,x1,x2,x3,x4⟩:=XC.out w2 k2;obtain⟨b0,b1⟩:=(BT.out.kept k2 id).p2
 have s0:(pj:Int) < (n:Int):=by omega
 clear CN hw3 k2
 go_upto_if 25 with fail
 rw[←HW3.out];clear HW3 x0 x1 x2 x3 x4 b0 b1;generalize w2.heap.size=gx at *;have HT3:=jH (H.out.new N3.out);have BT3:=jH (BR.out.kept N3.out id);have BA3:=jH (BA.out.kept N3.out id)
 have KW3:Hid (Kept (zak (some ⟨ga,oa,none⟩)) w w3):=(N1.out.new N3.out).mono fun _ _ f=>f.elim
 obtain⟨b0,b1⟩:=(BT.out.kept N3.out id).p2;have a3:=(BC.out.kept N3.out id).q3;have a0:=(BC.out.kept N3.out id).q0;have a5:=(BC.out.kept N3.out id).q5;have a4:=(BC.out.kept N3.out id).q4;obtain⟨t0,t1⟩:=BT3.out.p2;obtain⟨f0,f1⟩:=BT3.out.f2;obtain⟨r0,r1,r2,r3,r4,r5,r6,r7⟩:=BA3.out.p8;obtain⟨g0,g1,g2,g3,g4,g5,g6,g7⟩:=BA3.out.f8
 have e1:(((z.n.k:Nat):Int) != 2)=false:=by rw[HK.out];rfl
 have e2:decide (((av:Nat):Int) < 0)=false:=decide_eq_false (by omega);have e3:decide (((nv:Nat):Int) < 0)=false:=decide_eq_false (by omega)
 rcases HB.out with ⟨hk8,hlim,hx⟩|⟨hk7,hb0,hx⟩|⟨hk7,hb1,hlim,hx⟩
 ·subst hk8 hx;clear HB;have HLD:((((((((((w3.setCell ⟨gk+1+1,0,none⟩ (.int .i64 p)).setCell ⟨gk+1+1,1,none⟩ (.slice (some ⟨ga,oa,none⟩) n c)).setCell ⟨gk+1+1+1,0,none⟩ (.int .i64 3)).setCell ⟨gk+1+1+1,1,none⟩ (.int .i64 0)).setCell ⟨gk+1+1+1,2,none⟩ (.int .i64 0)).setCell ⟨gk+1+1+1,3,none⟩ (.int .u8 0)).setCell ⟨gk+1+1+1,4,none⟩ (.int .i64 0)).setCell ⟨gk+1+1+1,5,none⟩ (.int .i64 0)).setCell ⟨gk+1+1+1,6,none⟩ (.slice none 0 0)).setCell ⟨gk+1+1+1,7,none⟩ (.slice none 0 0))=laid w3 (gk+1+1) (gk+1+1+1) p (some ⟨ga,oa,none⟩) n c (erA 3) none 0 0 none 0 0:=rfl;have DD:=jH (zag (w:=w) (A0:=(some ⟨ga,oa,none⟩)) (a:=erA 3) (p:=p) (c:=c) (n:=n) (d':=0) (t':=0) (B':=none) (m:=0) (q:=0) (T':=none) BT3.out BA3.out (by have:=GK.out;omega) (by have:=GK.out;omega) HT3.out LN.out rfl (OwnB.nil _ _ _) rfl (Txs.nil _ _) (fun _ h=>by cases h) rfl KW3.out)
  have DB:=jH (zae (p:=p) (A:=(some ⟨ga,oa,none⟩)) (n:=n) (c:=c) (a:=erA 3) (B':=none) (m:=0) (d':=0) (T':=none) (q:=0) (t':=0) BT3.out BA3.out);have HLD2:=jH HLD;clear HLD;go_wp2_with fail;rw[HLD2.out];generalize laid w3 (gk+1+1) (gk+1+1+1) p (some ⟨ga,oa,none⟩) n c (erA 3) none 0 0 none 0 0=wf at *;have d0:=DB.out.1.cell 0;have d1:=DB.out.1.cell 1;have d2:=DB.out.2.cell 0;have d3:=DB.out.2.cell 1;have d4:=DB.out.2.cell 2;have d5:=DB.out.2.cell 3;have d6:=DB.out.2.cell 4;have d7:=DB.out.2.cell 5;have d8:=DB.out.2.cell 6;have d9:=DB.out.2.cell 7;simp at d0 d1 d2 d3 d4 d5 d6 d7 d8 d9;refine bodyPost_ret (by simp[results,Tryz.results41,go_sem,d0,d1,d2,d3,d4,d5,d6,d7,d8,d9];try rfl) rfl ?_
  exact DD.out
 ·subst hk7 hx hb0;clear HB;have HLD:((((((((((w3.setCell ⟨gk+1+1,0,none⟩ (.int .i64 p)).setCell ⟨gk+1+1,1,none⟩ (.slice (some ⟨ga,oa,none⟩) n c)).setCell ⟨gk+1+1+1,0,none⟩ (.int .i64 0)).setCell ⟨gk+1+1+1,1,none⟩ (.int .i64 0)).setCell ⟨gk+1+1+1,2,none⟩ (.int .i64 0)).setCell ⟨gk+1+1+1,3,none⟩ (.int .u8 0)).setCell ⟨gk+1+1+1,4,none⟩ (.int .i64 0)).setCell ⟨gk+1+1+1,5,none⟩ (.int .i64 0)).setCell ⟨gk+1+1+1,6,none⟩ (.slice none 0 0)).setCell ⟨gk+1+1+1,7,none⟩ (.slice none 0 0))=laid w3 (gk+1+1) (gk+1+1+1) p (some ⟨ga,oa,none⟩) n c (erA 0) none 0 0 none 0 0:=rfl;have DD:=jH (zag (w:=w) (A0:=(some ⟨ga,oa,none⟩)) (a:=erA 0) (p:=p) (c:=c) (n:=n) (d':=0) (t':=0) (B':=none) (m:=0) (q:=0) (T':=none) BT3.out BA3.out (by have:=GK.out;omega) (by have:=GK.out;omega) HT3.out LN.out rfl (OwnB.nil _ _ _) rfl (Txs.nil _ _) (fun _ h=>by cases h) rfl KW3.out)
  have DB:=jH (zae (p:=p) (A:=(some ⟨ga,oa,none⟩)) (n:=n) (c:=c) (a:=erA 0) (B':=none) (m:=0) (d':=0) (T':=none) (q:=0) (t':=0) BT3.out BA3.out);have HLD2:=jH HLD;clear HLD;go_wp2_with fail;rw[HLD2.out];generalize laid w3 (gk+1+1) (gk+1+1+1) p (some ⟨ga,oa,none⟩) n c (erA 0) none 0 0 none 0 0=wf at *;have d0:=DB.out.1.cell 0;have d1:=DB.out.1.cell 1;have d2:=DB.out.2.cell 0;have d3:=DB.out.2.cell 1;have d4:=DB.out.2.cell 2;have d5:=DB.out.2.cell 3;have d6:=DB.out.2.cell 4;have d7:=DB.out.2.cell 5;have d8:=DB.out.2.cell 6;have d9:=DB.out.2.cell 7;simp at d0 d1 d2 d3 d4 d5 d6 d7 d8 d9;refine bodyPost_ret (by simp[results,Tryz.results41,go_sem,d0,d1,d2,d3,d4,d5,d6,d7,d8,d9];try rfl) rfl ?_
  exact DD.out
 ·subst hk7 hx;clear HB
  by_cases hav:8*p < av
  ·have HLD:((((((((((w3.setCell ⟨gk+1+1,0,none⟩ (.int .i64 p)).setCell ⟨gk+1+1,1,none⟩ (.slice (some ⟨ga,oa,none⟩) n c)).setCell ⟨gk+1+1+1,0,none⟩ (.int .i64 3)).setCell ⟨gk+1+1+1,1,none⟩ (.int .i64 0)).setCell ⟨gk+1+1+1,2,none⟩ (.int .i64 0)).setCell ⟨gk+1+1+1,3,none⟩ (.int .u8 0)).setCell ⟨gk+1+1+1,4,none⟩ (.int .i64 0)).setCell ⟨gk+1+1+1,5,none⟩ (.int .i64 0)).setCell ⟨gk+1+1+1,6,none⟩ (.slice none 0 0)).setCell ⟨gk+1+1+1,7,none⟩ (.slice none 0 0))=laid w3 (gk+1+1) (gk+1+1+1) p (some ⟨ga,oa,none⟩) n c (erA 3) none 0 0 none 0 0:=rfl;have DD:=jH (zag (w:=w) (A0:=(some ⟨ga,oa,none⟩)) (a:=erA 3) (p:=p) (c:=c) (n:=n) (d':=0) (t':=0) (B':=none) (m:=0) (q:=0) (T':=none) BT3.out BA3.out (by have:=GK.out;omega) (by have:=GK.out;omega) HT3.out LN.out rfl (OwnB.nil _ _ _) rfl (Txs.nil _ _) (fun _ h=>by cases h) rfl KW3.out)
   have DB:=jH (zae (p:=p) (A:=(some ⟨ga,oa,none⟩)) (n:=n) (c:=c) (a:=erA 3) (B':=none) (m:=0) (d':=0) (T':=none) (q:=0) (t':=0) BT3.out BA3.out);have HLD2:=jH HLD;clear HLD;go_wp2_with fail;rw[HLD2.out];generalize laid w3 (gk+1+1) (gk+1+1+1) p (some ⟨ga,oa,none⟩) n c (erA 3) none 0 0 none 0 0=wf at *;have d0:=DB.out.1.cell 0;have d1:=DB.out.1.cell 1;have d2:=DB.out.2.cell 0;have d3:=DB.out.2.cell 1;have d4:=DB.out.2.cell 2;have d5:=DB.out.2.cell 3;have d6:=DB.out.2.cell 4;have d7:=DB.out.2.cell 5;have d8:=DB.out.2.cell 6;have d9:=DB.out.2.cell 7;simp at d0 d1 d2 d3 d4 d5 d6 d7 d8 d9;refine bodyPost_ret (by simp[results,Tryz.results41,go_sem,d0,d1,d2,d3,d4,d5,d6,d7,d8,d9];try rfl) rfl ?_
   exact DD.out
  ·have HLD:((((((((((w3.setCell ⟨gk+1+1,0,none⟩ (.int .i64 p)).setCell ⟨gk+1+1,1,none⟩ (.slice (some ⟨ga,oa,none⟩) n c)).setCell ⟨gk+1+1+1,0,none⟩ (.int .i64 3)).setCell ⟨gk+1+1+1,1,none⟩ (.int .i64 0)).setCell ⟨gk+1+1+1,2,none⟩ (.int .i64 0)).setCell ⟨gk+1+1+1,3,none⟩ (.int .u8 0)).setCell ⟨gk+1+1+1,4,none⟩ (.int .i64 0)).setCell ⟨gk+1+1+1,5,none⟩ (.int .i64 0)).setCell ⟨gk+1+1+1,6,none⟩ (.slice none 0 0)).setCell ⟨gk+1+1+1,7,none⟩ (.slice none 0 0))=laid w3 (gk+1+1) (gk+1+1+1) p (some ⟨ga,oa,none⟩) n c (erA 3) none 0 0 none 0 0:=rfl;have DD:=jH (zag (w:=w) (A0:=(some ⟨ga,oa,none⟩)) (a:=erA 3) (p:=p) (c:=c) (n:=n) (d':=0) (t':=0) (B':=none) (m:=0) (q:=0) (T':=none) BT3.out BA3.out (by have:=GK.out;omega) (by have:=GK.out;omega) HT3.out LN.out rfl (OwnB.nil _ _ _) rfl (Txs.nil _ _) (fun _ h=>by cases h) rfl KW3.out)
   have DB:=jH (zae (p:=p) (A:=(some ⟨ga,oa,none⟩)) (n:=n) (c:=c) (a:=erA 3) (B':=none) (m:=0) (d':=0) (T':=none) (q:=0) (t':=0) BT3.out BA3.out);have HLD2:=jH HLD;clear HLD;go_wp2_with fail;rw[HLD2.out];generalize laid w3 (gk+1+1) (gk+1+1+1) p (some ⟨ga,oa,none⟩) n c (erA 3) none 0 0 none 0 0=wf at *;have d0:=DB.out.1.cell 0;have d1:=DB.out.1.cell 1;have d2:=DB.out.2.cell 0;have d3:=DB.out.2.cell 1;have d4:=DB.out.2.cell 2;have d5:=DB.out.2.cell 3;have d6:=DB.out.2.cell 4;have d7:=DB.out.2.cell 5;have d8:=DB.out.2.cell 6;have d9:=DB.out.2.cell 7;simp at d0 d1 d2 d3 d4 d5 d6 d7 d8 d9;refine bodyPost_ret (by simp[results,Tryz.results41,go_sem,d0,d1,d2,d3,d4,d5,d6,d7,d8,d9];try rfl) rfl ?_
   exact DD.out
end
end Go.Proofs.YtjjamoemheljdaaGreat
