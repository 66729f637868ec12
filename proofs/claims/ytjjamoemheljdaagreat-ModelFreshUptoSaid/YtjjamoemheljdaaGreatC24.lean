/-
  Layer 7: contracts (Yn).
-/
import Derived.Test.YtjjamoemheljdaaGreatC23
import Derived.StillTailTactics
namespace Go.Proofs.YtjjamoemheljdaaGreat
set_option maxRecDepth 100000
set_option maxHeartbeats 8000000
set_option linter.unusedSimpArgs false
set_option linter.unusedVariables false
section
open Go.RowKit
theorem stat_no (w0:World) (gt p:Nat) (L:List ND) (q j d:Nat) (nm:ByteArray) (w:World) (h:PT w0 w gt p L) (h0:j=0):
  Calls Tryz.prog 63 #[.pointer (some ⟨gt,0,none⟩),.agg #[.int .i64 q,.string nm,.int .i64 j,.int .i64 d]] w (AnsP w0 w gt p (L) (erA 12)):=by
 obtain⟨w1,hw1⟩:∃w1,w1=(w.alloc (.cells #[.int .i64 q,.string nm,.int .i64 j,.int .i64 d] 87)).alloc (.cells #[.int .i64 0,.int .i64 0,.int .i64 0,.int .u8 0,.int .i64 0,.int .i64 0,.slice none 0 0,.slice none 0 0] 41):=⟨_,rfl⟩
 have N1:Hid (New w w1):=by rw[hw1];exact (kR.alloc _).alloc _
 have BX:Hid (Blk w1 w.heap.size 87 [.int .i64 q,.string nm,.int .i64 j,.int .i64 d]):=by rw[hw1];exact (Blk.made w _ _).alloc _
 have BA:Hid (Blk w1 (w.heap.size+1) 41 [.int .i64 0,.int .i64 0,.int .i64 0,.int .u8 0,.int .i64 0,.int .i64 0,.slice none 0 0,.slice none 0 0]):=by
  have:=Blk.made (w.alloc (.cells #[.int .i64 q,.string nm,.int .i64 j,.int .i64 d] 87)) 41 #[.int .i64 0,.int .i64 0,.int .i64 0,.int .u8 0,.int .i64 0,.int .i64 0,.slice none 0 0,.slice none 0 0]
  rw[World.size_alloc] at this;rw[hw1];exact this
 have HW:=jH hw1;have HP:=jH h
 have HN0:Hid (New w0 w):=by obtain⟨_,_,_,_,_,_,_,h5,_⟩:=h;exact h5
 have HGT:Hid (gt < w.heap.size):=h.lt;clear hw1
 have CT:Hid (∀u,Calls Tryz.prog 83 #[.agg #[.int .i64 q,.string nm,.int .i64 j,.int .i64 d]] u (fun e w'=>e=.returned (.bool false)∧New u w')):=fun u=>by
  have:=zbh q nm j d u
  rwa [decide_eq_false (fun e=>e h0)] at this
 clear h h0;go_enter Tryz.func63,Tryz.ntmps63
 go_upto_region 1 with fail
 rw[←HW.out];clear HW;obtain⟨gr,hgr⟩:∃gr,gr=w.heap.size+1:=⟨_,rfl⟩;rw[←hgr] at BA ⊢
 have HGR:Hid (w.heap.size≤gr):=by rw[Hid,hgr];exact Nat.le_succ _
 have HTA:Hid (¬Tr w1 gt gr):=Tr.not BA.out.at_ (by decide) (by decide) (by have:=HGT.out;omega);have HTX:Hid (¬Tr w1 gt w.heap.size):=Tr.not BX.out.at_ (by decide) (by decide) (by have:=HGT.out;omega);clear hgr;obtain⟨b0,b1,b2,b3⟩:=BX.out.p4;obtain⟨gk,hgk⟩:∃gk,gk=w.heap.size:=⟨_,rfl⟩;rw[←hgk] at BX HTX b0 b1 b2 b3 ⊢;clear hgk
 go_wp2_with (first
  | (go_at_call 83;refine (CT.out _).mono ?_;rintro e w2 ⟨rfl,hK2⟩;have N2:=jH (N1.out.new hK2);have M2:=jH hK2;obtain⟨b0,b1,b2,b3⟩:=(BX.out.kept hK2 (by first|exact id|exact HTX.out)).p4;clear hK2)
  | (go_at_call 32;refine (zac 12 _).mono ?_;rintro e w3 ⟨rfl,hK3⟩;have N3:=jH (N2.out.new hK3);have BAZ:=jH (BA.out.kept (M2.out.new hK3) id);obtain⟨t0,t1,t2,t3,t4,t5,t6,t7⟩:=BAZ.out.p8;obtain⟨f0,f1,f2,f3,f4,f5,f6,f7⟩:=BAZ.out.f8;have HLD:Hid ((((((((w3.setCell ⟨gr,0,none⟩ (.int .i64 12)).setCell ⟨gr,1,none⟩ (.int .i64 0)).setCell ⟨gr,2,none⟩ (.int .i64 0)).setCell ⟨gr,3,none⟩ (.int .u8 0)).setCell ⟨gr,4,none⟩ (.int .i64 0)).setCell ⟨gr,5,none⟩ (.int .i64 0)).setCell ⟨gr,6,none⟩ (.slice none 0 0)).setCell ⟨gr,7,none⟩ (.slice none 0 0)=ans8 w3 gr (erA 12) none 0 0 none 0 0):=rfl;have DD:=jH (zah (a:=erA 12) (w0:=w0) (w:=w) (gt:=gt) (p:=p) (L:=L) (d':=0) (t':=0) (B':=none) (m:=0) (q:=0) (T':=none) BAZ.out HGR.out (HP.out.new N3.out) HN0.out (OwnB.nil _ _ _) rfl (Txs.nil _ _) (fun _ h=>by cases h) rfl (N3.out.mono fun _ _ f=>f.elim));have DB:=jH (zaf (a:=erA 12) (d':=0) (t':=0) (B':=none) (m:=0) (q:=0) (T':=none) BAZ.out);clear hK3))
 rw[HLD.out];generalize ans8 w3 gr (erA 12) none 0 0 none 0 0=wf at *;have d0:=DB.out.cell 0;have d1:=DB.out.cell 1;have d2:=DB.out.cell 2;have d3:=DB.out.cell 3;have d4:=DB.out.cell 4;have d5:=DB.out.cell 5;have d6:=DB.out.cell 6;have d7:=DB.out.cell 7;simp at d0 d1 d2 d3 d4 d5 d6 d7;refine bodyPost_ret (by simp[results,Tryz.results63,go_sem,d0,d1,d2,d3,d4,d5,d6,d7];try rfl) rfl ?_;exact DD.out
theorem stat_yes (w0:World) (gt p:Nat) (L:List ND) (q j d:Nat) (nm:ByteArray) (w:World) (h:PT w0 w gt p L) (hR:Rt ⟨p,L⟩) (h0:j≠0) {y:ND} (hy:ndI L j=some y):
  Calls Tryz.prog 63 #[.pointer (some ⟨gt,0,none⟩),.agg #[.int .i64 q,.string nm,.int .i64 j,.int .i64 d]] w (AnsP w0 w gt p (L) ({ erA 0 with i:=j,k:=y.k,l:=y.l,s:=y.b.length })):=by
 obtain⟨w1,hw1⟩:∃w1,w1=(w.alloc (.cells #[.int .i64 q,.string nm,.int .i64 j,.int .i64 d] 87)).alloc (.cells #[.int .i64 0,.int .i64 0,.int .i64 0,.int .u8 0,.int .i64 0,.int .i64 0,.slice none 0 0,.slice none 0 0] 41):=⟨_,rfl⟩
 have N1:Hid (New w w1):=by rw[hw1];exact (kR.alloc _).alloc _
 have BX:Hid (Blk w1 w.heap.size 87 [.int .i64 q,.string nm,.int .i64 j,.int .i64 d]):=by rw[hw1];exact (Blk.made w _ _).alloc _
 have BA:Hid (Blk w1 (w.heap.size+1) 41 [.int .i64 0,.int .i64 0,.int .i64 0,.int .u8 0,.int .i64 0,.int .i64 0,.slice none 0 0,.slice none 0 0]):=by
  have:=Blk.made (w.alloc (.cells #[.int .i64 q,.string nm,.int .i64 j,.int .i64 d] 87)) 41 #[.int .i64 0,.int .i64 0,.int .i64 0,.int .u8 0,.int .i64 0,.int .i64 0,.slice none 0 0,.slice none 0 0]
  rw[World.size_alloc] at this;rw[hw1];exact this
 have HW:=jH hw1;have HP:=jH h
 have HN0:Hid (New w0 w):=by obtain⟨_,_,_,_,_,_,_,h5,_⟩:=h;exact h5
 have HGT:Hid (gt < w.heap.size):=h.lt;clear hw1
 have CT:Hid (∀u,Calls Tryz.prog 83 #[.agg #[.int .i64 q,.string nm,.int .i64 j,.int .i64 d]] u (fun e w'=>e=.returned (.bool true)∧New u w')):=fun u=>by
  have:=zbh q nm j d u
  rwa [decide_eq_true h0] at this
 have hlen:L.length≤1000:=Nat.le_trans (show L.length≤48 from hR.len) (by omega);obtain⟨ga,pj,x,_,hCN,hZC⟩:=node_on h hR.ord hlen hy;have CN:=jH hCN;have ZC:=jH hZC;have HI:Hid (y.i=j):=(zaa hy).2;clear h hR h0 hy hlen hCN hZC;obtain⟨yi,yk,yl,yn,yb⟩:=y;simp only at *;have hji:j=yi:=HI.out.symm;subst hji;clear HI;generalize yb.length=bz at *;go_enter Tryz.func63,Tryz.ntmps63
 go_upto_region 1 with fail
 rw[←HW.out];clear HW;obtain⟨gr,hgr⟩:∃gr,gr=w.heap.size+1:=⟨_,rfl⟩;rw[←hgr] at BA ⊢
 have HGR:Hid (w.heap.size≤gr):=by rw[Hid,hgr];exact Nat.le_succ _
 have HTA:Hid (¬Tr w1 gt gr):=Tr.not BA.out.at_ (by decide) (by decide) (by have:=HGT.out;omega);have HTX:Hid (¬Tr w1 gt w.heap.size):=Tr.not BX.out.at_ (by decide) (by decide) (by have:=HGT.out;omega);clear hgr;obtain⟨b0,b1,b2,b3⟩:=BX.out.p4;obtain⟨gk,hgk⟩:∃gk,gk=w.heap.size:=⟨_,rfl⟩;rw[←hgk] at BX HTX b0 b1 b2 b3 ⊢;clear hgk
 go_upto_region 4 with (first
  | (go_at_call 83;refine (CT.out _).mono ?_;rintro e w2 ⟨rfl,hK2⟩;have N2:=jH (N1.out.new hK2);have M2:=jH hK2;obtain⟨b0,b1,b2,b3⟩:=(BX.out.kept hK2 (by first|exact id|exact HTX.out)).p4;clear hK2)
  | (go_at_call 72;refine (CN.out w2 N2.out).mono ?_;rintro e w4 ⟨rfl,hK4⟩;have N4:=jH (N2.out.new hK4);have M4:=jH (M2.out.new hK4);clear hK4))
 obtain⟨z0,z1,z2,z3,z4,_,_⟩:=ZC.out w4 N4.out
 go_still_tail 19,(by kernel_rfl)
 change wpList _ _ _ _ _ w4.drew
 have N5:Hid (New w w4.drew):=N4.out.drew;have M5:Hid (New w1 w4.drew):=M4.out.drew;clear z0 z1 z2 z3 z4;generalize w4.drew=w5 at *;have BAZ:=jH (BA.out.kept M5.out id);obtain⟨t0,t1,t2,t3,t4,t5,t6,t7⟩:=BAZ.out.p8;obtain⟨f0,f1,f2,f3,f4,f5,f6,f7⟩:=BAZ.out.f8;have HLD:Hid ((((((((w5.setCell ⟨gr,0,none⟩ (.int .i64 0)).setCell ⟨gr,1,none⟩ (.int .i64 j)).setCell ⟨gr,2,none⟩ (.int .i64 0)).setCell ⟨gr,3,none⟩ (.int .u8 yk)).setCell ⟨gr,4,none⟩ (.int .i64 yl)).setCell ⟨gr,5,none⟩ (.int .i64 bz)).setCell ⟨gr,6,none⟩ (.slice none 0 0)).setCell ⟨gr,7,none⟩ (.slice none 0 0)=ans8 w5 gr ({ erA 0 with i:=j,k:=yk,l:=yl,s:=bz }) none 0 0 none 0 0):=rfl
 have DD:=jH (zah (a:={ erA 0 with i:=j,k:=yk,l:=yl,s:=bz }) (w0:=w0) (w:=w) (gt:=gt) (p:=p) (L:=L) (d':=0) (t':=0) (B':=none) (m:=0) (q:=0) (T':=none) BAZ.out HGR.out (HP.out.new N5.out) HN0.out (OwnB.nil _ _ _) rfl (Txs.nil _ _) (fun _ h=>by cases h) rfl (N5.out.mono fun _ _ f=>f.elim));have DB:=jH (zaf (a:={ erA 0 with i:=j,k:=yk,l:=yl,s:=bz }) (d':=0) (t':=0) (B':=none) (m:=0) (q:=0) (T':=none) BAZ.out);go_wp2_with fail;rw[HLD.out];generalize ans8 w5 gr ({ erA 0 with i:=j,k:=yk,l:=yl,s:=bz }) none 0 0 none 0 0=wf at *;have d0:=DB.out.cell 0;have d1:=DB.out.cell 1;have d2:=DB.out.cell 2;have d3:=DB.out.cell 3
 have d4:=DB.out.cell 4;have d5:=DB.out.cell 5;have d6:=DB.out.cell 6;have d7:=DB.out.cell 7;simp at d0 d1 d2 d3 d4 d5 d6 d7;refine bodyPost_ret (by simp[results,Tryz.results63,go_sem,d0,d1,d2,d3,d4,d5,d6,d7];try rfl) rfl ?_;exact DD.out
theorem add_no (w0:World) (gt p:Nat) (L:List ND) (q j d:Nat) (nm:ByteArray) (k:Nat) (w:World) (h:PT w0 w gt p L) (h0:j≠0):
  Calls Tryz.prog 54 #[.pointer (some ⟨gt,0,none⟩),.agg #[.int .i64 q,.string nm,.int .i64 j,.int .i64 d],.int .u8 k] w (AnsP w0 w gt p (L) (erA 13)):=by
 obtain⟨w1,hw1⟩:∃w1,w1=(w.alloc (.cells #[.int .i64 q,.string nm,.int .i64 j,.int .i64 d] 87)).alloc (.cells #[.int .i64 0,.int .i64 0,.int .i64 0,.int .u8 0,.int .i64 0,.int .i64 0,.slice none 0 0,.slice none 0 0] 41):=⟨_,rfl⟩
 have N1:Hid (New w w1):=by rw[hw1];exact (kR.alloc _).alloc _
 have BX:Hid (Blk w1 w.heap.size 87 [.int .i64 q,.string nm,.int .i64 j,.int .i64 d]):=by rw[hw1];exact (Blk.made w _ _).alloc _
 have BA:Hid (Blk w1 (w.heap.size+1) 41 [.int .i64 0,.int .i64 0,.int .i64 0,.int .u8 0,.int .i64 0,.int .i64 0,.slice none 0 0,.slice none 0 0]):=by
  have:=Blk.made (w.alloc (.cells #[.int .i64 q,.string nm,.int .i64 j,.int .i64 d] 87)) 41 #[.int .i64 0,.int .i64 0,.int .i64 0,.int .u8 0,.int .i64 0,.int .i64 0,.slice none 0 0,.slice none 0 0]
  rw[World.size_alloc] at this;rw[hw1];exact this
 have HW:=jH hw1;have HP:=jH h
 have HN0:Hid (New w0 w):=by obtain⟨_,_,_,_,_,_,_,h5,_⟩:=h;exact h5
 have HGT:Hid (gt < w.heap.size):=h.lt;clear hw1
 have CT:Hid (∀u,Calls Tryz.prog 83 #[.agg #[.int .i64 q,.string nm,.int .i64 j,.int .i64 d]] u (fun e w'=>e=.returned (.bool true)∧New u w')):=fun u=>by
  have:=zbh q nm j d u
  rwa [decide_eq_true h0] at this
 clear h h0;go_enter Tryz.func54,Tryz.ntmps54
 go_upto_region 1 with fail
 rw[←HW.out];clear HW;obtain⟨gr,hgr⟩:∃gr,gr=w.heap.size+1:=⟨_,rfl⟩;rw[←hgr] at BA ⊢
 have HGR:Hid (w.heap.size≤gr):=by rw[Hid,hgr];exact Nat.le_succ _
 have HTA:Hid (¬Tr w1 gt gr):=Tr.not BA.out.at_ (by decide) (by decide) (by have:=HGT.out;omega);have HTX:Hid (¬Tr w1 gt w.heap.size):=Tr.not BX.out.at_ (by decide) (by decide) (by have:=HGT.out;omega);clear hgr;obtain⟨b0,b1,b2,b3⟩:=BX.out.p4;obtain⟨gk,hgk⟩:∃gk,gk=w.heap.size:=⟨_,rfl⟩;rw[←hgk] at BX HTX b0 b1 b2 b3 ⊢;clear hgk
 go_wp2_with (first
  | (go_at_call 83;refine (CT.out _).mono ?_;rintro e w2 ⟨rfl,hK2⟩;have N2:=jH (N1.out.new hK2);have M2:=jH hK2;obtain⟨b0,b1,b2,b3⟩:=(BX.out.kept hK2 (by first|exact id|exact HTX.out)).p4;clear hK2)
  | (go_at_call 32;refine (zac 13 _).mono ?_;rintro e w3 ⟨rfl,hK3⟩;have N3:=jH (N2.out.new hK3);have BAZ:=jH (BA.out.kept (M2.out.new hK3) id);obtain⟨t0,t1,t2,t3,t4,t5,t6,t7⟩:=BAZ.out.p8;obtain⟨f0,f1,f2,f3,f4,f5,f6,f7⟩:=BAZ.out.f8;have HLD:Hid ((((((((w3.setCell ⟨gr,0,none⟩ (.int .i64 13)).setCell ⟨gr,1,none⟩ (.int .i64 0)).setCell ⟨gr,2,none⟩ (.int .i64 0)).setCell ⟨gr,3,none⟩ (.int .u8 0)).setCell ⟨gr,4,none⟩ (.int .i64 0)).setCell ⟨gr,5,none⟩ (.int .i64 0)).setCell ⟨gr,6,none⟩ (.slice none 0 0)).setCell ⟨gr,7,none⟩ (.slice none 0 0)=ans8 w3 gr (erA 13) none 0 0 none 0 0):=rfl;have DD:=jH (zah (a:=erA 13) (w0:=w0) (w:=w) (gt:=gt) (p:=p) (L:=L) (d':=0) (t':=0) (B':=none) (m:=0) (q:=0) (T':=none) BAZ.out HGR.out (HP.out.new N3.out) HN0.out (OwnB.nil _ _ _) rfl (Txs.nil _ _) (fun _ h=>by cases h) rfl (N3.out.mono fun _ _ f=>f.elim));have DB:=jH (zaf (a:=erA 13) (d':=0) (t':=0) (B':=none) (m:=0) (q:=0) (T':=none) BAZ.out);clear hK3))
 rw[HLD.out];generalize ans8 w3 gr (erA 13) none 0 0 none 0 0=wf at *;have d0:=DB.out.cell 0;have d1:=DB.out.cell 1;have d2:=DB.out.cell 2;have d3:=DB.out.cell 3;have d4:=DB.out.cell 4;have d5:=DB.out.cell 5;have d6:=DB.out.cell 6;have d7:=DB.out.cell 7;simp at d0 d1 d2 d3 d4 d5 d6 d7;refine bodyPost_ret (by simp[results,Tryz.results54,go_sem,d0,d1,d2,d3,d4,d5,d6,d7];try rfl) rfl ?_;exact DD.out
theorem add_full (w0:World) (gt p:Nat) (L:List ND) (q j d:Nat) (nm:ByteArray) (k:Nat) (w:World) (h:PT w0 w gt p L) (h0:j=0) (h48:48≤L.length):
  Calls Tryz.prog 54 #[.pointer (some ⟨gt,0,none⟩),.agg #[.int .i64 q,.string nm,.int .i64 j,.int .i64 d],.int .u8 k] w (AnsP w0 w gt p (L) (erA 3)):=by
 obtain⟨w1,hw1⟩:∃w1,w1=(w.alloc (.cells #[.int .i64 q,.string nm,.int .i64 j,.int .i64 d] 87)).alloc (.cells #[.int .i64 0,.int .i64 0,.int .i64 0,.int .u8 0,.int .i64 0,.int .i64 0,.slice none 0 0,.slice none 0 0] 41):=⟨_,rfl⟩
 have N1:Hid (New w w1):=by rw[hw1];exact (kR.alloc _).alloc _
 have BX:Hid (Blk w1 w.heap.size 87 [.int .i64 q,.string nm,.int .i64 j,.int .i64 d]):=by rw[hw1];exact (Blk.made w _ _).alloc _
 have BA:Hid (Blk w1 (w.heap.size+1) 41 [.int .i64 0,.int .i64 0,.int .i64 0,.int .u8 0,.int .i64 0,.int .i64 0,.slice none 0 0,.slice none 0 0]):=by
  have:=Blk.made (w.alloc (.cells #[.int .i64 q,.string nm,.int .i64 j,.int .i64 d] 87)) 41 #[.int .i64 0,.int .i64 0,.int .i64 0,.int .u8 0,.int .i64 0,.int .i64 0,.slice none 0 0,.slice none 0 0]
  rw[World.size_alloc] at this;rw[hw1];exact this
 have HW:=jH hw1;have HP:=jH h
 have HN0:Hid (New w0 w):=by obtain⟨_,_,_,_,_,_,_,h5,_⟩:=h;exact h5
 have HGT:Hid (gt < w.heap.size):=h.lt;clear hw1
 have CT:Hid (∀u,Calls Tryz.prog 83 #[.agg #[.int .i64 q,.string nm,.int .i64 j,.int .i64 d]] u (fun e w'=>e=.returned (.bool false)∧New u w')):=fun u=>by
  have:=zbh q nm j d u
  rwa [decide_eq_false (fun e=>e h0)] at this
 have HTL:Hid (∃A c n,48≤n∧∀u,New w u→u.cell? ⟨gt,1,none⟩=some (.slice A n c)):=by
  obtain⟨ga,c,es,hB,hO,hL,_⟩:=h;subst hL;exact⟨_,c,es.length,by rwa [zab] at h48,fun u hu=>(hB.kept hu id).cell 1⟩
 obtain⟨A,c,n,hn48,hTL⟩:=HTL.out;have TL:=jH hTL;clear h h0 h48 HTL hTL;go_enter Tryz.func54,Tryz.ntmps54
 go_upto_region 1 with fail
 rw[←HW.out];clear HW;obtain⟨gr,hgr⟩:∃gr,gr=w.heap.size+1:=⟨_,rfl⟩;rw[←hgr] at BA ⊢
 have HGR:Hid (w.heap.size≤gr):=by rw[Hid,hgr];exact Nat.le_succ _
 have HTA:Hid (¬Tr w1 gt gr):=Tr.not BA.out.at_ (by decide) (by decide) (by have:=HGT.out;omega);have HTX:Hid (¬Tr w1 gt w.heap.size):=Tr.not BX.out.at_ (by decide) (by decide) (by have:=HGT.out;omega);clear hgr;obtain⟨b0,b1,b2,b3⟩:=BX.out.p4;obtain⟨gk,hgk⟩:∃gk,gk=w.heap.size:=⟨_,rfl⟩;rw[←hgk] at BX HTX b0 b1 b2 b3 ⊢;clear hgk;have d1:decide ((48:Int)≤((n:Nat):Int))=true:=decide_eq_true (by omega);have d2:decide (48≤n)=true:=decide_eq_true hn48
 go_wp2_with (first
  | (go_at_call 83;refine (CT.out _).mono ?_;rintro e w2 ⟨rfl,hK2⟩;have N2:=jH (N1.out.new hK2);have M2:=jH hK2;obtain⟨b0,b1,b2,b3⟩:=(BX.out.kept hK2 (by first|exact id|exact HTX.out)).p4;have y1:=TL.out w2 N2.out;clear hK2)
  | (go_at_call 32;refine (zac 3 _).mono ?_;rintro e w3 ⟨rfl,hK3⟩;have N3:=jH (N2.out.new hK3);have BAZ:=jH (BA.out.kept (M2.out.new hK3) id);obtain⟨t0,t1,t2,t3,t4,t5,t6,t7⟩:=BAZ.out.p8;obtain⟨f0,f1,f2,f3,f4,f5,f6,f7⟩:=BAZ.out.f8;have HLD:Hid ((((((((w3.setCell ⟨gr,0,none⟩ (.int .i64 3)).setCell ⟨gr,1,none⟩ (.int .i64 0)).setCell ⟨gr,2,none⟩ (.int .i64 0)).setCell ⟨gr,3,none⟩ (.int .u8 0)).setCell ⟨gr,4,none⟩ (.int .i64 0)).setCell ⟨gr,5,none⟩ (.int .i64 0)).setCell ⟨gr,6,none⟩ (.slice none 0 0)).setCell ⟨gr,7,none⟩ (.slice none 0 0)=ans8 w3 gr (erA 3) none 0 0 none 0 0):=rfl;have DD:=jH (zah (a:=erA 3) (w0:=w0) (w:=w) (gt:=gt) (p:=p) (L:=L) (d':=0) (t':=0) (B':=none) (m:=0) (q:=0) (T':=none) BAZ.out HGR.out (HP.out.new N3.out) HN0.out (OwnB.nil _ _ _) rfl (Txs.nil _ _) (fun _ h=>by cases h) rfl (N3.out.mono fun _ _ f=>f.elim));have DB:=jH (zaf (a:=erA 3) (d':=0) (t':=0) (B':=none) (m:=0) (q:=0) (T':=none) BAZ.out);clear hK3))
 rw[HLD.out];generalize ans8 w3 gr (erA 3) none 0 0 none 0 0=wf at *;have d0:=DB.out.cell 0;have d1:=DB.out.cell 1;have d2:=DB.out.cell 2;have d3:=DB.out.cell 3;have d4:=DB.out.cell 4;have d5:=DB.out.cell 5;have d6:=DB.out.cell 6;have d7:=DB.out.cell 7;simp at d0 d1 d2 d3 d4 d5 d6 d7;refine bodyPost_ret (by simp[results,Tryz.results54,go_sem,d0,d1,d2,d3,d4,d5,d6,d7];try rfl) rfl ?_;exact DD.out
theorem add_yes (w0:World) (gt p:Nat) (L:List ND) (q j d:Nat) (nm:ByteArray) (k:Nat) (w:World) (h:PT w0 w gt p L) (hR:Rt ⟨p,L⟩) {g:List ByteArray} (hp:LkP L g q j) (hg:g≠[]) (hnm:lst g=nm) (h0:j=0) (h48:¬48≤L.length):
  Calls Tryz.prog 54 #[.pointer (some ⟨gt,0,none⟩),.agg #[.int .i64 q,.string nm,.int .i64 j,.int .i64 d],.int .u8 k] w (AnsP w0 w gt p (makeE L q nm k) ({ erA 0 with i:=zbj L })):=by
 obtain⟨w1,hw1⟩:∃w1,w1=(w.alloc (.cells #[.int .i64 q,.string nm,.int .i64 j,.int .i64 d] 87)).alloc (.cells #[.int .i64 0,.int .i64 0,.int .i64 0,.int .u8 0,.int .i64 0,.int .i64 0,.slice none 0 0,.slice none 0 0] 41):=⟨_,rfl⟩
 have N1:Hid (New w w1):=by rw[hw1];exact (kR.alloc _).alloc _
 have BX:Hid (Blk w1 w.heap.size 87 [.int .i64 q,.string nm,.int .i64 j,.int .i64 d]):=by rw[hw1];exact (Blk.made w _ _).alloc _
 have BA:Hid (Blk w1 (w.heap.size+1) 41 [.int .i64 0,.int .i64 0,.int .i64 0,.int .u8 0,.int .i64 0,.int .i64 0,.slice none 0 0,.slice none 0 0]):=by
  have:=Blk.made (w.alloc (.cells #[.int .i64 q,.string nm,.int .i64 j,.int .i64 d] 87)) 41 #[.int .i64 0,.int .i64 0,.int .i64 0,.int .u8 0,.int .i64 0,.int .i64 0,.slice none 0 0,.slice none 0 0]
  rw[World.size_alloc] at this;rw[hw1];exact this
 have HW:=jH hw1;have HP:=jH h
 have HN0:Hid (New w0 w):=by obtain⟨_,_,_,_,_,_,_,h5,_⟩:=h;exact h5
 have HGT:Hid (gt < w.heap.size):=h.lt;clear hw1
 have CT:Hid (∀u,Calls Tryz.prog 83 #[.agg #[.int .i64 q,.string nm,.int .i64 j,.int .i64 d]] u (fun e w'=>e=.returned (.bool false)∧New u w')):=fun u=>by
  have:=zbh q nm j d u
  rwa [decide_eq_false (fun e=>e h0)] at this
 have HTL:Hid (∃A c n,¬48≤n∧∀u,New w u→u.cell? ⟨gt,1,none⟩=some (.slice A n c)):=by
  obtain⟨ga,c,es,hB,hO,hL,_⟩:=h;subst hL;exact⟨_,c,es.length,by rwa [zab] at h48,fun u hu=>(hB.kept hu id).cell 1⟩
 obtain⟨A,c,n,hn48,hTL⟩:=HTL.out;have TL:=jH hTL;have hlen:L.length≤1000:=Nat.le_trans (show L.length≤48 from hR.len) (by omega);obtain⟨qn,hq,_,hj,hos⟩:=dir_nd hR hp hg;have hfr:=free_ok hR;have hql:=hR.ns_le (zaa hq).1
 have CF:Hid (∀u,PT w0 u gt p L→Calls Tryz.prog 84 #[.pointer (some ⟨gt,0,none⟩)] u (MNew u ((zbj L:Nat):Int))):=fun u hu=>free_any w0 gt p L u hu hlen
 have CP:Hid (∀u,PT w0 u gt p L→Calls Tryz.prog 85 #[.pointer (some ⟨gt,0,none⟩),.agg #[.int .i64 (zbj L:Nat),.int .u8 k,.int .i64 1,.slice none 0 0,.slice none 0 0]] u (fun e w'=>e=.returned (.tuple #[])∧PT w0 w' gt p (insI ⟨zbj L,k,1,[],[]⟩ L)∧Kept (Tr u gt) u w')):=fun u hu=>put_any w0 gt p L (zbj L) k 1 u hu hR.ord hlen
 have CE:Hid (∀u,PT w0 u gt p (insI ⟨zbj L,k,1,[],[]⟩ L)→Calls Tryz.prog 86 #[.pointer (some ⟨gt,0,none⟩),.agg #[.int .i64 q,.string nm,.int .i64 j,.int .i64 d],.int .i64 (zbj L:Nat)] u (fun e w'=>e=.returned (.tuple #[])∧PT w0 w' gt p (makeE L q nm k)∧Kept (Tr u gt) u w')):=fun u hu=>by
  have hqf:q≠zbj L:=fun e=>hfr.1 (zav.2 ⟨qn,(zaa hq).1,by rw[(zaa hq).2,e]⟩)
  exact enter_any w0 gt p _ q j d nm qn (zbj L) u hu (ins_ord hR.ord hfr.1) (by rw[ins_len];have:L.length≤48:=hR.len;omega) (by rw[ins_nd hfr.1,if_neg hqf];exact hq) hos (by omega)
 clear h hR hp hg hnm h0 h48 HTL hTL hlen hq hj hos hfr hql;generalize makeE L q nm k=L9 at *;generalize insI ⟨zbj L,k,1,[],[]⟩ L=L8 at *;generalize zbj L=fi at *;go_enter Tryz.func54,Tryz.ntmps54
 go_upto_region 1 with fail
 rw[←HW.out];clear HW;obtain⟨gr,hgr⟩:∃gr,gr=w.heap.size+1:=⟨_,rfl⟩;rw[←hgr] at BA ⊢
 have HGR:Hid (w.heap.size≤gr):=by rw[Hid,hgr];exact Nat.le_succ _
 have HTA:Hid (¬Tr w1 gt gr):=Tr.not BA.out.at_ (by decide) (by decide) (by have:=HGT.out;omega);have HTX:Hid (¬Tr w1 gt w.heap.size):=Tr.not BX.out.at_ (by decide) (by decide) (by have:=HGT.out;omega);clear hgr;obtain⟨b0,b1,b2,b3⟩:=BX.out.p4;obtain⟨gk,hgk⟩:∃gk,gk=w.heap.size:=⟨_,rfl⟩;rw[←hgk] at BX HTX b0 b1 b2 b3 ⊢;clear hgk;have d1:decide ((48:Int)≤((n:Nat):Int))=false:=decide_eq_false (by omega);have d2:decide (48≤n)=false:=decide_eq_false hn48
 go_wp2_with (first
  | (go_at_call 83;refine (CT.out _).mono ?_;rintro e w2 ⟨rfl,hK2⟩;have N2:=jH (N1.out.new hK2);have M2:=jH hK2;obtain⟨b0,b1,b2,b3⟩:=(BX.out.kept hK2 (by first|exact id|exact HTX.out)).p4;have y1:=TL.out w2 N2.out;clear hK2)
  | (go_at_call 84;refine (CF.out w2 (HP.out.new N2.out)).mono ?_;rintro e w3 ⟨rfl,hK3⟩;have N3:=jH (N2.out.new hK3);have M3:=jH (M2.out.new hK3);have P3:=jH (HP.out.new N3.out);obtain⟨b0,b1,b2,b3⟩:=(BX.out.kept M3.out (by first|exact id|exact HTX.out)).p4;clear hK3)
  | (go_at_call 85;refine (CP.out w3 P3.out).mono ?_;rintro e w4 ⟨rfl,hP4,hK4⟩;have P4:=jH hP4;have K4:=jH (Tr.new M3.out hK4);have T4:=jH (Tr.new N3.out hK4);obtain⟨b0,b1,b2,b3⟩:=(BX.out.kept K4.out (by first|exact id|exact HTX.out)).p4;clear hK4 hP4)
  | (go_at_call 86;refine (CE.out w4 P4.out).mono ?_;rintro e w5 ⟨rfl,hP5,hK5⟩;have K5:=jH (Tr.trans K4.out hK5);have T5:=jH (Tr.trans T4.out hK5);have BAZ:=jH (BA.out.kept K5.out HTA.out);obtain⟨t0,t1,t2,t3,t4,t5,t6,t7⟩:=BAZ.out.p8;obtain⟨f0,f1,f2,f3,f4,f5,f6,f7⟩:=BAZ.out.f8;have HLD:Hid ((((((((w5.setCell ⟨gr,0,none⟩ (.int .i64 0)).setCell ⟨gr,1,none⟩ (.int .i64 fi)).setCell ⟨gr,2,none⟩ (.int .i64 0)).setCell ⟨gr,3,none⟩ (.int .u8 0)).setCell ⟨gr,4,none⟩ (.int .i64 0)).setCell ⟨gr,5,none⟩ (.int .i64 0)).setCell ⟨gr,6,none⟩ (.slice none 0 0)).setCell ⟨gr,7,none⟩ (.slice none 0 0)=ans8 w5 gr ({ erA 0 with i:=fi }) none 0 0 none 0 0):=rfl;have DD:=jH (zah (a:={ erA 0 with i:=fi }) (w0:=w0) (w:=w) (gt:=gt) (p:=p) (L:=L9) (d':=0) (t':=0) (B':=none) (m:=0) (q:=0) (T':=none) BAZ.out HGR.out (hP5) HN0.out (OwnB.nil _ _ _) rfl (Txs.nil _ _) (fun _ h=>by cases h) rfl (T5.out));have DB:=jH (zaf (a:={ erA 0 with i:=fi }) (d':=0) (t':=0) (B':=none) (m:=0) (q:=0) (T':=none) BAZ.out);clear hK5 hP5))
 rw[HLD.out];generalize ans8 w5 gr ({ erA 0 with i:=fi }) none 0 0 none 0 0=wf at *;have d0:=DB.out.cell 0;have d1:=DB.out.cell 1;have d2:=DB.out.cell 2;have d3:=DB.out.cell 3;have d4:=DB.out.cell 4;have d5:=DB.out.cell 5;have d6:=DB.out.cell 6;have d7:=DB.out.cell 7;simp at d0 d1 d2 d3 d4 d5 d6 d7;refine bodyPost_ret (by simp[results,Tryz.results54,go_sem,d0,d1,d2,d3,d4,d5,d6,d7];try rfl) rfl ?_;exact DD.out
end
end Go.Proofs.YtjjamoemheljdaaGreat
