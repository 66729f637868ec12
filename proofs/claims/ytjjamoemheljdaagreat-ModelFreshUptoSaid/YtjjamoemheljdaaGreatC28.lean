/-
  Layer 7: contracts (Yr Ys).
-/
import Derived.Test.YtjjamoemheljdaaGreatC27
namespace Go.Proofs.YtjjamoemheljdaaGreat
set_option maxRecDepth 100000
set_option maxHeartbeats 8000000
set_option linter.unusedSimpArgs false
set_option linter.unusedVariables false
section
open Go.RowKit
theorem rd_cells (b:List Nat) (a n:Nat):((b.drop (Nat.min a b.length)).map byt).take (Nat.min (b.length - Nat.min a b.length) (Nat.min n (b.length - Nat.min a b.length))*1)++zer [.int .u8 0] (Nat.min n (b.length - Nat.min a b.length) - Nat.min (b.length - Nat.min a b.length) (Nat.min n (b.length - Nat.min a b.length)))=((b.drop a).take n).map byt∧((b.drop a).take n).length=Nat.min n (b.length - Nat.min a b.length):=by
 have e1:b.drop (Nat.min a b.length)=b.drop a:=by
  rcases Nat.le_total a b.length with h|h
  ·rw[show Nat.min a b.length=a from Nat.min_eq_left h]
  ·rw[show Nat.min a b.length=b.length from Nat.min_eq_right h,List.drop_length,List.drop_of_length_le h]
 have e2:(b.drop a).length=b.length - Nat.min a b.length:=by rw[←e1,List.length_drop]
 generalize b.length - Nat.min a b.length=k at *;rw[e1];generalize b.drop a=r at *;have e3:Nat.min k (Nat.min n k)=Nat.min n k:=Nat.min_eq_right (Nat.min_le_right _ _);rw[e3,Nat.sub_self,Nat.mul_one];refine⟨?_,by rw[List.length_take,e2]⟩
 show (r.map byt).take (Nat.min n k)++[]=_
 rw[List.append_nil,List.map_take]
 rcases Nat.le_total n k with h|h
 ·rw[show Nat.min n k=n from Nat.min_eq_left h]
 ·rw[show Nat.min n k=k from Nat.min_eq_right h,List.take_of_length_le (by simp[e2]),List.take_of_length_le (by simpa [e2] using h)]
theorem mread_any (w0:World) (gt p:Nat) (L:List ND) (q j d:Nat) (nm:ByteArray) (kk:Nat) (sp st:ByteArray) (av nv:Int) (Ab:Option Addr) (bl bc:Nat) (w:World) (h:PT w0 w gt p L) (hR:Rt ⟨p,L⟩) (h0:j≠0) {y:ND} (hy:ndI L j=some y) (hk9:kk=9) (ab:List Nat):
  Calls Tryz.prog 62 #[.pointer (some ⟨gt,0,none⟩),.agg #[.int .i64 q,.string nm,.int .i64 j,.int .i64 d],.agg #[.int .u8 kk,.string sp,.string st,.int .i64 av,.int .i64 nv,.slice Ab bl bc]] w (AnsP w0 w gt p ((bytF ⟨p,L⟩ ⟨kk,sp,st,av,nv,ab⟩ j y).1.l) ((bytF ⟨p,L⟩ ⟨kk,sp,st,av,nv,ab⟩ j y).2)):=by
 obtain⟨w1,hw1⟩:∃w1,w1=((w.alloc (.cells #[.int .i64 q,.string nm,.int .i64 j,.int .i64 d] 87)).alloc (.cells #[.int .u8 kk,.string sp,.string st,.int .i64 av,.int .i64 nv,.slice Ab bl bc] 34)).alloc (.cells #[.int .i64 0,.int .i64 0,.int .i64 0,.int .u8 0,.int .i64 0,.int .i64 0,.slice none 0 0,.slice none 0 0] 41):=⟨_,rfl⟩
 have N1:Hid (New w w1):=by rw[hw1];exact ((kR.alloc _).alloc _).alloc _
 have BX:Hid (Blk w1 w.heap.size 87 [.int .i64 q,.string nm,.int .i64 j,.int .i64 d]):=by rw[hw1];exact ((Blk.made w _ _).alloc _).alloc _
 have BC:Hid (Blk w1 (w.heap.size+1) 34 [.int .u8 kk,.string sp,.string st,.int .i64 av,.int .i64 nv,.slice Ab bl bc]):=by
  have:=Blk.made (w.alloc (.cells #[.int .i64 q,.string nm,.int .i64 j,.int .i64 d] 87)) 34 #[.int .u8 kk,.string sp,.string st,.int .i64 av,.int .i64 nv,.slice Ab bl bc]
  rw[World.size_alloc] at this;rw[hw1];exact this.alloc _
 have BA:Hid (Blk w1 (w.heap.size+1+1) 41 [.int .i64 0,.int .i64 0,.int .i64 0,.int .u8 0,.int .i64 0,.int .i64 0,.slice none 0 0,.slice none 0 0]):=by
  have:=Blk.made ((w.alloc (.cells #[.int .i64 q,.string nm,.int .i64 j,.int .i64 d] 87)).alloc (.cells #[.int .u8 kk,.string sp,.string st,.int .i64 av,.int .i64 nv,.slice Ab bl bc] 34)) 41 #[.int .i64 0,.int .i64 0,.int .i64 0,.int .u8 0,.int .i64 0,.int .i64 0,.slice none 0 0,.slice none 0 0]
  rw[World.size_alloc,World.size_alloc] at this;rw[hw1];exact this
 have HW:=jH hw1;have HP:=jH h
 have HN0:Hid (New w0 w):=by obtain⟨_,_,_,_,_,_,_,h5,_⟩:=h;exact h5
 have HGT:Hid (gt < w.heap.size):=h.lt;clear hw1;have hlen:L.length≤1000:=Nat.le_trans (show L.length≤48 from hR.len) (by omega);obtain⟨ga,pj,x,hxn,hFA,hZC,hST⟩:=file_on h hR.ord hlen h0 hy q d kk bl bc nm sp st av nv Ab;have FA:=jH hFA;have ZC:=jH hZC;have ST:=jH hST;obtain⟨fe,hfe⟩:∃fe,fe=fE y.k av nv:=⟨_,rfl⟩
 have HBAD:Hid (fe≠0→(bytF ⟨p,L⟩ ⟨kk,sp,st,av,nv,ab⟩ j y).1.l=L∧(bytF ⟨p,L⟩ ⟨kk,sp,st,av,nv,ab⟩ j y).2=erA fe):=fun hk=>by
  rw[hfe] at hk ⊢;unfold fE at *
  by_cases h2:y.k≠2
  ·rw[if_pos h2];unfold bytF;rw[if_pos h2];exact⟨rfl,rfl⟩
  ·rw[if_neg h2] at hk ⊢
   by_cases h3:av < 0∨nv < 0
   ·rw[if_pos h3];unfold bytF;rw[if_neg h2,if_pos h3];exact⟨rfl,rfl⟩
   ·rw[if_neg h3] at hk;exact absurd rfl hk
 have hfz:fe=0→¬y.k≠2∧¬(av < 0∨nv < 0):=fun hk=>by
  rw[hfe] at hk;unfold fE at hk
  by_cases h2:y.k≠2
  ·rw[if_pos h2] at hk;cases hk
  ·rw[if_neg h2] at hk
   by_cases h3:av < 0∨nv < 0
   ·rw[if_pos h3] at hk;cases hk
   ·exact⟨h2,h3⟩
 have HNV:Hid (fe=0→∃a m:Nat,av=a∧nv=m):=fun hk=>⟨av.toNat,nv.toNat,by have:=(hfz hk).2;omega,by have:=(hfz hk).2;omega⟩
 have HOK:Hid (fe=0→(bytF ⟨p,L⟩ ⟨kk,sp,st,av,nv,ab⟩ j y).1.l=L∧(bytF ⟨p,L⟩ ⟨kk,sp,st,av,nv,ab⟩ j y).2={ erA 0 with b:=(y.b.drop av.toNat).take nv.toNat }):=fun hk=>by
  obtain⟨g1,g2⟩:=hfz hk;unfold bytF;rw[if_neg g1,if_neg g2,if_pos hk9];exact⟨rfl,rfl⟩
 rw[←hfe] at FA;have HBC:Hid (y.b.length≤x.d∧y.b.length≤2040):=⟨(hZC w kR).2.2.2,hR.b_le (zaa hy).1⟩
 have CS:Hid (∀u (a m:Nat),New w u→Calls Tryz.prog 79 #[.slice (if x.d=Nat.min a y.b.length then x.B else x.B.map (·.add (Nat.min a y.b.length))) (y.b.length - Nat.min a y.b.length) (x.d - Nat.min a y.b.length),.int .i64 (Nat.min m (y.b.length - Nat.min a y.b.length):Nat)] u (MdP u 5 (Nat.min m (y.b.length - Nat.min a y.b.length)) (((y.b.drop a).take m).map byt))):=fun u a m hu=>by
  have hb:=(hZC u hu).2.2.1;have hc:=hb.cut (k:=Nat.min a y.b.length) (c:=x.d) (Nat.min_le_right _ _) HBC.out.1
  have:=sizedBy_any _ (y.b.length - Nat.min a y.b.length) (x.d - Nat.min a y.b.length) (Nat.min m (y.b.length - Nat.min a y.b.length)) _ u (RowV.of_bts hc) (byt_one _) (by have:=HBC.out.2;have:Nat.min m (y.b.length - Nat.min a y.b.length)≤y.b.length - Nat.min a y.b.length:=Nat.min_le_right _ _;omega)
  rw[(rd_cells y.b a m).1] at this;exact this
 have HLN:Hid (∀a m,((y.b.drop a).take m).length=Nat.min m (y.b.length - Nat.min a y.b.length)):=fun a m=>(rd_cells y.b a m).2
 have HCB:Hid (∀a m,∀v∈(y.b.drop a).take m,v < 256):=fun a m v hv=>(hR.fin _ (zaa hy).1).2.2.1 v (List.mem_of_mem_drop (List.mem_of_mem_take hv))
 clear h hR h0 hy hfe hfz hlen hFA hZC hST hxn hk9;generalize (bytF ⟨p,L⟩ ⟨kk,sp,st,av,nv,ab⟩ j y).1.l=LR at *;generalize (bytF ⟨p,L⟩ ⟨kk,sp,st,av,nv,ab⟩ j y).2=AR at *;generalize y.b.length=bz at *;generalize y.b=yb at *;go_enter Tryz.func62,Tryz.ntmps62
 go_upto_region 1 with fail
 rw[←HW.out];clear HW;obtain⟨gr,hgr⟩:∃gr,gr=w.heap.size+1+1:=⟨_,rfl⟩;obtain⟨gc,hgc⟩:∃gc,gc=w.heap.size+1:=⟨_,rfl⟩;rw[←hgr] at BA ⊢;rw[←hgc] at BC ⊢
 have HGR:Hid (w.heap.size≤gr):=by rw[Hid,hgr];omega
 have HTA:Hid (¬Tr w1 gt gr):=Tr.not BA.out.at_ (by decide) (by decide) (by have:=HGT.out;omega);have HTX:Hid (¬Tr w1 gt w.heap.size):=Tr.not BX.out.at_ (by decide) (by decide) (by have:=HGT.out;omega);have HTC:Hid (¬Tr w1 gt gc):=Tr.not BC.out.at_ (by decide) (by decide) (by have:=HGT.out;omega);clear hgr hgc;obtain⟨b0,b1,b2,b3⟩:=BX.out.p4;obtain⟨c0,c1,c2,c3,c4,c5⟩:=BC.out.p6;obtain⟨gk,hgk⟩:∃gk,gk=w.heap.size:=⟨_,rfl⟩;rw[←hgk] at BX HTX b0 b1 b2 b3 ⊢;clear hgk
 by_cases hf0:fe=0
 ·obtain⟨a,m,ha,hm⟩:=HNV.out hf0;subst ha hm;subst hf0;clear HBAD;have OK:=jH (HOK.out rfl);rw[show ((m:Nat):Int).toNat=m from Int.toNat_natCast m,show ((a:Nat):Int).toNat=a from Int.toNat_natCast a] at OK;clear HOK HNV;have FA:Hid (∀u,New w u→Calls Tryz.prog 94 #[.pointer (some ⟨gt,0,none⟩),.agg #[.int .i64 q,.string nm,.int .i64 j,.int .i64 d],.agg #[.int .u8 kk,.string sp,.string st,.int .i64 (a:Nat),.int .i64 (m:Nat),.slice Ab bl bc]] u (fun e w'=>e=.returned (.tuple #[.pointer (some ⟨ga,pj*5,none⟩),.int .i64 0])∧New u w')):=FA.out;have CS:=jH (fun u hu=>CS.out u a m hu);have HLN:=jH (HLN.out a m)
  have HCB:=jH (HCB.out a m)
  have hq1:min ((a:Nat):Int) ((bz:Nat):Int)=((Nat.min a bz:Nat):Int):=by
   show _=((min a bz:Nat):Int)
   omega
  have hq2:min ((m:Nat):Int) ((bz - Nat.min a bz:Nat):Int)=((Nat.min m (bz - Nat.min a bz):Nat):Int):=by
   show _=((min m (bz - Nat.min a bz):Nat):Int)
   omega
  have hmn:Nat.min a bz≤bz:=Nat.min_le_right _ _;have hmk:Nat.min m (bz - Nat.min a bz)≤bz - Nat.min a bz:=Nat.min_le_right _ _;generalize Nat.min m (bz - Nat.min a bz)=k1 at *;generalize Nat.min a bz=k0 at *;generalize (yb.drop a).take m=rb at *;have hb1:=HBC.out.1;have hb2:=HBC.out.2
  have hmi:((k0:Nat):Int)≤((bz:Nat):Int):=by omega
  go_upto_region 4 with (go_at_call 94;refine (FA.out w1 N1.out).mono ?_;rintro e w2 ⟨rfl,hK2⟩;have N2:=jH (N1.out.new hK2);have M2:=jH hK2;obtain⟨c0,c1,c2,c3,c4,c5⟩:=(BC.out.kept hK2 (by first|exact id|exact HTC.out)).p6;clear hK2)
  obtain⟨z4,f4,_⟩:=ZC.out w2 N2.out;go_quiet (fail);have N5:Hid (New w (w2.drewN nq)):=N2.out.drewN _;have M5:Hid (New w1 (w2.drewN nq)):=M2.out.drewN _;clear c0 c1 c2 c3 c4 c5 z4 f4;generalize w2.drewN nq=w5 at *;generalize (if x.d=k0 then x.B else x.B.map (·.add k0))=AX at *;have c4:=(BC.out.kept M5.out id).q4;have E9:=jH OK.out
  have HKM:Hid (k1≤2040):=by show _≤_;omega
  go_wp2_with (go_at_call 79;refine (CS.out w5 N5.out).mono ?_;intro e w7 hMP;have O7:=jH (MdP.ownB hMP HLN.out HCB.out (by have:=HKM.out;unfold maxLen;omega));have N7:=jH (N5.out.new hMP.2.2);have M7:=jH (M5.out.new hMP.2.2);have EQ7:=hMP.1;clear hMP;subst EQ7;have BAZ:=jH (BA.out.kept M7.out id);obtain⟨t0,t1,t2,t3,t4,t5,t6,t7⟩:=BAZ.out.p8;obtain⟨f0,f1,f2,f3,f4,f5,f6,f7⟩:=BAZ.out.f8;have HLD:Hid ((((((((w7.setCell ⟨gr,0,none⟩ (.int .i64 0)).setCell ⟨gr,1,none⟩ (.int .i64 0)).setCell ⟨gr,2,none⟩ (.int .i64 0)).setCell ⟨gr,3,none⟩ (.int .u8 0)).setCell ⟨gr,4,none⟩ (.int .i64 0)).setCell ⟨gr,5,none⟩ (.int .i64 0)).setCell ⟨gr,6,none⟩ (.slice (some ⟨w5.heap.size,0,none⟩) k1 k1)).setCell ⟨gr,7,none⟩ (.slice none 0 0)=ans8 w7 gr ({ erA 0 with b:=rb }) (some ⟨w5.heap.size,0,none⟩) k1 k1 none 0 0):=rfl;have DD:=jH (zah (a:={ erA 0 with b:=rb }) (w0:=w0) (w:=w) (gt:=gt) (p:=p) (L:=L) (d':=k1) (t':=0) (B':=some ⟨w5.heap.size,0,none⟩) (m:=k1) (q:=0) (T':=none) BAZ.out HGR.out (HP.out.new N7.out) HN0.out (O7.out.mono (Nat.le_trans HN0.out.size N5.out.size)) HLN.out (Txs.nil _ _) (fun _ h=>by cases h) rfl (N7.out.mono fun _ _ f=>f.elim));have DB:=jH (zaf (a:={ erA 0 with b:=rb }) (d':=k1) (t':=0) (B':=some ⟨w5.heap.size,0,none⟩) (m:=k1) (q:=0) (T':=none) BAZ.out))
  rw[HLD.out];generalize ans8 w7 gr ({ erA 0 with b:=rb }) (some ⟨w5.heap.size,0,none⟩) k1 k1 none 0 0=wf at *;have d0:=DB.out.cell 0;have d1:=DB.out.cell 1;have d2:=DB.out.cell 2;have d3:=DB.out.cell 3;have d4:=DB.out.cell 4;have d5:=DB.out.cell 5;have d6:=DB.out.cell 6;have d7:=DB.out.cell 7;simp at d0 d1 d2 d3 d4 d5 d6 d7;refine bodyPost_ret (by simp[results,Tryz.results62,go_sem,d0,d1,d2,d3,d4,d5,d6,d7];try rfl) rfl ?_;rw[E9.out.1,E9.out.2];exact DD.out
 ·have hz:∃n,fe=n+1:=⟨fe - 1,by omega⟩;have d0:(((fe:Nat):Int) != 0)=true:=bne_iff_ne.2 (by omega);have E9:=jH (HBAD.out hf0);obtain⟨n,rfl⟩:=hz;have FA:Hid (∀u,New w u→Calls Tryz.prog 94 #[.pointer (some ⟨gt,0,none⟩),.agg #[.int .i64 q,.string nm,.int .i64 j,.int .i64 d],.agg #[.int .u8 kk,.string sp,.string st,.int .i64 av,.int .i64 nv,.slice Ab bl bc]] u (fun e w'=>e=.returned (.tuple #[.pointer none,.int .i64 (n+1:Nat)])∧New u w')):=FA.out;have RF:=jH (fun u=>zac (n+1) u);clear hf0 HNV HOK HBAD;generalize n+1=fe at *
  go_wp2_with (first
   | (go_at_call 94;refine (FA.out w1 N1.out).mono ?_;rintro e w2 ⟨rfl,hK2⟩;have N2:=jH (N1.out.new hK2);have M2:=jH hK2;obtain⟨c0,c1,c2,c3,c4,c5⟩:=(BC.out.kept hK2 (by first|exact id|exact HTC.out)).p6;clear hK2)
   | (go_at_call 32;refine (RF.out _).mono ?_;rintro e w3 ⟨rfl,hK3⟩;have N3:=jH (N2.out.new hK3);have BAZ:=jH (BA.out.kept (M2.out.new hK3) id);obtain⟨t0,t1,t2,t3,t4,t5,t6,t7⟩:=BAZ.out.p8;obtain⟨f0,f1,f2,f3,f4,f5,f6,f7⟩:=BAZ.out.f8;have HLD:Hid ((((((((w3.setCell ⟨gr,0,none⟩ (.int .i64 (fe:Nat))).setCell ⟨gr,1,none⟩ (.int .i64 0)).setCell ⟨gr,2,none⟩ (.int .i64 0)).setCell ⟨gr,3,none⟩ (.int .u8 0)).setCell ⟨gr,4,none⟩ (.int .i64 0)).setCell ⟨gr,5,none⟩ (.int .i64 0)).setCell ⟨gr,6,none⟩ (.slice none 0 0)).setCell ⟨gr,7,none⟩ (.slice none 0 0)=ans8 w3 gr (erA fe) none 0 0 none 0 0):=rfl;have DD:=jH (zah (a:=erA fe) (w0:=w0) (w:=w) (gt:=gt) (p:=p) (L:=L) (d':=0) (t':=0) (B':=none) (m:=0) (q:=0) (T':=none) BAZ.out HGR.out (HP.out.new N3.out) HN0.out (OwnB.nil _ _ _) rfl (Txs.nil _ _) (fun _ h=>by cases h) rfl (N3.out.mono fun _ _ f=>f.elim));have DB:=jH (zaf (a:=erA fe) (d':=0) (t':=0) (B':=none) (m:=0) (q:=0) (T':=none) BAZ.out);clear hK3))
  rw[HLD.out];generalize ans8 w3 gr (erA fe) none 0 0 none 0 0=wf at *;have d0:=DB.out.cell 0;have d1:=DB.out.cell 1;have d2:=DB.out.cell 2;have d3:=DB.out.cell 3;have d4:=DB.out.cell 4;have d5:=DB.out.cell 5;have d6:=DB.out.cell 6;have d7:=DB.out.cell 7;simp at d0 d1 d2 d3 d4 d5 d6 d7;refine bodyPost_ret (by simp[results,Tryz.results62,go_sem,d0,d1,d2,d3,d4,d5,d6,d7];try rfl) rfl ?_;rw[E9.out.1,E9.out.2];exact DD.out
end
section
open Go.RowKit
theorem mlist_any (w0:World) (gt p:Nat) (L:List ND) (q j d:Nat) (nm:ByteArray) (w:World) (h:PT w0 w gt p L) (hR:Rt ⟨p,L⟩) (h0:j≠0) {y:ND} (hy:ndI L j=some y):
  Calls Tryz.prog 64 #[.pointer (some ⟨gt,0,none⟩),.agg #[.int .i64 q,.string nm,.int .i64 j,.int .i64 d]] w (AnsP w0 w gt p ((lsF ⟨p,L⟩ y).1.l) ((lsF ⟨p,L⟩ y).2)):=by
 obtain⟨w1,hw1⟩:∃w1,w1=(w.alloc (.cells #[.int .i64 q,.string nm,.int .i64 j,.int .i64 d] 87)).alloc (.cells #[.int .i64 0,.int .i64 0,.int .i64 0,.int .u8 0,.int .i64 0,.int .i64 0,.slice none 0 0,.slice none 0 0] 41):=⟨_,rfl⟩
 have N1:Hid (New w w1):=by rw[hw1];exact (kR.alloc _).alloc _
 have BX:Hid (Blk w1 w.heap.size 87 [.int .i64 q,.string nm,.int .i64 j,.int .i64 d]):=by rw[hw1];exact (Blk.made w _ _).alloc _
 have BA:Hid (Blk w1 (w.heap.size+1) 41 [.int .i64 0,.int .i64 0,.int .i64 0,.int .u8 0,.int .i64 0,.int .i64 0,.slice none 0 0,.slice none 0 0]):=by
  have:=Blk.made (w.alloc (.cells #[.int .i64 q,.string nm,.int .i64 j,.int .i64 d] 87)) 41 #[.int .i64 0,.int .i64 0,.int .i64 0,.int .u8 0,.int .i64 0,.int .i64 0,.slice none 0 0,.slice none 0 0]
  rw[World.size_alloc] at this;rw[hw1];exact this
 have HW:=jH hw1;have HP:=jH h
 have HN0:Hid (New w0 w):=by obtain⟨_,_,_,_,_,_,_,h5,_⟩:=h;exact h5
 have HGT:Hid (gt < w.heap.size):=h.lt;clear hw1;obtain⟨kr,hkr⟩:∃kr,kr=kindE j y.k 1:=⟨_,rfl⟩;have hlen:L.length≤1000:=Nat.le_trans (show L.length≤48 from hR.len) (by omega)
 have CK:Hid (Calls Tryz.prog 87 #[.pointer (some ⟨gt,0,none⟩),.agg #[.int .i64 q,.string nm,.int .i64 j,.int .i64 d],.int .u8 1] w1 (MNew w1 ((kr:Nat):Int))):=by
  rw[hkr];exact kind_node w0 gt p L q j d 1 nm y w1 (h.new N1.out) hR.ord hlen h0 hy
 obtain⟨xs,hxs⟩:∃xs,xs=y.ns.map (·.1):=⟨_,rfl⟩
 have HBAD:Hid (kr≠0→(lsF ⟨p,L⟩ y).1.l=L∧(lsF ⟨p,L⟩ y).2=erA kr):=fun hk=>by
  rw[hkr] at hk ⊢;unfold kindE at *;rw[if_neg h0] at *
  by_cases h2:y.k=1
  ·rw[if_pos h2] at hk;exact absurd rfl hk
  ·unfold lsF;rw[if_neg h2,if_pos h2];exact⟨rfl,rfl⟩
 have HOK:Hid (kr=0→(lsF ⟨p,L⟩ y).1.l=L∧(lsF ⟨p,L⟩ y).2={ erA 0 with ns:=xs }):=fun hk=>by
  rw[hkr] at hk;unfold kindE at hk;rw[if_neg h0] at hk
  by_cases h2:y.k=1
  ·unfold lsF;rw[if_neg (fun e=>e h2),hxs];exact⟨rfl,rfl⟩
  ·rw[if_neg h2] at hk;cases hk
 obtain⟨ga,pj,x,_,hCN,hZC⟩:=node_on h hR.ord hlen hy;have CN:=jH hCN
 have XN:Hid (∀u,New w u→NmIn u x.A y.ns):=fun u hu=>(hZC u hu).2.2.2.2.2.1
 have ZC:Hid (∀u,New w u→u.cell? ⟨ga,pj*5+3,none⟩=some (.slice x.A y.ns.length x.c)):=fun u hu=>(hZC u hu).2.2.2.1
 have XL:Hid (y.ns.length≤288):=hR.ns_le (zaa hy).1
 have LX:Hid (xs.length=y.ns.length):=by rw[hxs,Hid,List.length_map]
 have HX:Hid (∀(t:Nat) (e:ByteArray×Nat),y.ns[t]?=some e→xs[t]?=some e.1):=fun t e he=>by rw[hxs,List.getElem?_map,he];rfl
 clear h hR h0 hy hkr hxs hlen hCN hZC;generalize (lsF ⟨p,L⟩ y).1.l=LR at *;generalize (lsF ⟨p,L⟩ y).2=AR at *;generalize y.ns=zs at *;generalize hzl:zs.length=zl at *;have HZL:=jH hzl;have hz288:=XL.out;clear hzl XL;go_enter Tryz.func64,Tryz.ntmps64
 go_upto_region 1 with fail
 rw[←HW.out];clear HW;obtain⟨gr,hgr⟩:∃gr,gr=w.heap.size+1:=⟨_,rfl⟩;rw[←hgr] at BA ⊢
 have HGR:Hid (w.heap.size≤gr):=by rw[Hid,hgr];exact Nat.le_succ _
 have HTA:Hid (¬Tr w1 gt gr):=Tr.not BA.out.at_ (by decide) (by decide) (by have:=HGT.out;omega);have HTX:Hid (¬Tr w1 gt w.heap.size):=Tr.not BX.out.at_ (by decide) (by decide) (by have:=HGT.out;omega);clear hgr;obtain⟨b0,b1,b2,b3⟩:=BX.out.p4;obtain⟨gk,hgk⟩:∃gk,gk=w.heap.size:=⟨_,rfl⟩;rw[←hgk] at BX HTX b0 b1 b2 b3 ⊢;clear hgk;have RF:=jH (fun u=>zac kr u)
 by_cases hkr:kr=0
 ·have d0:(((kr:Nat):Int) != 0)=false:=bne_eq_false_iff_eq.2 (by omega);have E9:=jH (HOK.out hkr);clear hkr HOK HBAD RF
  go_wp2_with (first
   | (go_at_call 87;refine (CK.out).mono ?_;rintro e w2 ⟨rfl,hK2⟩;have N2:=jH (N1.out.new hK2);have M2:=jH hK2;obtain⟨b0,b1,b2,b3⟩:=(BX.out.kept hK2 (by first|exact id|exact HTX.out)).p4;clear hK2)
   | (go_at_call 72;refine (CN.out w2 N2.out).mono ?_;rintro e w4 ⟨rfl,hK4⟩;have N4:=jH (N2.out.new hK4);have M4:=jH (M2.out.new hK4);have z3:=ZC.out w4 N4.out;clear hK4))
  clear z3 b0 b1 b2 b3
  go_loopw [6,24] (fun a b wr=>∃(t:Nat) (A5:Option Addr) (c5:Nat),t≤zl∧b=.int .i64 t∧a=.slice A5 t c5∧Hid (OwnT wr w4.heap.size A5 c5 ((xs.map (·.data.toList)).take t))∧Hid (New w4 wr)) (fun _ b _=>zl - (intOf b).toNat)
  case atStart=>exact⟨0,none,0,Nat.zero_le _,rfl,rfl,OwnT.nil _ _,kR⟩
  case round=>
   obtain⟨t,A5,c5,ht,rfl,rfl,VO,VN⟩:=hrel
   by_cases hlt:t < zl
   ·obtain⟨g2,o2,e,eA2,he⟩:=NmIn.pos (XN.out wr (N4.out.new VN.out)) (i:=t) (by rw[HZL.out];exact hlt);obtain⟨x0,x1⟩:=NmIn.get (g:=g2) (o:=o2) (by rw[←eA2];exact XN.out wr (N4.out.new VN.out)) he
    have GE:Hid ((xs.map (·.data.toList))[t]?=some e.1.data.toList):=by rw[Hid,List.getElem?_map,HX.out t e he];rfl
    have HN:Hid (t=((xs.map (·.data.toList)).take t).length):=by rw[Hid,List.length_take,List.length_map,LX.out];omega
    rw[eA2];clear he eA2
    go_wp2_with (first
     | (at_builtin;refine zas _ rfl _ _ rfl w4.heap.size A5 t c5 _ rfl ((VO.out.alloc _).alloc _) HN.out _ 1 1 [e.1.data.toList] rfl (Txs.one _ _ _ _ (by rw[World.size_alloc])) (by omega) ((VN.out.alloc _).alloc _).size ?_)
     | fail)
    intro A8 c8 w8 O8 g8;have K8:=jH (Kept.of_ownT ((VN.out.alloc _).alloc _) ((VO.out.alloc _).alloc _) (Nat.le_refl _) g8.out)
    have E1:Hid (OwnT w8 w4.heap.size A8 c8 ((xs.map (·.data.toList)).take (t+1))):=by rw[List.take_add_one,GE.out];exact O8.out
    clear O8 g8 VO VN x0 x1 GE HN;go_wp2;go_roundw
    case rel=>exact⟨t+1,A8,c8,by omega,by go_num,by go_num,E1,K8⟩
    case measure=>simp[intOf];omega
   ·obtain rfl:t=zl:=by omega
    have LXT:Hid (xs.length=t):=LX
    have VF:Hid (OwnT wr w4.heap.size A5 c5 (xs.map (·.data.toList))):=by
     have:=VO.out
     rwa [List.take_of_length_le (by rw[List.length_map,LX.out];exact Nat.le_refl _)] at this
    have NWR:Hid (New w wr):=N4.out.new VN.out;have MWR:Hid (New w1 wr):=M4.out.new VN.out
    have TX3:Hid (Txs wr A5 t (xs.map (·.data.toList))):=by
     have:=VF.out.txs
     rwa [List.length_map,LX.out] at this
    have AT3:Hid (∀x,A5=some x→At wr x.block 9):=fun x hx=>(VF.out.at_ x hx).1
    clear VO;have BAZ:=jH (BA.out.kept MWR.out id);obtain⟨t0,t1,t2,t3,t4,t5,t6,t7⟩:=BAZ.out.p8;obtain⟨f0,f1,f2,f3,f4,f5,f6,f7⟩:=BAZ.out.f8;have HLD:Hid ((((((((wr.setCell ⟨gr,0,none⟩ (.int .i64 0)).setCell ⟨gr,1,none⟩ (.int .i64 0)).setCell ⟨gr,2,none⟩ (.int .i64 0)).setCell ⟨gr,3,none⟩ (.int .u8 0)).setCell ⟨gr,4,none⟩ (.int .i64 0)).setCell ⟨gr,5,none⟩ (.int .i64 0)).setCell ⟨gr,6,none⟩ (.slice none 0 0)).setCell ⟨gr,7,none⟩ (.slice A5 t c5)=ans8 wr gr ({ erA 0 with ns:=xs }) none 0 0 A5 t c5):=rfl;have DD:=jH (zah (a:={ erA 0 with ns:=xs }) (w0:=w0) (w:=w) (gt:=gt) (p:=p) (L:=L) (d':=0) (t':=c5) (B':=none) (m:=0) (q:=t) (T':=A5) BAZ.out HGR.out (HP.out.new NWR.out) HN0.out (OwnB.nil _ _ _) rfl TX3.out AT3.out LXT.out (NWR.out.mono fun _ _ f=>f.elim))
    have DB:=jH (zaf (a:={ erA 0 with ns:=xs }) (d':=0) (t':=c5) (B':=none) (m:=0) (q:=t) (T':=A5) BAZ.out);go_wp2_with fail;rw[HLD.out];generalize ans8 wr gr ({ erA 0 with ns:=xs }) none 0 0 A5 t c5=wf at *;have d0:=DB.out.cell 0;have d1:=DB.out.cell 1;have d2:=DB.out.cell 2;have d3:=DB.out.cell 3;have d4:=DB.out.cell 4;have d5:=DB.out.cell 5;have d6:=DB.out.cell 6;have d7:=DB.out.cell 7;simp at d0 d1 d2 d3 d4 d5 d6 d7;refine bodyPost_ret (by simp[results,Tryz.results64,go_sem,d0,d1,d2,d3,d4,d5,d6,d7];try rfl) rfl ?_;rw[E9.out.1,E9.out.2]
    have:=DD.out
    rw[←LXT.out] at this ⊢;exact this
 ·have d0:(((kr:Nat):Int) != 0)=true:=bne_iff_ne.2 (by omega);have E9:=jH (HBAD.out hkr);clear hkr
  go_wp2_with (first
   | (go_at_call 87;refine (CK.out).mono ?_;rintro e w2 ⟨rfl,hK2⟩;have N2:=jH (N1.out.new hK2);have M2:=jH hK2;clear hK2)
   | (go_at_call 32;refine (RF.out _).mono ?_;rintro e w3 ⟨rfl,hK3⟩;have N3:=jH (N2.out.new hK3);have BAZ:=jH (BA.out.kept (M2.out.new hK3) id);obtain⟨t0,t1,t2,t3,t4,t5,t6,t7⟩:=BAZ.out.p8;obtain⟨f0,f1,f2,f3,f4,f5,f6,f7⟩:=BAZ.out.f8;have HLD:Hid ((((((((w3.setCell ⟨gr,0,none⟩ (.int .i64 (kr:Nat))).setCell ⟨gr,1,none⟩ (.int .i64 0)).setCell ⟨gr,2,none⟩ (.int .i64 0)).setCell ⟨gr,3,none⟩ (.int .u8 0)).setCell ⟨gr,4,none⟩ (.int .i64 0)).setCell ⟨gr,5,none⟩ (.int .i64 0)).setCell ⟨gr,6,none⟩ (.slice none 0 0)).setCell ⟨gr,7,none⟩ (.slice none 0 0)=ans8 w3 gr (erA kr) none 0 0 none 0 0):=rfl;have DD:=jH (zah (a:=erA kr) (w0:=w0) (w:=w) (gt:=gt) (p:=p) (L:=L) (d':=0) (t':=0) (B':=none) (m:=0) (q:=0) (T':=none) BAZ.out HGR.out (HP.out.new N3.out) HN0.out (OwnB.nil _ _ _) rfl (Txs.nil _ _) (fun _ h=>by cases h) rfl (N3.out.mono fun _ _ f=>f.elim));have DB:=jH (zaf (a:=erA kr) (d':=0) (t':=0) (B':=none) (m:=0) (q:=0) (T':=none) BAZ.out);clear hK3))
  rw[HLD.out];generalize ans8 w3 gr (erA kr) none 0 0 none 0 0=wf at *;have d0:=DB.out.cell 0;have d1:=DB.out.cell 1;have d2:=DB.out.cell 2;have d3:=DB.out.cell 3;have d4:=DB.out.cell 4;have d5:=DB.out.cell 5;have d6:=DB.out.cell 6;have d7:=DB.out.cell 7;simp at d0 d1 d2 d3 d4 d5 d6 d7;refine bodyPost_ret (by simp[results,Tryz.results64,go_sem,d0,d1,d2,d3,d4,d5,d6,d7];try rfl) rfl ?_;rw[E9.out.1,E9.out.2];exact DD.out
end
end Go.Proofs.YtjjamoemheljdaaGreat
