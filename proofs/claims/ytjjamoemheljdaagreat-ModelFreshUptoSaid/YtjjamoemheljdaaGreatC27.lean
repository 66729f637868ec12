/-
  Layer 7: contracts (Yq).
-/
import Derived.Test.YtjjamoemheljdaaGreatC26
namespace Go.Proofs.YtjjamoemheljdaaGreat
set_option maxRecDepth 100000
set_option maxHeartbeats 8000000
set_option linter.unusedSimpArgs false
set_option linter.unusedVariables false
section
open Go.RowKit
theorem mcut_any (w0:World) (gt p:Nat) (L:List ND) (q j d:Nat) (nm:ByteArray) (kk:Nat) (sp st:ByteArray) (av nv:Int) (Ab:Option Addr) (bl bc:Nat) (w:World) (h:PT w0 w gt p L) (hR:Rt ⟨p,L⟩) (h0:j≠0) {y:ND} (hy:ndI L j=some y) (hk8:kk=8) (ab:List Nat):
  Calls Tryz.prog 61 #[.pointer (some ⟨gt,0,none⟩),.agg #[.int .i64 q,.string nm,.int .i64 j,.int .i64 d],.agg #[.int .u8 kk,.string sp,.string st,.int .i64 av,.int .i64 nv,.slice Ab bl bc]] w (AnsP w0 w gt p ((bytF ⟨p,L⟩ ⟨kk,sp,st,av,nv,ab⟩ j y).1.l) ((bytF ⟨p,L⟩ ⟨kk,sp,st,av,nv,ab⟩ j y).2)):=by
 obtain⟨w1,hw1⟩:∃w1,w1=((w.alloc (.cells #[.int .i64 q,.string nm,.int .i64 j,.int .i64 d] 87)).alloc (.cells #[.int .u8 kk,.string sp,.string st,.int .i64 av,.int .i64 nv,.slice Ab bl bc] 34)).alloc (.cells #[.int .i64 0,.int .i64 0,.int .i64 0,.int .u8 0,.int .i64 0,.int .i64 0,.slice none 0 0,.slice none 0 0] 41):=⟨_,rfl⟩
 have N1:Hid (New w w1):=by rw[hw1];exact ((kR.alloc _).alloc _).alloc _
 have BX:Hid (Blk w1 w.heap.size 87 [.int .i64 q,.string nm,.int .i64 j,.int .i64 d]):=by rw[hw1];exact ((Blk.made w _ _).alloc _).alloc _
 have BC:Hid (Blk w1 (w.heap.size+1) 34 [.int .u8 kk,.string sp,.string st,.int .i64 av,.int .i64 nv,.slice Ab bl bc]):=by
  have:=Blk.made (w.alloc (.cells #[.int .i64 q,.string nm,.int .i64 j,.int .i64 d] 87)) 34 #[.int .u8 kk,.string sp,.string st,.int .i64 av,.int .i64 nv,.slice Ab bl bc]
  rw[World.size_alloc] at this;rw[hw1];exact this.alloc _
 have BA:Hid (Blk w1 (w.heap.size+1+1) 41 [.int .i64 0,.int .i64 0,.int .i64 0,.int .u8 0,.int .i64 0,.int .i64 0,.slice none 0 0,.slice none 0 0]):=by
  have:=Blk.made ((w.alloc (.cells #[.int .i64 q,.string nm,.int .i64 j,.int .i64 d] 87)).alloc (.cells #[.int .u8 kk,.string sp,.string st,.int .i64 av,.int .i64 nv,.slice Ab bl bc] 34)) 41 #[.int .i64 0,.int .i64 0,.int .i64 0,.int .u8 0,.int .i64 0,.int .i64 0,.slice none 0 0,.slice none 0 0]
  rw[World.size_alloc,World.size_alloc] at this;rw[hw1];exact this
 have HW:=jH hw1;have HP:=jH h
 have HN0:Hid (New w0 w):=by obtain⟨_,_,_,_,_,_,_,h5,_⟩:=h;exact h5
 have HGT:Hid (gt < w.heap.size):=h.lt;clear hw1;have hlen:L.length≤1000:=Nat.le_trans (show L.length≤48 from hR.len) (by omega);obtain⟨ga,pj,x,hxn,hFA,hZC,hST⟩:=file_on h hR.ord hlen h0 hy q d kk bl bc nm sp st av nv Ab;have FA:=jH hFA;have ZC:=jH hZC;have ST:=jH hST;have hpp:p≤255:=hR.p2;obtain⟨fe,hfe⟩:∃fe,fe=fE y.k av nv:=⟨_,rfl⟩
 have HBAD:Hid (fe≠0→(bytF ⟨p,L⟩ ⟨kk,sp,st,av,nv,ab⟩ j y).1.l=L∧(bytF ⟨p,L⟩ ⟨kk,sp,st,av,nv,ab⟩ j y).2=erA fe):=fun hk=>by
  rw[hfe] at hk ⊢;unfold fE at *
  by_cases h2:y.k≠2
  ·rw[if_pos h2];unfold bytF;rw[if_pos h2];exact⟨rfl,rfl⟩
  ·rw[if_neg h2] at hk ⊢
   by_cases h3:av < 0∨nv < 0
   ·rw[if_pos h3];unfold bytF;rw[if_neg h2,if_pos h3];exact⟨rfl,rfl⟩
   ·rw[if_neg h3] at hk;exact absurd rfl hk
 have hfz:fe=0→¬y.k≠2∧¬(av < 0∨nv < 0):=fun hk=>by
  rw[hfe] at hk;unfold fE at hk
  by_cases h2:y.k≠2
  ·rw[if_pos h2] at hk;cases hk
  ·rw[if_neg h2] at hk
   by_cases h3:av < 0∨nv < 0
   ·rw[if_pos h3] at hk;cases hk
   ·exact⟨h2,h3⟩
 have HNV:Hid (fe=0→∃m:Nat,nv=m):=fun hk=>⟨nv.toNat,by have:=(hfz hk).2;omega⟩
 have HB3:Hid (fe=0→8*p < nv.toNat→(bytF ⟨p,L⟩ ⟨kk,sp,st,av,nv,ab⟩ j y).1.l=L∧(bytF ⟨p,L⟩ ⟨kk,sp,st,av,nv,ab⟩ j y).2=erA 3):=fun hk h3=>by
  obtain⟨g1,g2⟩:=hfz hk;unfold bytF;rw[if_neg g1,if_neg g2,if_neg (by show ¬kk=9;omega),if_pos hk8,if_pos h3];exact⟨rfl,rfl⟩
 have HOK:Hid (fe=0→¬8*p < nv.toNat→(bytF ⟨p,L⟩ ⟨kk,sp,st,av,nv,ab⟩ j y).1.l=bytE L j (cutB y.b nv.toNat)∧(bytF ⟨p,L⟩ ⟨kk,sp,st,av,nv,ab⟩ j y).2=erA 0):=fun hk h3=>by
  obtain⟨g1,g2⟩:=hfz hk;unfold bytF;rw[if_neg g1,if_neg g2,if_neg (by show ¬kk=9;omega),if_pos hk8,if_neg h3];exact⟨rfl,rfl⟩
 rw[←hfe] at FA
 have CM:Hid (∀u,New w u→∀n,Calls Tryz.prog 95 #[.pointer (some ⟨gt,0,none⟩)] (u.drewN n) (fun e w'=>e=.returned (.int .i64 (8*p:Nat))∧w'=u.drewN n)):=fun u hu n=>most_any w0 gt p L _ (h.new (hu.drewN n)) (by omega)
 have CS:Hid (∀u (m:Nat),New w u→m≤1000000→Calls Tryz.prog 79 #[.slice x.B y.b.length x.d,.int .i64 (m:Nat)] u (MdP u 5 m ((cutB y.b m).map byt))):=fun u m hu hm=>by
  have hb:=(hZC u hu).2.2.1
  have:=sizedBy_any x.B y.b.length x.d m (y.b.map byt) u (RowV.of_bts hb) (byt_one _) (by omega)
  have e:=cut_cells y.b m;rw[e] at this;exact this
 have HCB:Hid (∀m,∀v∈cutB y.b m,v < 256):=fun m v hv=>by
  unfold cutB at hv
  rcases List.mem_append.1 hv with hv|hv
  ·exact ((hR.fin _ (zaa hy).1).2.2.1) v (List.mem_of_mem_take hv)
  ·have:=List.eq_of_mem_replicate hv;omega
 clear h hR h0 hy hfe hfz hlen hFA hZC hST hxn hk8;generalize (bytF ⟨p,L⟩ ⟨kk,sp,st,av,nv,ab⟩ j y).1.l=LR at *;generalize (bytF ⟨p,L⟩ ⟨kk,sp,st,av,nv,ab⟩ j y).2=AR at *;generalize y.b.length=bz at *;generalize y.b=yb at *;go_enter Tryz.func61,Tryz.ntmps61
 go_upto_region 1 with fail
 rw[←HW.out];clear HW;obtain⟨gr,hgr⟩:∃gr,gr=w.heap.size+1+1:=⟨_,rfl⟩;obtain⟨gc,hgc⟩:∃gc,gc=w.heap.size+1:=⟨_,rfl⟩;rw[←hgr] at BA ⊢;rw[←hgc] at BC ⊢
 have HGR:Hid (w.heap.size≤gr):=by rw[Hid,hgr];omega
 have HTA:Hid (¬Tr w1 gt gr):=Tr.not BA.out.at_ (by decide) (by decide) (by have:=HGT.out;omega);have HTX:Hid (¬Tr w1 gt w.heap.size):=Tr.not BX.out.at_ (by decide) (by decide) (by have:=HGT.out;omega);have HTC:Hid (¬Tr w1 gt gc):=Tr.not BC.out.at_ (by decide) (by decide) (by have:=HGT.out;omega);clear hgr hgc;obtain⟨b0,b1,b2,b3⟩:=BX.out.p4;obtain⟨c0,c1,c2,c3,c4,c5⟩:=BC.out.p6;obtain⟨gk,hgk⟩:∃gk,gk=w.heap.size:=⟨_,rfl⟩;rw[←hgk] at BX HTX b0 b1 b2 b3 ⊢;clear hgk
 by_cases hf0:fe=0
 ·obtain⟨m,hm⟩:=HNV.out hf0;subst hm;subst hf0;clear HBAD;have B3:=jH (HB3.out rfl);have OK:=jH (HOK.out rfl);rw[show ((m:Nat):Int).toNat=m from Int.toNat_natCast m] at B3 OK;clear HB3 HOK HNV;have FA:Hid (∀u,New w u→Calls Tryz.prog 94 #[.pointer (some ⟨gt,0,none⟩),.agg #[.int .i64 q,.string nm,.int .i64 j,.int .i64 d],.agg #[.int .u8 kk,.string sp,.string st,.int .i64 av,.int .i64 (m:Nat),.slice Ab bl bc]] u (fun e w'=>e=.returned (.tuple #[.pointer (some ⟨ga,pj*5,none⟩),.int .i64 0])∧New u w')):=FA.out
  by_cases h3:8*p < m
  ·have E9:=jH (B3.out h3);have d1:decide (((8*p:Nat):Int) < ((m:Nat):Int))=true:=decide_eq_true (by omega);have d2':decide (8*((p:Nat):Int) < ((m:Nat):Int))=true:=decide_eq_true (by omega);clear B3 OK h3
   go_upto_region 4 with (go_at_call 94;refine (FA.out w1 N1.out).mono ?_;rintro e w2 ⟨rfl,hK2⟩;have N2:=jH (N1.out.new hK2);have M2:=jH hK2;obtain⟨c0,c1,c2,c3,c4,c5⟩:=(BC.out.kept hK2 (by first|exact id|exact HTC.out)).p6;clear hK2)
   go_quiet ((go_at_call 95;exact Calls.quiet_of_same (CM.out w2 N2.out _)))
   have N5:Hid (New w (w2.drewN nq)):=N2.out.drewN _;have M5:Hid (New w1 (w2.drewN nq)):=M2.out.drewN _;clear c0 c1 c2 c3 c4 c5;generalize w2.drewN nq=w5 at *
   go_wp2_with (go_at_call 32;refine (zac 3 _).mono ?_;rintro e w6 ⟨rfl,hK6⟩;have N6:=jH (N5.out.new hK6);have BAZ:=jH (BA.out.kept (M5.out.new hK6) id);obtain⟨t0,t1,t2,t3,t4,t5,t6,t7⟩:=BAZ.out.p8;obtain⟨f0,f1,f2,f3,f4,f5,f6,f7⟩:=BAZ.out.f8;have HLD:Hid ((((((((w6.setCell ⟨gr,0,none⟩ (.int .i64 3)).setCell ⟨gr,1,none⟩ (.int .i64 0)).setCell ⟨gr,2,none⟩ (.int .i64 0)).setCell ⟨gr,3,none⟩ (.int .u8 0)).setCell ⟨gr,4,none⟩ (.int .i64 0)).setCell ⟨gr,5,none⟩ (.int .i64 0)).setCell ⟨gr,6,none⟩ (.slice none 0 0)).setCell ⟨gr,7,none⟩ (.slice none 0 0)=ans8 w6 gr (erA 3) none 0 0 none 0 0):=rfl;have DD:=jH (zah (a:=erA 3) (w0:=w0) (w:=w) (gt:=gt) (p:=p) (L:=L) (d':=0) (t':=0) (B':=none) (m:=0) (q:=0) (T':=none) BAZ.out HGR.out (HP.out.new N6.out) HN0.out (OwnB.nil _ _ _) rfl (Txs.nil _ _) (fun _ h=>by cases h) rfl (N6.out.mono fun _ _ f=>f.elim));have DB:=jH (zaf (a:=erA 3) (d':=0) (t':=0) (B':=none) (m:=0) (q:=0) (T':=none) BAZ.out);clear hK6)
   rw[HLD.out];generalize ans8 w6 gr (erA 3) none 0 0 none 0 0=wf at *;have d0:=DB.out.cell 0;have d1:=DB.out.cell 1;have d2:=DB.out.cell 2;have d3:=DB.out.cell 3;have d4:=DB.out.cell 4;have d5:=DB.out.cell 5;have d6:=DB.out.cell 6;have d7:=DB.out.cell 7;simp at d0 d1 d2 d3 d4 d5 d6 d7;refine bodyPost_ret (by simp[results,Tryz.results61,go_sem,d0,d1,d2,d3,d4,d5,d6,d7];try rfl) rfl ?_;rw[E9.out.1,E9.out.2];exact DD.out
  ·have E9:=jH (OK.out h3);have d1:decide (((8*p:Nat):Int) < ((m:Nat):Int))=false:=decide_eq_false (by omega);have d2':decide (8*((p:Nat):Int) < ((m:Nat):Int))=false:=decide_eq_false (by omega)
   have hm8:m≤2040:=by omega
   have HM8:=jH hm8;have HCL:Hid ((cutB yb m).length=m):=zbw yb m;clear B3 OK h3 hm8
   go_upto_region 4 with (go_at_call 94;refine (FA.out w1 N1.out).mono ?_;rintro e w2 ⟨rfl,hK2⟩;have N2:=jH (N1.out.new hK2);have M2:=jH hK2;obtain⟨c0,c1,c2,c3,c4,c5⟩:=(BC.out.kept hK2 (by first|exact id|exact HTC.out)).p6;clear hK2)
   go_quiet ((go_at_call 95;exact Calls.quiet_of_same (CM.out w2 N2.out _)))
   have N5:Hid (New w (w2.drewN nq)):=N2.out.drewN _;have M5:Hid (New w1 (w2.drewN nq)):=M2.out.drewN _;clear c0 c1 c2 c3 c4 c5;generalize w2.drewN nq=w5 at *;have c4:=(BC.out.kept M5.out id).q4;obtain⟨z4,f4,_⟩:=ZC.out w5 N5.out;have HSZ:Hid (w0.heap.size≤w5.heap.size):=Nat.le_trans HN0.out.size N5.out.size
   go_upto_region 6 with fail
   have N6:Hid (New w w5.drew):=N5.out.drew;have M6:Hid (New w1 w5.drew):=M5.out.drew
   go_region_law (first
    | (go_simp;go_at_call 79;refine (CS.out _ m (by first|exact N6.out|exact N5.out) (by have:=HM8.out;omega)).mono ?_;intro e w7 hMP;have O7:=MdP.ownB hMP HCL.out (HCB.out m) (by have:=HM8.out;unfold maxLen;omega);have N7:=jH (N6.out.new (by first|exact hMP.2.2|exact zbm hMP.2.2));have M7:=jH (M6.out.new (by first|exact hMP.2.2|exact zbm hMP.2.2));have EQ7:=hMP.1;clear hMP;subst EQ7;obtain⟨z4,f4,_⟩:=ZC.out w7 N7.out;have ST7:=jH (fun u' he=>ST.out w7 w5.heap.size m _ u' N7.out (O7.mono HSZ.out) HCL.out he)))
   all_goals
    obtain⟨hP8,hK8⟩:=ST7.out _ rfl;clear z4 f4 c4;generalize w7.setCell ⟨ga,pj*5+4,none⟩ (.slice (some ⟨w5.heap.size,0,none⟩) m m)=w8 at *;have BAZ:=jH (BA.out.kept (Tr.new M7.out hK8) HTA.out);obtain⟨t0,t1,t2,t3,t4,t5,t6,t7⟩:=BAZ.out.p8;obtain⟨f0,f1,f2,f3,f4,f5,f6,f7⟩:=BAZ.out.f8;have HLD:Hid ((((((((w8.setCell ⟨gr,0,none⟩ (.int .i64 0)).setCell ⟨gr,1,none⟩ (.int .i64 0)).setCell ⟨gr,2,none⟩ (.int .i64 0)).setCell ⟨gr,3,none⟩ (.int .u8 0)).setCell ⟨gr,4,none⟩ (.int .i64 0)).setCell ⟨gr,5,none⟩ (.int .i64 0)).setCell ⟨gr,6,none⟩ (.slice none 0 0)).setCell ⟨gr,7,none⟩ (.slice none 0 0)=ans8 w8 gr (erA 0) none 0 0 none 0 0):=rfl
    have DD:=jH (zah (a:=erA 0) (w0:=w0) (w:=w) (gt:=gt) (p:=p) (L:=(bytE L j (cutB yb m))) (d':=0) (t':=0) (B':=none) (m:=0) (q:=0) (T':=none) BAZ.out HGR.out (hP8) HN0.out (OwnB.nil _ _ _) rfl (Txs.nil _ _) (fun _ h=>by cases h) rfl (Tr.new N7.out hK8));have DB:=jH (zaf (a:=erA 0) (d':=0) (t':=0) (B':=none) (m:=0) (q:=0) (T':=none) BAZ.out);go_wp2_with fail;rw[HLD.out];generalize ans8 w8 gr (erA 0) none 0 0 none 0 0=wf at *;have d0:=DB.out.cell 0;have d1:=DB.out.cell 1;have d2:=DB.out.cell 2;have d3:=DB.out.cell 3;have d4:=DB.out.cell 4;have d5:=DB.out.cell 5;have d6:=DB.out.cell 6;have d7:=DB.out.cell 7
    simp at d0 d1 d2 d3 d4 d5 d6 d7;refine bodyPost_ret (by simp[results,Tryz.results61,go_sem,d0,d1,d2,d3,d4,d5,d6,d7];try rfl) rfl ?_;rw[E9.out.1,E9.out.2];exact DD.out
 ·have hz:∃n,fe=n+1:=⟨fe - 1,by omega⟩;have d0:(((fe:Nat):Int) != 0)=true:=bne_iff_ne.2 (by omega);have E9:=jH (HBAD.out hf0);obtain⟨n,rfl⟩:=hz;have FA:Hid (∀u,New w u→Calls Tryz.prog 94 #[.pointer (some ⟨gt,0,none⟩),.agg #[.int .i64 q,.string nm,.int .i64 j,.int .i64 d],.agg #[.int .u8 kk,.string sp,.string st,.int .i64 av,.int .i64 nv,.slice Ab bl bc]] u (fun e w'=>e=.returned (.tuple #[.pointer none,.int .i64 (n+1:Nat)])∧New u w')):=FA.out;have RF:=jH (fun u=>zac (n+1) u);clear hf0 HNV HB3 HOK HBAD;generalize n+1=fe at *
  go_wp2_with (first
   | (go_at_call 94;refine (FA.out w1 N1.out).mono ?_;rintro e w2 ⟨rfl,hK2⟩;have N2:=jH (N1.out.new hK2);have M2:=jH hK2;obtain⟨c0,c1,c2,c3,c4,c5⟩:=(BC.out.kept hK2 (by first|exact id|exact HTC.out)).p6;clear hK2)
   | (go_at_call 32;refine (RF.out _).mono ?_;rintro e w3 ⟨rfl,hK3⟩;have N3:=jH (N2.out.new hK3);have BAZ:=jH (BA.out.kept (M2.out.new hK3) id);obtain⟨t0,t1,t2,t3,t4,t5,t6,t7⟩:=BAZ.out.p8;obtain⟨f0,f1,f2,f3,f4,f5,f6,f7⟩:=BAZ.out.f8;have HLD:Hid ((((((((w3.setCell ⟨gr,0,none⟩ (.int .i64 (fe:Nat))).setCell ⟨gr,1,none⟩ (.int .i64 0)).setCell ⟨gr,2,none⟩ (.int .i64 0)).setCell ⟨gr,3,none⟩ (.int .u8 0)).setCell ⟨gr,4,none⟩ (.int .i64 0)).setCell ⟨gr,5,none⟩ (.int .i64 0)).setCell ⟨gr,6,none⟩ (.slice none 0 0)).setCell ⟨gr,7,none⟩ (.slice none 0 0)=ans8 w3 gr (erA fe) none 0 0 none 0 0):=rfl;have DD:=jH (zah (a:=erA fe) (w0:=w0) (w:=w) (gt:=gt) (p:=p) (L:=L) (d':=0) (t':=0) (B':=none) (m:=0) (q:=0) (T':=none) BAZ.out HGR.out (HP.out.new N3.out) HN0.out (OwnB.nil _ _ _) rfl (Txs.nil _ _) (fun _ h=>by cases h) rfl (N3.out.mono fun _ _ f=>f.elim));have DB:=jH (zaf (a:=erA fe) (d':=0) (t':=0) (B':=none) (m:=0) (q:=0) (T':=none) BAZ.out);clear hK3))
  rw[HLD.out];generalize ans8 w3 gr (erA fe) none 0 0 none 0 0=wf at *;have d0:=DB.out.cell 0;have d1:=DB.out.cell 1;have d2:=DB.out.cell 2;have d3:=DB.out.cell 3;have d4:=DB.out.cell 4;have d5:=DB.out.cell 5;have d6:=DB.out.cell 6;have d7:=DB.out.cell 7;simp at d0 d1 d2 d3 d4 d5 d6 d7;refine bodyPost_ret (by simp[results,Tryz.results61,go_sem,d0,d1,d2,d3,d4,d5,d6,d7];try rfl) rfl ?_;rw[E9.out.1,E9.out.2];exact DD.out
end
end Go.Proofs.YtjjamoemheljdaaGreat
