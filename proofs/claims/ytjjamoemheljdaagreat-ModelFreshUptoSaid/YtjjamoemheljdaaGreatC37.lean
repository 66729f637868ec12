/-
  Layer 7: contracts (Zc).
-/
import Derived.Test.YtjjamoemheljdaaGreatC36
namespace Go.Proofs.YtjjamoemheljdaaGreat
set_option maxRecDepth 100000
set_option maxHeartbeats 8000000
set_option linter.unusedSimpArgs false
set_option linter.unusedVariables false
section
open Go.RowKit
theorem mdo_mv (w0:World) (gt p:Nat) (L:List ND) (sp st:ByteArray) (av nv:Int) (Ab:Option Addr) (bl bc:Nat) (q j d r v d2:Nat) (nm nm2:ByteArray) (L9:List ND) (a9:AN) (un:Bool) (w:World) (h:PT w0 w gt p L)
  (hS:∀u,New w u→Calls Tryz.prog 53 #[.pointer (some ⟨gt,0,none⟩),.agg #[.int .u8 6,.string sp,.string st,.int .i64 av,.int .i64 nv,.slice Ab bl bc]] u (fun e w'=>New u w'∧e=.returned (.tuple #[.agg #[.int .i64 q,.string nm,.int .i64 j,.int .i64 d],.agg #[.int .i64 r,.string nm2,.int .i64 v,.int .i64 d2],.int .i64 0])))
  (hU:∀u,New w u→Calls Tryz.prog 59 #[.string st,.string sp] u (fun e w'=>e=.returned (.bool un)∧New u w'))
  (hA:∀u,New w u→Calls Tryz.prog 58 #[.pointer (some ⟨gt,0,none⟩),.agg #[.int .i64 q,.string nm,.int .i64 j,.int .i64 d],.agg #[.int .i64 r,.string nm2,.int .i64 v,.int .i64 d2],.bool un] u (AnsP w0 u gt p L9 a9)):
  Calls Tryz.prog 33 #[.pointer (some ⟨gt,0,none⟩),.agg #[.int .u8 6,.string sp,.string st,.int .i64 av,.int .i64 nv,.slice Ab bl bc]] w (AnsP w0 w gt p L9 a9):=by
 obtain⟨w1,hw1⟩:∃w1,w1=(w.alloc (.cells #[.int .u8 6,.string sp,.string st,.int .i64 av,.int .i64 nv,.slice Ab bl bc] 34)).alloc (.cells #[.int .i64 0,.int .i64 0,.int .i64 0,.int .u8 0,.int .i64 0,.int .i64 0,.slice none 0 0,.slice none 0 0] 41):=⟨_,rfl⟩
 have N1:Hid (New w w1):=by rw[hw1];exact (kR.alloc _).alloc _
 have BC:Hid (Blk w1 w.heap.size 34 [.int .u8 6,.string sp,.string st,.int .i64 av,.int .i64 nv,.slice Ab bl bc]):=by rw[hw1];exact (Blk.made w _ _).alloc _
 have BA:Hid (Blk w1 (w.heap.size+1) 41 [.int .i64 0,.int .i64 0,.int .i64 0,.int .u8 0,.int .i64 0,.int .i64 0,.slice none 0 0,.slice none 0 0]):=by
  have:=Blk.made (w.alloc (.cells #[.int .u8 6,.string sp,.string st,.int .i64 av,.int .i64 nv,.slice Ab bl bc] 34)) 41 #[.int .i64 0,.int .i64 0,.int .i64 0,.int .u8 0,.int .i64 0,.int .i64 0,.slice none 0 0,.slice none 0 0]
  rw[World.size_alloc] at this;rw[hw1];exact this
 have HW:=jH hw1;have HP:=jH h
 have HN0:Hid (New w0 w):=by obtain⟨_,_,_,_,_,_,_,h5,_⟩:=h;exact h5
 have HGT:Hid (gt < w.heap.size):=h.lt;clear hw1;have CS:=jH hS;have CA:=jH hA;have CU:=jH hU;clear h hS hA hU
 have CI:Hid (∀u,Calls Tryz.prog 52 #[.int .u8 6] u (fun e w'=>e=.returned (.bool true)∧New u w')):=fun u=>by
  have:=zbi 6 u
  rwa [decide_eq_true (by decide)] at this
 go_enter Tryz.func33,Tryz.ntmps33
 go_upto_region 1 with fail
 rw[←HW.out];clear HW;obtain⟨gr,hgr⟩:∃gr,gr=w.heap.size+1:=⟨_,rfl⟩;rw[←hgr] at BA ⊢
 have HGR:Hid (w.heap.size≤gr):=by rw[Hid,hgr];omega
 have HTA:Hid (¬Tr w1 gt gr):=Tr.not BA.out.at_ (by decide) (by decide) (by have:=HGT.out;omega)
 have HCA:Hid (¬w.heap.size=gr):=by rw[Hid,hgr];omega
 have HNG:Hid (¬gr=gt):=by have:=HGT.out;rw[Hid,hgr];omega
 clear hgr;obtain⟨gk,hgk⟩:∃gk,gk=w.heap.size:=⟨_,rfl⟩;rw[←hgk] at BC HCA ⊢;clear hgk;have c0:=BC.out.q0
 go_upto_region 6 with (first
  | (go_at_call 52;refine (CI.out _).mono ?_;rintro e w2 ⟨rfl,hK2⟩;have N2:=jH (N1.out.new hK2);have M2:Hid (New w1 w2):=hK2;clear hK2;obtain⟨c0,c1,c2,c3,c4,c5⟩:=(BC.out.kept M2.out id).p6)
  | (go_at_call 53;refine (CS.out _ N2.out).mono ?_;rintro e w3 ⟨hK3,rfl⟩;have N3:=jH (N2.out.new hK3);have M3:Hid (New w1 w3):=M2.out.new hK3;clear hK3;obtain⟨c0,c1,c2,c3,c4,c5⟩:=(BC.out.kept M3.out id).p6))
 obtain⟨w4,hw4⟩:∃w4,w4=(w3.alloc (.cells #[.int .i64 q,.string nm,.int .i64 j,.int .i64 d] 87)).alloc (.cells #[.int .i64 r,.string nm2,.int .i64 v,.int .i64 d2] 87):=⟨_,rfl⟩;rw[←hw4]
 have k4:New w3 w4:=by rw[hw4];exact (kR.alloc _).alloc _
 have BS4:Hid (Blk w4 w3.heap.size 87 [.int .i64 q,.string nm,.int .i64 j,.int .i64 d]):=by rw[hw4];exact (Blk.made w3 _ _).alloc _
 have BT4:Hid (Blk w4 (w3.heap.size+1) 87 [.int .i64 r,.string nm2,.int .i64 v,.int .i64 d2]):=by
  have:=Blk.made (w3.alloc (.cells #[.int .i64 q,.string nm,.int .i64 j,.int .i64 d] 87)) 87 #[.int .i64 r,.string nm2,.int .i64 v,.int .i64 d2]
  rw[World.size_alloc] at this;rw[hw4];exact this
 have N4:=jH (N3.out.new k4);have M4:=jH (M3.out.new k4);clear hw4 k4 c0 c1 c2 c3 c4 c5 N3 M3;obtain⟨g6,hg6⟩:∃g6,g6=w3.heap.size+1:=⟨_,rfl⟩;rw[←hg6] at BT4 ⊢;clear hg6;generalize w3.heap.size=g5 at *;have BA4:=jH (BA.out.kept M4.out id)
 have HTT:Hid (At w4 gt 25):=by obtain⟨_,_,_,hB,_⟩:=HP.out.new N4.out;exact hB.at_
 obtain⟨s0,s1,s2,s3⟩:=BS4.out.p4;obtain⟨r0,r1,r2,r3⟩:=BT4.out.p4;obtain⟨c0,c1,c2,c3,c4,c5⟩:=(BC.out.kept M4.out id).p6
 have HT5:Hid (¬(Tr w4 gt g5∨g5=gr)):=by
  have h1:=Tr.not BS4.out.at_ (by decide) (by decide) (fun e=>HTT.out.ne_of BS4.out.at_ (by decide) (by first|exact e|exact e.symm));rintro (e|e)
  ·exact h1 e
  ·exact BS4.out.at_.ne_of BA4.out.at_ (by decide) e
 have HT6:Hid (¬(Tr w4 gt g6∨g6=gr)):=by
  have h1:=Tr.not BT4.out.at_ (by decide) (by decide) (fun e=>HTT.out.ne_of BT4.out.at_ (by decide) (by first|exact e|exact e.symm));rintro (e|e)
  ·exact h1 e
  ·exact BT4.out.at_.ne_of BA4.out.at_ (by decide) e
 have HTK:Hid (¬(Tr w4 gt gk∨gk=gr)):=by
  have hc:=(BC.out.kept M4.out id).at_;have h1:=Tr.not hc (by decide) (by decide) (fun e=>HTT.out.ne_of hc (by decide) (by first|exact e|exact e.symm));rintro (e|e)
  ·exact h1 e
  ·exact hc.ne_of BA4.out.at_ (by decide) e
 have SG:Hid (∀u:World,Kept (fun k=>Tr w4 gt k∨k=gr) w4 u→(u.cell? ⟨g5,0,none⟩=some (.int .i64 q)∧u.cell? ⟨g5,1,none⟩=some (.string nm)∧u.cell? ⟨g5,2,none⟩=some (.int .i64 j)∧u.cell? ⟨g5,3,none⟩=some (.int .i64 d)∧u.cell? ⟨g6,0,none⟩=some (.int .i64 r)∧u.cell? ⟨g6,1,none⟩=some (.string nm2)∧u.cell? ⟨g6,2,none⟩=some (.int .i64 v)∧u.cell? ⟨g6,3,none⟩=some (.int .i64 d2)∧u.cell? ⟨gk,1,none⟩=some (.string sp)∧u.cell? ⟨gk,2,none⟩=some (.string st))):=fun u hu=>⟨hu.cell s0 HT5.out,hu.cell s1 HT5.out,hu.cell s2 HT5.out,hu.cell s3 HT5.out,hu.cell r0 HT6.out,hu.cell r1 HT6.out,hu.cell r2 HT6.out,hu.cell r3 HT6.out,hu.cell c1 HTK.out,hu.cell c2 HTK.out⟩
 have KR:Kept (fun k=>Tr w4 gt k∨k=gr) w4 w4:=kR
 have KD:∀u:World,Kept (fun k=>Tr w4 gt k∨k=gr) w4 u→Kept (fun k=>Tr w4 gt k∨k=gr) w4 u.drew:=fun u k=>k.drew
 have KS:∀(u:World) (x:Addr) (y:Value),x.block=gr→Kept (fun k=>Tr w4 gt k∨k=gr) w4 u→Kept (fun k=>Tr w4 gt k∨k=gr) w4 (u.setCell x y):=fun u x y h k=>k.setCell (fun _=>.inr h) y
 have KN:∀u:World,New w4 u→Kept (fun k=>Tr w4 gt k∨k=gr) w4 u:=fun u k=>k.mono fun _ _ f=>f.elim
 have KT:∀u:World,Kept (Tr w4 gt) w4 u→Kept (fun k=>Tr w4 gt k∨k=gr) w4 u:=fun u k=>k.mono fun _ _ f=>.inl f
 have KC:∀(u:World) (e:Ending) (w5:World),New w4 u→AnsP w0 u gt p L9 a9 e w5→Kept (Tr w4 gt) w4 w5:=fun u e w5 k h=>by
  obtain⟨_,_,_,_,_,_,_,_,_,hK⟩:=h;exact Tr.new k hK
 have NR:New w4 w4:=kR
 have ND:∀u:World,New w4 u→New w4 u.drew:=fun u k=>k.drew
 clear HT5 HT6 HTK CI CS
 go_upto_region 19 with fail
 go_region_held3 (fun u=>u.cell? ⟨g5,0,none⟩=some (.int .i64 q)∧u.cell? ⟨g5,1,none⟩=some (.string nm)∧u.cell? ⟨g5,2,none⟩=some (.int .i64 j)∧u.cell? ⟨g5,3,none⟩=some (.int .i64 d)∧u.cell? ⟨g6,0,none⟩=some (.int .i64 r)∧u.cell? ⟨g6,1,none⟩=some (.string nm2)∧u.cell? ⟨g6,2,none⟩=some (.int .i64 v)∧u.cell? ⟨g6,3,none⟩=some (.int .i64 d2)∧u.cell? ⟨gk,1,none⟩=some (.string sp)∧u.cell? ⟨gk,2,none⟩=some (.string st))
  ((refine SG.out _ ?_;repeat (first|with_reducible exact KR|with_reducible refine KD _ ?_|with_reducible exact KN _ NU.out|with_reducible exact KT _ KZ.out|(with_reducible refine KS _ _ _ ?_ ?_;exact rfl))))
  (first
   | (go_at_call 59;refine (CU.out _ (N4.out.new (by repeat (first|with_reducible exact NR|with_reducible refine ND _ ?_)))).mono ?_;rintro e wU ⟨rfl,k4⟩;have NU:Hid (New w4 wU):=(by refine Kept.new ?_ k4;repeat (first|with_reducible exact NR|with_reducible refine ND _ ?_));clear k4)
   | (go_at_call 58;refine (CA.out _ (N4.out.new NU.out)).mono ?_;intro e w5 hAns;have KZ:=jH (KC _ _ _ NU.out hAns);revert hAns;intro hAns;obtain⟨B',d',T',t',rfl,hBZ,hDD,hDB⟩:=do_fin hAns (N4.out.new NU.out) (BA4.out.kept NU.out id) HGR.out (Tr.not (BA4.out.kept NU.out id).at_ (by decide) (by decide) (by have:=HNG.out;omega)) HN0.out;have BAZ:=jH hBZ;have DD:=jH hDD;have DB:=jH hDB;have HLD:Hid ((((((((w5.setCell ⟨gr,0,none⟩ (.int .i64 a9.e)).setCell ⟨gr,1,none⟩ (.int .i64 a9.i)).setCell ⟨gr,2,none⟩ (.int .i64 a9.n)).setCell ⟨gr,3,none⟩ (.int .u8 a9.k)).setCell ⟨gr,4,none⟩ (.int .i64 a9.l)).setCell ⟨gr,5,none⟩ (.int .i64 a9.s)).setCell ⟨gr,6,none⟩ (.slice B' a9.b.length d')).setCell ⟨gr,7,none⟩ (.slice T' a9.ns.length t')=ans8 w5 gr a9 B' a9.b.length d' T' a9.ns.length t'):=rfl;obtain⟨t0,t1,t2,t3,t4,t5,t6,t7⟩:=BAZ.out.p8;obtain⟨f0,f1,f2,f3,f4,f5,f6,f7⟩:=BAZ.out.f8;clear hBZ hDD hDB))
 go_wp2;rw[HLD.out];generalize ans8 w5 gr a9 B' a9.b.length d' T' a9.ns.length t'=wf at *;have d0:=DB.out.cell 0;have d1:=DB.out.cell 1;have d2:=DB.out.cell 2;have d3:=DB.out.cell 3;have d4:=DB.out.cell 4;have d5:=DB.out.cell 5;have d6:=DB.out.cell 6;have d7:=DB.out.cell 7;simp at d0 d1 d2 d3 d4 d5 d6 d7;refine bodyPost_ret (by simp[results,Tryz.results33,go_sem,d0,d1,d2,d3,d4,d5,d6,d7];try rfl) rfl ?_;exact DD.out
theorem mdo_kind (w0:World) (gt p:Nat) (L:List ND) (sp st:ByteArray) (av nv:Int) (Ab:Option Addr) (bl bc:Nat) (kk:Nat) (w:World) (h:PT w0 w gt p L)
  (hk:¬kk∈[1,2,3,4,5,6,7,8,9,10,11]):
  Calls Tryz.prog 33 #[.pointer (some ⟨gt,0,none⟩),.agg #[.int .u8 kk,.string sp,.string st,.int .i64 av,.int .i64 nv,.slice Ab bl bc]] w (AnsP w0 w gt p L (erA 2)):=by
 obtain⟨w1,hw1⟩:∃w1,w1=(w.alloc (.cells #[.int .u8 kk,.string sp,.string st,.int .i64 av,.int .i64 nv,.slice Ab bl bc] 34)).alloc (.cells #[.int .i64 0,.int .i64 0,.int .i64 0,.int .u8 0,.int .i64 0,.int .i64 0,.slice none 0 0,.slice none 0 0] 41):=⟨_,rfl⟩
 have N1:Hid (New w w1):=by rw[hw1];exact (kR.alloc _).alloc _
 have BC:Hid (Blk w1 w.heap.size 34 [.int .u8 kk,.string sp,.string st,.int .i64 av,.int .i64 nv,.slice Ab bl bc]):=by rw[hw1];exact (Blk.made w _ _).alloc _
 have BA:Hid (Blk w1 (w.heap.size+1) 41 [.int .i64 0,.int .i64 0,.int .i64 0,.int .u8 0,.int .i64 0,.int .i64 0,.slice none 0 0,.slice none 0 0]):=by
  have:=Blk.made (w.alloc (.cells #[.int .u8 kk,.string sp,.string st,.int .i64 av,.int .i64 nv,.slice Ab bl bc] 34)) 41 #[.int .i64 0,.int .i64 0,.int .i64 0,.int .u8 0,.int .i64 0,.int .i64 0,.slice none 0 0,.slice none 0 0]
  rw[World.size_alloc] at this;rw[hw1];exact this
 have HW:=jH hw1;have HP:=jH h
 have HN0:Hid (New w0 w):=by obtain⟨_,_,_,_,_,_,_,h5,_⟩:=h;exact h5
 have HGT:Hid (gt < w.heap.size):=h.lt;clear hw1
 have CI:Hid (∀u,Calls Tryz.prog 52 #[.int .u8 kk] u (fun e w'=>e=.returned (.bool false)∧New u w')):=fun u=>by
  have:=zbi kk u
  rwa [decide_eq_false hk] at this
 clear h hk;go_enter Tryz.func33,Tryz.ntmps33
 go_upto_region 1 with fail
 rw[←HW.out];clear HW;obtain⟨gr,hgr⟩:∃gr,gr=w.heap.size+1:=⟨_,rfl⟩;rw[←hgr] at BA ⊢
 have HGR:Hid (w.heap.size≤gr):=by rw[Hid,hgr];omega
 have HTA:Hid (¬Tr w1 gt gr):=Tr.not BA.out.at_ (by decide) (by decide) (by have:=HGT.out;omega)
 have HCA:Hid (¬w.heap.size=gr):=by rw[Hid,hgr];omega
 clear hgr;obtain⟨gk,hgk⟩:∃gk,gk=w.heap.size:=⟨_,rfl⟩;rw[←hgk] at BC HCA ⊢;clear hgk;have c0:=BC.out.q0
 go_wp2_with (first
  | (go_at_call 52;refine (CI.out _).mono ?_;rintro e w2 ⟨rfl,hK2⟩;have N2:=jH (N1.out.new hK2);have M2:Hid (New w1 w2):=hK2;clear hK2;obtain⟨c0,c1,c2,c3,c4,c5⟩:=(BC.out.kept M2.out id).p6)
  | (go_at_call 32;refine (zac 2 _).mono ?_;rintro e w3 ⟨rfl,hK3⟩;have N3:=jH (N2.out.new hK3);have BAZ:=jH (BA.out.kept (M2.out.new hK3) id);obtain⟨t0,t1,t2,t3,t4,t5,t6,t7⟩:=BAZ.out.p8;obtain⟨f0,f1,f2,f3,f4,f5,f6,f7⟩:=BAZ.out.f8;have HLD:Hid ((((((((w3.setCell ⟨gr,0,none⟩ (.int .i64 2)).setCell ⟨gr,1,none⟩ (.int .i64 0)).setCell ⟨gr,2,none⟩ (.int .i64 0)).setCell ⟨gr,3,none⟩ (.int .u8 0)).setCell ⟨gr,4,none⟩ (.int .i64 0)).setCell ⟨gr,5,none⟩ (.int .i64 0)).setCell ⟨gr,6,none⟩ (.slice none 0 0)).setCell ⟨gr,7,none⟩ (.slice none 0 0)=ans8 w3 gr (erA 2) none 0 0 none 0 0):=rfl;have DD:=jH (zah (a:=erA 2) (w0:=w0) (w:=w) (gt:=gt) (p:=p) (L:=L) (d':=0) (t':=0) (B':=none) (m:=0) (q:=0) (T':=none) BAZ.out HGR.out (HP.out.new N3.out) HN0.out (OwnB.nil _ _ _) rfl (Txs.nil _ _) (fun _ h=>by cases h) rfl (N3.out.mono fun _ _ f=>f.elim));have DB:=jH (zaf (a:=erA 2) (d':=0) (t':=0) (B':=none) (m:=0) (q:=0) (T':=none) BAZ.out);clear hK3))
 rw[HLD.out];generalize ans8 w3 gr (erA 2) none 0 0 none 0 0=wf at *;have d0:=DB.out.cell 0;have d1:=DB.out.cell 1;have d2:=DB.out.cell 2;have d3:=DB.out.cell 3;have d4:=DB.out.cell 4;have d5:=DB.out.cell 5;have d6:=DB.out.cell 6;have d7:=DB.out.cell 7;simp at d0 d1 d2 d3 d4 d5 d6 d7;refine bodyPost_ret (by simp[results,Tryz.results33,go_sem,d0,d1,d2,d3,d4,d5,d6,d7];try rfl) rfl ?_;exact DD.out
theorem mdo_err (w0:World) (gt p:Nat) (L:List ND) (sp st:ByteArray) (av nv:Int) (Ab:Option Addr) (bl bc:Nat) (kk x:Nat) (w:World) (h:PT w0 w gt p L)
  (hk:kk∈[1,2,3,4,5,6,7,8,9,10,11]) (hx:x≠0)
  (hS:∀u,New w u→Calls Tryz.prog 53 #[.pointer (some ⟨gt,0,none⟩),.agg #[.int .u8 kk,.string sp,.string st,.int .i64 av,.int .i64 nv,.slice Ab bl bc]] u (fun e w'=>New u w'∧e=.returned (.tuple #[.agg #[.int .i64 0,.string ⟨#[]⟩,.int .i64 0,.int .i64 0],.agg #[.int .i64 0,.string ⟨#[]⟩,.int .i64 0,.int .i64 0],.int .i64 x]))):
  Calls Tryz.prog 33 #[.pointer (some ⟨gt,0,none⟩),.agg #[.int .u8 kk,.string sp,.string st,.int .i64 av,.int .i64 nv,.slice Ab bl bc]] w (AnsP w0 w gt p L (erA x)):=by
 obtain⟨w1,hw1⟩:∃w1,w1=(w.alloc (.cells #[.int .u8 kk,.string sp,.string st,.int .i64 av,.int .i64 nv,.slice Ab bl bc] 34)).alloc (.cells #[.int .i64 0,.int .i64 0,.int .i64 0,.int .u8 0,.int .i64 0,.int .i64 0,.slice none 0 0,.slice none 0 0] 41):=⟨_,rfl⟩
 have N1:Hid (New w w1):=by rw[hw1];exact (kR.alloc _).alloc _
 have BC:Hid (Blk w1 w.heap.size 34 [.int .u8 kk,.string sp,.string st,.int .i64 av,.int .i64 nv,.slice Ab bl bc]):=by rw[hw1];exact (Blk.made w _ _).alloc _
 have BA:Hid (Blk w1 (w.heap.size+1) 41 [.int .i64 0,.int .i64 0,.int .i64 0,.int .u8 0,.int .i64 0,.int .i64 0,.slice none 0 0,.slice none 0 0]):=by
  have:=Blk.made (w.alloc (.cells #[.int .u8 kk,.string sp,.string st,.int .i64 av,.int .i64 nv,.slice Ab bl bc] 34)) 41 #[.int .i64 0,.int .i64 0,.int .i64 0,.int .u8 0,.int .i64 0,.int .i64 0,.slice none 0 0,.slice none 0 0]
  rw[World.size_alloc] at this;rw[hw1];exact this
 have HW:=jH hw1;have HP:=jH h
 have HN0:Hid (New w0 w):=by obtain⟨_,_,_,_,_,_,_,h5,_⟩:=h;exact h5
 have HGT:Hid (gt < w.heap.size):=h.lt;clear hw1;have CS:=jH hS;have dx:(((x:Nat):Int) != 0)=true:=bne_iff_ne.2 (by omega)
 have CI:Hid (∀u,Calls Tryz.prog 52 #[.int .u8 kk] u (fun e w'=>e=.returned (.bool true)∧New u w')):=fun u=>by
  have:=zbi kk u
  rwa [decide_eq_true hk] at this
 clear h hk hS hx;go_enter Tryz.func33,Tryz.ntmps33
 go_upto_region 1 with fail
 rw[←HW.out];clear HW;obtain⟨gr,hgr⟩:∃gr,gr=w.heap.size+1:=⟨_,rfl⟩;rw[←hgr] at BA ⊢
 have HGR:Hid (w.heap.size≤gr):=by rw[Hid,hgr];omega
 have HTA:Hid (¬Tr w1 gt gr):=Tr.not BA.out.at_ (by decide) (by decide) (by have:=HGT.out;omega)
 have HCA:Hid (¬w.heap.size=gr):=by rw[Hid,hgr];omega
 clear hgr;obtain⟨gk,hgk⟩:∃gk,gk=w.heap.size:=⟨_,rfl⟩;rw[←hgk] at BC HCA ⊢;clear hgk;have c0:=BC.out.q0
 go_upto_region 5 with (first
  | (go_at_call 52;refine (CI.out _).mono ?_;rintro e w2 ⟨rfl,hK2⟩;have N2:=jH (N1.out.new hK2);have M2:Hid (New w1 w2):=hK2;clear hK2;obtain⟨c0,c1,c2,c3,c4,c5⟩:=(BC.out.kept M2.out id).p6)
  | (go_at_call 53;refine (CS.out _ N2.out).mono ?_;rintro e w3 ⟨hK3,rfl⟩;have N3:=jH (N2.out.new hK3);have M3:Hid (New w1 w3):=M2.out.new hK3;clear hK3;obtain⟨c0,c1,c2,c3,c4,c5⟩:=(BC.out.kept M3.out id).p6))
 obtain⟨w4,hw4⟩:∃w4,w4=(w3.alloc (.cells #[.int .i64 0,.string ⟨#[]⟩,.int .i64 0,.int .i64 0] 87)).alloc (.cells #[.int .i64 0,.string ⟨#[]⟩,.int .i64 0,.int .i64 0] 87):=⟨_,rfl⟩;rw[←hw4]
 have k4:New w3 w4:=by rw[hw4];exact (kR.alloc _).alloc _
 have N4:=jH (N3.out.new k4);have M4:=jH (M3.out.new k4);clear hw4 k4 c0 c1 c2 c3 c4 c5 N3 M3
 go_wp2_with (go_at_call 32;refine (zac x _).mono ?_;rintro e w5 ⟨rfl,hK5⟩;have N5:=jH (N4.out.new hK5);have BAZ:=jH (BA.out.kept (M4.out.new hK5) id);obtain⟨t0,t1,t2,t3,t4,t5,t6,t7⟩:=BAZ.out.p8;obtain⟨f0,f1,f2,f3,f4,f5,f6,f7⟩:=BAZ.out.f8;have HLD:Hid ((((((((w5.setCell ⟨gr,0,none⟩ (.int .i64 x)).setCell ⟨gr,1,none⟩ (.int .i64 0)).setCell ⟨gr,2,none⟩ (.int .i64 0)).setCell ⟨gr,3,none⟩ (.int .u8 0)).setCell ⟨gr,4,none⟩ (.int .i64 0)).setCell ⟨gr,5,none⟩ (.int .i64 0)).setCell ⟨gr,6,none⟩ (.slice none 0 0)).setCell ⟨gr,7,none⟩ (.slice none 0 0)=ans8 w5 gr (erA x) none 0 0 none 0 0):=rfl;have DD:=jH (zah (a:=erA x) (w0:=w0) (w:=w) (gt:=gt) (p:=p) (L:=L) (d':=0) (t':=0) (B':=none) (m:=0) (q:=0) (T':=none) BAZ.out HGR.out (HP.out.new N5.out) HN0.out (OwnB.nil _ _ _) rfl (Txs.nil _ _) (fun _ h=>by cases h) rfl (N5.out.mono fun _ _ f=>f.elim));have DB:=jH (zaf (a:=erA x) (d':=0) (t':=0) (B':=none) (m:=0) (q:=0) (T':=none) BAZ.out);clear hK5)
 rw[HLD.out];generalize ans8 w5 gr (erA x) none 0 0 none 0 0=wf at *;have d0:=DB.out.cell 0;have d1:=DB.out.cell 1;have d2:=DB.out.cell 2;have d3:=DB.out.cell 3;have d4:=DB.out.cell 4;have d5:=DB.out.cell 5;have d6:=DB.out.cell 6;have d7:=DB.out.cell 7;simp at d0 d1 d2 d3 d4 d5 d6 d7;refine bodyPost_ret (by simp[results,Tryz.results33,go_sem,d0,d1,d2,d3,d4,d5,d6,d7];try rfl) rfl ?_;exact DD.out
end
end Go.Proofs.YtjjamoemheljdaaGreat
