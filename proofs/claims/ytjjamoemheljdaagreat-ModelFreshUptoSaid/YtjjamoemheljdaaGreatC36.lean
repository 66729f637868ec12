/-
  Layer 7: contracts (Zb).
-/
import Derived.Test.YtjjamoemheljdaaGreatC35
import Derived.Deep.RegionHeld3
namespace Go.Proofs.YtjjamoemheljdaaGreat
set_option maxRecDepth 100000
set_option maxHeartbeats 8000000
set_option linter.unusedSimpArgs false
set_option linter.unusedVariables false
section
open Go.RowKit
theorem do_fin {w0 w u w':World} {gt p gr:Nat} {L:List ND} {a:AN} {e:Ending} (h:AnsP w0 u gt p L a e w') (hN:New w u) (hA:Blk u gr 41 [.int .i64 0,.int .i64 0,.int .i64 0,.int .u8 0,.int .i64 0,.int .i64 0,.slice none 0 0,.slice none 0 0]) (hgr:w.heap.size≤gr) (hT:¬Tr u gt gr) (h0:New w0 w):
  ∃(B':Option Addr) (d':Nat) (T':Option Addr) (t':Nat),e=.returned (.agg #[.int .i64 a.e,.int .i64 a.i,.int .i64 a.n,.int .u8 a.k,.int .i64 a.l,.int .i64 a.s,.slice B' a.b.length d',.slice T' a.ns.length t']) ∧
   Blk w' gr 41 [.int .i64 0,.int .i64 0,.int .i64 0,.int .u8 0,.int .i64 0,.int .i64 0,.slice none 0 0,.slice none 0 0]∧AnsP w0 w gt p L a e (ans8 w' gr a B' a.b.length d' T' a.ns.length t') ∧
   Blk (ans8 w' gr a B' a.b.length d' T' a.ns.length t') gr 41 [.int .i64 a.e,.int .i64 a.i,.int .i64 a.n,.int .u8 a.k,.int .i64 a.l,.int .i64 a.s,.slice B' a.b.length d',.slice T' a.ns.length t']:=by
 obtain⟨B',d',T',t',rfl,hP,hB,hX,hXa,hK⟩:=h;have hZ:=hA.kept hK hT;exact⟨B',d',T',t',rfl,hZ,zah hZ hgr hP h0 hB rfl hX hXa rfl (Tr.new hN hK),zaf hZ⟩
theorem mdo_mk1 (w0:World) (gt p:Nat) (L:List ND) (sp st:ByteArray) (av nv:Int) (Ab:Option Addr) (bl bc:Nat) (q j d r v d2:Nat) (nm nm2:ByteArray) (L9:List ND) (a9:AN) (w:World) (h:PT w0 w gt p L)
  (hS:∀u,New w u→Calls Tryz.prog 53 #[.pointer (some ⟨gt,0,none⟩),.agg #[.int .u8 1,.string sp,.string st,.int .i64 av,.int .i64 nv,.slice Ab bl bc]] u (fun e w'=>New u w'∧e=.returned (.tuple #[.agg #[.int .i64 q,.string nm,.int .i64 j,.int .i64 d],.agg #[.int .i64 r,.string nm2,.int .i64 v,.int .i64 d2],.int .i64 0])))
  (hA:∀u,New w u→Calls Tryz.prog 54 #[.pointer (some ⟨gt,0,none⟩),.agg #[.int .i64 q,.string nm,.int .i64 j,.int .i64 d],.int .u8 1] u (AnsP w0 u gt p L9 a9)):
  Calls Tryz.prog 33 #[.pointer (some ⟨gt,0,none⟩),.agg #[.int .u8 1,.string sp,.string st,.int .i64 av,.int .i64 nv,.slice Ab bl bc]] w (AnsP w0 w gt p L9 a9):=by
 obtain⟨w1,hw1⟩:∃w1,w1=(w.alloc (.cells #[.int .u8 1,.string sp,.string st,.int .i64 av,.int .i64 nv,.slice Ab bl bc] 34)).alloc (.cells #[.int .i64 0,.int .i64 0,.int .i64 0,.int .u8 0,.int .i64 0,.int .i64 0,.slice none 0 0,.slice none 0 0] 41):=⟨_,rfl⟩
 have N1:Hid (New w w1):=by rw[hw1];exact (kR.alloc _).alloc _
 have BC:Hid (Blk w1 w.heap.size 34 [.int .u8 1,.string sp,.string st,.int .i64 av,.int .i64 nv,.slice Ab bl bc]):=by rw[hw1];exact (Blk.made w _ _).alloc _
 have BA:Hid (Blk w1 (w.heap.size+1) 41 [.int .i64 0,.int .i64 0,.int .i64 0,.int .u8 0,.int .i64 0,.int .i64 0,.slice none 0 0,.slice none 0 0]):=by
  have:=Blk.made (w.alloc (.cells #[.int .u8 1,.string sp,.string st,.int .i64 av,.int .i64 nv,.slice Ab bl bc] 34)) 41 #[.int .i64 0,.int .i64 0,.int .i64 0,.int .u8 0,.int .i64 0,.int .i64 0,.slice none 0 0,.slice none 0 0]
  rw[World.size_alloc] at this;rw[hw1];exact this
 have HW:=jH hw1;have HP:=jH h
 have HN0:Hid (New w0 w):=by obtain⟨_,_,_,_,_,_,_,h5,_⟩:=h;exact h5
 have HGT:Hid (gt < w.heap.size):=h.lt;clear hw1;have CS:=jH hS;have CA:=jH hA;clear h hS hA
 have CI:Hid (∀u,Calls Tryz.prog 52 #[.int .u8 1] u (fun e w'=>e=.returned (.bool true)∧New u w')):=fun u=>by
  have:=zbi 1 u
  rwa [decide_eq_true (by decide)] at this
 go_enter Tryz.func33,Tryz.ntmps33
 go_upto_region 1 with fail
 rw[←HW.out];clear HW;obtain⟨gr,hgr⟩:∃gr,gr=w.heap.size+1:=⟨_,rfl⟩;rw[←hgr] at BA ⊢
 have HGR:Hid (w.heap.size≤gr):=by rw[Hid,hgr];omega
 have HTA:Hid (¬Tr w1 gt gr):=Tr.not BA.out.at_ (by decide) (by decide) (by have:=HGT.out;omega)
 have HCA:Hid (¬w.heap.size=gr):=by rw[Hid,hgr];omega
 have HNG:Hid (¬gr=gt):=by have:=HGT.out;rw[Hid,hgr];omega
 clear hgr;obtain⟨gk,hgk⟩:∃gk,gk=w.heap.size:=⟨_,rfl⟩;rw[←hgk] at BC HCA ⊢;clear hgk;have c0:=BC.out.q0
 go_upto_region 6 with (first
  | (go_at_call 52;refine (CI.out _).mono ?_;rintro e w2 ⟨rfl,hK2⟩;have N2:=jH (N1.out.new hK2);have M2:Hid (New w1 w2):=hK2;clear hK2;obtain⟨c0,c1,c2,c3,c4,c5⟩:=(BC.out.kept M2.out id).p6)
  | (go_at_call 53;refine (CS.out _ N2.out).mono ?_;rintro e w3 ⟨hK3,rfl⟩;have N3:=jH (N2.out.new hK3);have M3:Hid (New w1 w3):=M2.out.new hK3;clear hK3;obtain⟨c0,c1,c2,c3,c4,c5⟩:=(BC.out.kept M3.out id).p6))
 obtain⟨w4,hw4⟩:∃w4,w4=(w3.alloc (.cells #[.int .i64 q,.string nm,.int .i64 j,.int .i64 d] 87)).alloc (.cells #[.int .i64 r,.string nm2,.int .i64 v,.int .i64 d2] 87):=⟨_,rfl⟩;rw[←hw4]
 have k4:New w3 w4:=by rw[hw4];exact (kR.alloc _).alloc _
 have BS4:Hid (Blk w4 w3.heap.size 87 [.int .i64 q,.string nm,.int .i64 j,.int .i64 d]):=by rw[hw4];exact (Blk.made w3 _ _).alloc _
 have BT4:Hid (Blk w4 (w3.heap.size+1) 87 [.int .i64 r,.string nm2,.int .i64 v,.int .i64 d2]):=by
  have:=Blk.made (w3.alloc (.cells #[.int .i64 q,.string nm,.int .i64 j,.int .i64 d] 87)) 87 #[.int .i64 r,.string nm2,.int .i64 v,.int .i64 d2]
  rw[World.size_alloc] at this;rw[hw4];exact this
 have N4:=jH (N3.out.new k4);have M4:=jH (M3.out.new k4);clear hw4 k4 c0 c1 c2 c3 c4 c5 N3 M3;obtain⟨g6,hg6⟩:∃g6,g6=w3.heap.size+1:=⟨_,rfl⟩;rw[←hg6] at BT4 ⊢;clear hg6;generalize w3.heap.size=g5 at *;have BA4:=jH (BA.out.kept M4.out id);obtain⟨s0,s1,s2,s3⟩:=BS4.out.p4;obtain⟨r0,r1,r2,r3⟩:=BT4.out.p4;obtain⟨c0,c1,c2,c3,c4,c5⟩:=(BC.out.kept M4.out id).p6
 go_wp2_with (go_at_call 54;refine (CA.out _ N4.out).mono ?_;intro e w5 hAns;obtain⟨B',d',T',t',rfl,hBZ,hDD,hDB⟩:=do_fin hAns N4.out (BA4.out.kept (Kept.refl (fun _=>False) _) id) HGR.out (Tr.not (BA4.out.kept (Kept.refl (fun _=>False) _) id).at_ (by decide) (by decide) (by have:=HNG.out;omega)) HN0.out;have BAZ:=jH hBZ;have DD:=jH hDD;have DB:=jH hDB;have HLD:Hid ((((((((w5.setCell ⟨gr,0,none⟩ (.int .i64 a9.e)).setCell ⟨gr,1,none⟩ (.int .i64 a9.i)).setCell ⟨gr,2,none⟩ (.int .i64 a9.n)).setCell ⟨gr,3,none⟩ (.int .u8 a9.k)).setCell ⟨gr,4,none⟩ (.int .i64 a9.l)).setCell ⟨gr,5,none⟩ (.int .i64 a9.s)).setCell ⟨gr,6,none⟩ (.slice B' a9.b.length d')).setCell ⟨gr,7,none⟩ (.slice T' a9.ns.length t')=ans8 w5 gr a9 B' a9.b.length d' T' a9.ns.length t'):=rfl;obtain⟨t0,t1,t2,t3,t4,t5,t6,t7⟩:=BAZ.out.p8;obtain⟨f0,f1,f2,f3,f4,f5,f6,f7⟩:=BAZ.out.f8;clear hBZ hDD hDB)
 rw[HLD.out];generalize ans8 w5 gr a9 B' a9.b.length d' T' a9.ns.length t'=wf at *;have d0:=DB.out.cell 0;have d1:=DB.out.cell 1;have d2:=DB.out.cell 2;have d3:=DB.out.cell 3;have d4:=DB.out.cell 4;have d5:=DB.out.cell 5;have d6:=DB.out.cell 6;have d7:=DB.out.cell 7;simp at d0 d1 d2 d3 d4 d5 d6 d7;refine bodyPost_ret (by simp[results,Tryz.results33,go_sem,d0,d1,d2,d3,d4,d5,d6,d7];try rfl) rfl ?_;exact DD.out
theorem mdo_mk2 (w0:World) (gt p:Nat) (L:List ND) (sp st:ByteArray) (av nv:Int) (Ab:Option Addr) (bl bc:Nat) (q j d r v d2:Nat) (nm nm2:ByteArray) (L9:List ND) (a9:AN) (w:World) (h:PT w0 w gt p L)
  (hS:∀u,New w u→Calls Tryz.prog 53 #[.pointer (some ⟨gt,0,none⟩),.agg #[.int .u8 2,.string sp,.string st,.int .i64 av,.int .i64 nv,.slice Ab bl bc]] u (fun e w'=>New u w'∧e=.returned (.tuple #[.agg #[.int .i64 q,.string nm,.int .i64 j,.int .i64 d],.agg #[.int .i64 r,.string nm2,.int .i64 v,.int .i64 d2],.int .i64 0])))
  (hA:∀u,New w u→Calls Tryz.prog 54 #[.pointer (some ⟨gt,0,none⟩),.agg #[.int .i64 q,.string nm,.int .i64 j,.int .i64 d],.int .u8 2] u (AnsP w0 u gt p L9 a9)):
  Calls Tryz.prog 33 #[.pointer (some ⟨gt,0,none⟩),.agg #[.int .u8 2,.string sp,.string st,.int .i64 av,.int .i64 nv,.slice Ab bl bc]] w (AnsP w0 w gt p L9 a9):=by
 obtain⟨w1,hw1⟩:∃w1,w1=(w.alloc (.cells #[.int .u8 2,.string sp,.string st,.int .i64 av,.int .i64 nv,.slice Ab bl bc] 34)).alloc (.cells #[.int .i64 0,.int .i64 0,.int .i64 0,.int .u8 0,.int .i64 0,.int .i64 0,.slice none 0 0,.slice none 0 0] 41):=⟨_,rfl⟩
 have N1:Hid (New w w1):=by rw[hw1];exact (kR.alloc _).alloc _
 have BC:Hid (Blk w1 w.heap.size 34 [.int .u8 2,.string sp,.string st,.int .i64 av,.int .i64 nv,.slice Ab bl bc]):=by rw[hw1];exact (Blk.made w _ _).alloc _
 have BA:Hid (Blk w1 (w.heap.size+1) 41 [.int .i64 0,.int .i64 0,.int .i64 0,.int .u8 0,.int .i64 0,.int .i64 0,.slice none 0 0,.slice none 0 0]):=by
  have:=Blk.made (w.alloc (.cells #[.int .u8 2,.string sp,.string st,.int .i64 av,.int .i64 nv,.slice Ab bl bc] 34)) 41 #[.int .i64 0,.int .i64 0,.int .i64 0,.int .u8 0,.int .i64 0,.int .i64 0,.slice none 0 0,.slice none 0 0]
  rw[World.size_alloc] at this;rw[hw1];exact this
 have HW:=jH hw1;have HP:=jH h
 have HN0:Hid (New w0 w):=by obtain⟨_,_,_,_,_,_,_,h5,_⟩:=h;exact h5
 have HGT:Hid (gt < w.heap.size):=h.lt;clear hw1;have CS:=jH hS;have CA:=jH hA;clear h hS hA
 have CI:Hid (∀u,Calls Tryz.prog 52 #[.int .u8 2] u (fun e w'=>e=.returned (.bool true)∧New u w')):=fun u=>by
  have:=zbi 2 u
  rwa [decide_eq_true (by decide)] at this
 go_enter Tryz.func33,Tryz.ntmps33
 go_upto_region 1 with fail
 rw[←HW.out];clear HW;obtain⟨gr,hgr⟩:∃gr,gr=w.heap.size+1:=⟨_,rfl⟩;rw[←hgr] at BA ⊢
 have HGR:Hid (w.heap.size≤gr):=by rw[Hid,hgr];omega
 have HTA:Hid (¬Tr w1 gt gr):=Tr.not BA.out.at_ (by decide) (by decide) (by have:=HGT.out;omega)
 have HCA:Hid (¬w.heap.size=gr):=by rw[Hid,hgr];omega
 have HNG:Hid (¬gr=gt):=by have:=HGT.out;rw[Hid,hgr];omega
 clear hgr;obtain⟨gk,hgk⟩:∃gk,gk=w.heap.size:=⟨_,rfl⟩;rw[←hgk] at BC HCA ⊢;clear hgk;have c0:=BC.out.q0
 go_upto_region 6 with (first
  | (go_at_call 52;refine (CI.out _).mono ?_;rintro e w2 ⟨rfl,hK2⟩;have N2:=jH (N1.out.new hK2);have M2:Hid (New w1 w2):=hK2;clear hK2;obtain⟨c0,c1,c2,c3,c4,c5⟩:=(BC.out.kept M2.out id).p6)
  | (go_at_call 53;refine (CS.out _ N2.out).mono ?_;rintro e w3 ⟨hK3,rfl⟩;have N3:=jH (N2.out.new hK3);have M3:Hid (New w1 w3):=M2.out.new hK3;clear hK3;obtain⟨c0,c1,c2,c3,c4,c5⟩:=(BC.out.kept M3.out id).p6))
 obtain⟨w4,hw4⟩:∃w4,w4=(w3.alloc (.cells #[.int .i64 q,.string nm,.int .i64 j,.int .i64 d] 87)).alloc (.cells #[.int .i64 r,.string nm2,.int .i64 v,.int .i64 d2] 87):=⟨_,rfl⟩;rw[←hw4]
 have k4:New w3 w4:=by rw[hw4];exact (kR.alloc _).alloc _
 have BS4:Hid (Blk w4 w3.heap.size 87 [.int .i64 q,.string nm,.int .i64 j,.int .i64 d]):=by rw[hw4];exact (Blk.made w3 _ _).alloc _
 have BT4:Hid (Blk w4 (w3.heap.size+1) 87 [.int .i64 r,.string nm2,.int .i64 v,.int .i64 d2]):=by
  have:=Blk.made (w3.alloc (.cells #[.int .i64 q,.string nm,.int .i64 j,.int .i64 d] 87)) 87 #[.int .i64 r,.string nm2,.int .i64 v,.int .i64 d2]
  rw[World.size_alloc] at this;rw[hw4];exact this
 have N4:=jH (N3.out.new k4);have M4:=jH (M3.out.new k4);clear hw4 k4 c0 c1 c2 c3 c4 c5 N3 M3;obtain⟨g6,hg6⟩:∃g6,g6=w3.heap.size+1:=⟨_,rfl⟩;rw[←hg6] at BT4 ⊢;clear hg6;generalize w3.heap.size=g5 at *;have BA4:=jH (BA.out.kept M4.out id);obtain⟨s0,s1,s2,s3⟩:=BS4.out.p4;obtain⟨r0,r1,r2,r3⟩:=BT4.out.p4;obtain⟨c0,c1,c2,c3,c4,c5⟩:=(BC.out.kept M4.out id).p6
 go_wp2_with (go_at_call 54;refine (CA.out _ N4.out).mono ?_;intro e w5 hAns;obtain⟨B',d',T',t',rfl,hBZ,hDD,hDB⟩:=do_fin hAns N4.out (BA4.out.kept (Kept.refl (fun _=>False) _) id) HGR.out (Tr.not (BA4.out.kept (Kept.refl (fun _=>False) _) id).at_ (by decide) (by decide) (by have:=HNG.out;omega)) HN0.out;have BAZ:=jH hBZ;have DD:=jH hDD;have DB:=jH hDB;have HLD:Hid ((((((((w5.setCell ⟨gr,0,none⟩ (.int .i64 a9.e)).setCell ⟨gr,1,none⟩ (.int .i64 a9.i)).setCell ⟨gr,2,none⟩ (.int .i64 a9.n)).setCell ⟨gr,3,none⟩ (.int .u8 a9.k)).setCell ⟨gr,4,none⟩ (.int .i64 a9.l)).setCell ⟨gr,5,none⟩ (.int .i64 a9.s)).setCell ⟨gr,6,none⟩ (.slice B' a9.b.length d')).setCell ⟨gr,7,none⟩ (.slice T' a9.ns.length t')=ans8 w5 gr a9 B' a9.b.length d' T' a9.ns.length t'):=rfl;obtain⟨t0,t1,t2,t3,t4,t5,t6,t7⟩:=BAZ.out.p8;obtain⟨f0,f1,f2,f3,f4,f5,f6,f7⟩:=BAZ.out.f8;clear hBZ hDD hDB)
 rw[HLD.out];generalize ans8 w5 gr a9 B' a9.b.length d' T' a9.ns.length t'=wf at *;have d0:=DB.out.cell 0;have d1:=DB.out.cell 1;have d2:=DB.out.cell 2;have d3:=DB.out.cell 3;have d4:=DB.out.cell 4;have d5:=DB.out.cell 5;have d6:=DB.out.cell 6;have d7:=DB.out.cell 7;simp at d0 d1 d2 d3 d4 d5 d6 d7;refine bodyPost_ret (by simp[results,Tryz.results33,go_sem,d0,d1,d2,d3,d4,d5,d6,d7];try rfl) rfl ?_;exact DD.out
theorem mdo_rm (w0:World) (gt p:Nat) (L:List ND) (sp st:ByteArray) (av nv:Int) (Ab:Option Addr) (bl bc:Nat) (q j d r v d2:Nat) (nm nm2:ByteArray) (L9:List ND) (a9:AN) (w:World) (h:PT w0 w gt p L)
  (hS:∀u,New w u→Calls Tryz.prog 53 #[.pointer (some ⟨gt,0,none⟩),.agg #[.int .u8 3,.string sp,.string st,.int .i64 av,.int .i64 nv,.slice Ab bl bc]] u (fun e w'=>New u w'∧e=.returned (.tuple #[.agg #[.int .i64 q,.string nm,.int .i64 j,.int .i64 d],.agg #[.int .i64 r,.string nm2,.int .i64 v,.int .i64 d2],.int .i64 0])))
  (hA:∀u,New w u→Calls Tryz.prog 55 #[.pointer (some ⟨gt,0,none⟩),.agg #[.int .i64 q,.string nm,.int .i64 j,.int .i64 d]] u (AnsP w0 u gt p L9 a9)):
  Calls Tryz.prog 33 #[.pointer (some ⟨gt,0,none⟩),.agg #[.int .u8 3,.string sp,.string st,.int .i64 av,.int .i64 nv,.slice Ab bl bc]] w (AnsP w0 w gt p L9 a9):=by
 obtain⟨w1,hw1⟩:∃w1,w1=(w.alloc (.cells #[.int .u8 3,.string sp,.string st,.int .i64 av,.int .i64 nv,.slice Ab bl bc] 34)).alloc (.cells #[.int .i64 0,.int .i64 0,.int .i64 0,.int .u8 0,.int .i64 0,.int .i64 0,.slice none 0 0,.slice none 0 0] 41):=⟨_,rfl⟩
 have N1:Hid (New w w1):=by rw[hw1];exact (kR.alloc _).alloc _
 have BC:Hid (Blk w1 w.heap.size 34 [.int .u8 3,.string sp,.string st,.int .i64 av,.int .i64 nv,.slice Ab bl bc]):=by rw[hw1];exact (Blk.made w _ _).alloc _
 have BA:Hid (Blk w1 (w.heap.size+1) 41 [.int .i64 0,.int .i64 0,.int .i64 0,.int .u8 0,.int .i64 0,.int .i64 0,.slice none 0 0,.slice none 0 0]):=by
  have:=Blk.made (w.alloc (.cells #[.int .u8 3,.string sp,.string st,.int .i64 av,.int .i64 nv,.slice Ab bl bc] 34)) 41 #[.int .i64 0,.int .i64 0,.int .i64 0,.int .u8 0,.int .i64 0,.int .i64 0,.slice none 0 0,.slice none 0 0]
  rw[World.size_alloc] at this;rw[hw1];exact this
 have HW:=jH hw1;have HP:=jH h
 have HN0:Hid (New w0 w):=by obtain⟨_,_,_,_,_,_,_,h5,_⟩:=h;exact h5
 have HGT:Hid (gt < w.heap.size):=h.lt;clear hw1;have CS:=jH hS;have CA:=jH hA;clear h hS hA
 have CI:Hid (∀u,Calls Tryz.prog 52 #[.int .u8 3] u (fun e w'=>e=.returned (.bool true)∧New u w')):=fun u=>by
  have:=zbi 3 u
  rwa [decide_eq_true (by decide)] at this
 go_enter Tryz.func33,Tryz.ntmps33
 go_upto_region 1 with fail
 rw[←HW.out];clear HW;obtain⟨gr,hgr⟩:∃gr,gr=w.heap.size+1:=⟨_,rfl⟩;rw[←hgr] at BA ⊢
 have HGR:Hid (w.heap.size≤gr):=by rw[Hid,hgr];omega
 have HTA:Hid (¬Tr w1 gt gr):=Tr.not BA.out.at_ (by decide) (by decide) (by have:=HGT.out;omega)
 have HCA:Hid (¬w.heap.size=gr):=by rw[Hid,hgr];omega
 have HNG:Hid (¬gr=gt):=by have:=HGT.out;rw[Hid,hgr];omega
 clear hgr;obtain⟨gk,hgk⟩:∃gk,gk=w.heap.size:=⟨_,rfl⟩;rw[←hgk] at BC HCA ⊢;clear hgk;have c0:=BC.out.q0
 go_upto_region 6 with (first
  | (go_at_call 52;refine (CI.out _).mono ?_;rintro e w2 ⟨rfl,hK2⟩;have N2:=jH (N1.out.new hK2);have M2:Hid (New w1 w2):=hK2;clear hK2;obtain⟨c0,c1,c2,c3,c4,c5⟩:=(BC.out.kept M2.out id).p6)
  | (go_at_call 53;refine (CS.out _ N2.out).mono ?_;rintro e w3 ⟨hK3,rfl⟩;have N3:=jH (N2.out.new hK3);have M3:Hid (New w1 w3):=M2.out.new hK3;clear hK3;obtain⟨c0,c1,c2,c3,c4,c5⟩:=(BC.out.kept M3.out id).p6))
 obtain⟨w4,hw4⟩:∃w4,w4=(w3.alloc (.cells #[.int .i64 q,.string nm,.int .i64 j,.int .i64 d] 87)).alloc (.cells #[.int .i64 r,.string nm2,.int .i64 v,.int .i64 d2] 87):=⟨_,rfl⟩;rw[←hw4]
 have k4:New w3 w4:=by rw[hw4];exact (kR.alloc _).alloc _
 have BS4:Hid (Blk w4 w3.heap.size 87 [.int .i64 q,.string nm,.int .i64 j,.int .i64 d]):=by rw[hw4];exact (Blk.made w3 _ _).alloc _
 have BT4:Hid (Blk w4 (w3.heap.size+1) 87 [.int .i64 r,.string nm2,.int .i64 v,.int .i64 d2]):=by
  have:=Blk.made (w3.alloc (.cells #[.int .i64 q,.string nm,.int .i64 j,.int .i64 d] 87)) 87 #[.int .i64 r,.string nm2,.int .i64 v,.int .i64 d2]
  rw[World.size_alloc] at this;rw[hw4];exact this
 have N4:=jH (N3.out.new k4);have M4:=jH (M3.out.new k4);clear hw4 k4 c0 c1 c2 c3 c4 c5 N3 M3;obtain⟨g6,hg6⟩:∃g6,g6=w3.heap.size+1:=⟨_,rfl⟩;rw[←hg6] at BT4 ⊢;clear hg6;generalize w3.heap.size=g5 at *;have BA4:=jH (BA.out.kept M4.out id);obtain⟨s0,s1,s2,s3⟩:=BS4.out.p4;obtain⟨r0,r1,r2,r3⟩:=BT4.out.p4;obtain⟨c0,c1,c2,c3,c4,c5⟩:=(BC.out.kept M4.out id).p6
 go_wp2_with (go_at_call 55;refine (CA.out _ N4.out).mono ?_;intro e w5 hAns;obtain⟨B',d',T',t',rfl,hBZ,hDD,hDB⟩:=do_fin hAns N4.out (BA4.out.kept (Kept.refl (fun _=>False) _) id) HGR.out (Tr.not (BA4.out.kept (Kept.refl (fun _=>False) _) id).at_ (by decide) (by decide) (by have:=HNG.out;omega)) HN0.out;have BAZ:=jH hBZ;have DD:=jH hDD;have DB:=jH hDB;have HLD:Hid ((((((((w5.setCell ⟨gr,0,none⟩ (.int .i64 a9.e)).setCell ⟨gr,1,none⟩ (.int .i64 a9.i)).setCell ⟨gr,2,none⟩ (.int .i64 a9.n)).setCell ⟨gr,3,none⟩ (.int .u8 a9.k)).setCell ⟨gr,4,none⟩ (.int .i64 a9.l)).setCell ⟨gr,5,none⟩ (.int .i64 a9.s)).setCell ⟨gr,6,none⟩ (.slice B' a9.b.length d')).setCell ⟨gr,7,none⟩ (.slice T' a9.ns.length t')=ans8 w5 gr a9 B' a9.b.length d' T' a9.ns.length t'):=rfl;obtain⟨t0,t1,t2,t3,t4,t5,t6,t7⟩:=BAZ.out.p8;obtain⟨f0,f1,f2,f3,f4,f5,f6,f7⟩:=BAZ.out.f8;clear hBZ hDD hDB)
 rw[HLD.out];generalize ans8 w5 gr a9 B' a9.b.length d' T' a9.ns.length t'=wf at *;have d0:=DB.out.cell 0;have d1:=DB.out.cell 1;have d2:=DB.out.cell 2;have d3:=DB.out.cell 3;have d4:=DB.out.cell 4;have d5:=DB.out.cell 5;have d6:=DB.out.cell 6;have d7:=DB.out.cell 7;simp at d0 d1 d2 d3 d4 d5 d6 d7;refine bodyPost_ret (by simp[results,Tryz.results33,go_sem,d0,d1,d2,d3,d4,d5,d6,d7];try rfl) rfl ?_;exact DD.out
theorem mdo_ln (w0:World) (gt p:Nat) (L:List ND) (sp st:ByteArray) (av nv:Int) (Ab:Option Addr) (bl bc:Nat) (q j d r v d2:Nat) (nm nm2:ByteArray) (L9:List ND) (a9:AN) (w:World) (h:PT w0 w gt p L)
  (hS:∀u,New w u→Calls Tryz.prog 53 #[.pointer (some ⟨gt,0,none⟩),.agg #[.int .u8 4,.string sp,.string st,.int .i64 av,.int .i64 nv,.slice Ab bl bc]] u (fun e w'=>New u w'∧e=.returned (.tuple #[.agg #[.int .i64 q,.string nm,.int .i64 j,.int .i64 d],.agg #[.int .i64 r,.string nm2,.int .i64 v,.int .i64 d2],.int .i64 0])))
  (hA:∀u,New w u→Calls Tryz.prog 56 #[.pointer (some ⟨gt,0,none⟩),.agg #[.int .i64 q,.string nm,.int .i64 j,.int .i64 d],.agg #[.int .i64 r,.string nm2,.int .i64 v,.int .i64 d2]] u (AnsP w0 u gt p L9 a9)):
  Calls Tryz.prog 33 #[.pointer (some ⟨gt,0,none⟩),.agg #[.int .u8 4,.string sp,.string st,.int .i64 av,.int .i64 nv,.slice Ab bl bc]] w (AnsP w0 w gt p L9 a9):=by
 obtain⟨w1,hw1⟩:∃w1,w1=(w.alloc (.cells #[.int .u8 4,.string sp,.string st,.int .i64 av,.int .i64 nv,.slice Ab bl bc] 34)).alloc (.cells #[.int .i64 0,.int .i64 0,.int .i64 0,.int .u8 0,.int .i64 0,.int .i64 0,.slice none 0 0,.slice none 0 0] 41):=⟨_,rfl⟩
 have N1:Hid (New w w1):=by rw[hw1];exact (kR.alloc _).alloc _
 have BC:Hid (Blk w1 w.heap.size 34 [.int .u8 4,.string sp,.string st,.int .i64 av,.int .i64 nv,.slice Ab bl bc]):=by rw[hw1];exact (Blk.made w _ _).alloc _
 have BA:Hid (Blk w1 (w.heap.size+1) 41 [.int .i64 0,.int .i64 0,.int .i64 0,.int .u8 0,.int .i64 0,.int .i64 0,.slice none 0 0,.slice none 0 0]):=by
  have:=Blk.made (w.alloc (.cells #[.int .u8 4,.string sp,.string st,.int .i64 av,.int .i64 nv,.slice Ab bl bc] 34)) 41 #[.int .i64 0,.int .i64 0,.int .i64 0,.int .u8 0,.int .i64 0,.int .i64 0,.slice none 0 0,.slice none 0 0]
  rw[World.size_alloc] at this;rw[hw1];exact this
 have HW:=jH hw1;have HP:=jH h
 have HN0:Hid (New w0 w):=by obtain⟨_,_,_,_,_,_,_,h5,_⟩:=h;exact h5
 have HGT:Hid (gt < w.heap.size):=h.lt;clear hw1;have CS:=jH hS;have CA:=jH hA;clear h hS hA
 have CI:Hid (∀u,Calls Tryz.prog 52 #[.int .u8 4] u (fun e w'=>e=.returned (.bool true)∧New u w')):=fun u=>by
  have:=zbi 4 u
  rwa [decide_eq_true (by decide)] at this
 go_enter Tryz.func33,Tryz.ntmps33
 go_upto_region 1 with fail
 rw[←HW.out];clear HW;obtain⟨gr,hgr⟩:∃gr,gr=w.heap.size+1:=⟨_,rfl⟩;rw[←hgr] at BA ⊢
 have HGR:Hid (w.heap.size≤gr):=by rw[Hid,hgr];omega
 have HTA:Hid (¬Tr w1 gt gr):=Tr.not BA.out.at_ (by decide) (by decide) (by have:=HGT.out;omega)
 have HCA:Hid (¬w.heap.size=gr):=by rw[Hid,hgr];omega
 have HNG:Hid (¬gr=gt):=by have:=HGT.out;rw[Hid,hgr];omega
 clear hgr;obtain⟨gk,hgk⟩:∃gk,gk=w.heap.size:=⟨_,rfl⟩;rw[←hgk] at BC HCA ⊢;clear hgk;have c0:=BC.out.q0
 go_upto_region 6 with (first
  | (go_at_call 52;refine (CI.out _).mono ?_;rintro e w2 ⟨rfl,hK2⟩;have N2:=jH (N1.out.new hK2);have M2:Hid (New w1 w2):=hK2;clear hK2;obtain⟨c0,c1,c2,c3,c4,c5⟩:=(BC.out.kept M2.out id).p6)
  | (go_at_call 53;refine (CS.out _ N2.out).mono ?_;rintro e w3 ⟨hK3,rfl⟩;have N3:=jH (N2.out.new hK3);have M3:Hid (New w1 w3):=M2.out.new hK3;clear hK3;obtain⟨c0,c1,c2,c3,c4,c5⟩:=(BC.out.kept M3.out id).p6))
 obtain⟨w4,hw4⟩:∃w4,w4=(w3.alloc (.cells #[.int .i64 q,.string nm,.int .i64 j,.int .i64 d] 87)).alloc (.cells #[.int .i64 r,.string nm2,.int .i64 v,.int .i64 d2] 87):=⟨_,rfl⟩;rw[←hw4]
 have k4:New w3 w4:=by rw[hw4];exact (kR.alloc _).alloc _
 have BS4:Hid (Blk w4 w3.heap.size 87 [.int .i64 q,.string nm,.int .i64 j,.int .i64 d]):=by rw[hw4];exact (Blk.made w3 _ _).alloc _
 have BT4:Hid (Blk w4 (w3.heap.size+1) 87 [.int .i64 r,.string nm2,.int .i64 v,.int .i64 d2]):=by
  have:=Blk.made (w3.alloc (.cells #[.int .i64 q,.string nm,.int .i64 j,.int .i64 d] 87)) 87 #[.int .i64 r,.string nm2,.int .i64 v,.int .i64 d2]
  rw[World.size_alloc] at this;rw[hw4];exact this
 have N4:=jH (N3.out.new k4);have M4:=jH (M3.out.new k4);clear hw4 k4 c0 c1 c2 c3 c4 c5 N3 M3;obtain⟨g6,hg6⟩:∃g6,g6=w3.heap.size+1:=⟨_,rfl⟩;rw[←hg6] at BT4 ⊢;clear hg6;generalize w3.heap.size=g5 at *;have BA4:=jH (BA.out.kept M4.out id);obtain⟨s0,s1,s2,s3⟩:=BS4.out.p4;obtain⟨r0,r1,r2,r3⟩:=BT4.out.p4;obtain⟨c0,c1,c2,c3,c4,c5⟩:=(BC.out.kept M4.out id).p6
 go_wp2_with (go_at_call 56;refine (CA.out _ N4.out).mono ?_;intro e w5 hAns;obtain⟨B',d',T',t',rfl,hBZ,hDD,hDB⟩:=do_fin hAns N4.out (BA4.out.kept (Kept.refl (fun _=>False) _) id) HGR.out (Tr.not (BA4.out.kept (Kept.refl (fun _=>False) _) id).at_ (by decide) (by decide) (by have:=HNG.out;omega)) HN0.out;have BAZ:=jH hBZ;have DD:=jH hDD;have DB:=jH hDB;have HLD:Hid ((((((((w5.setCell ⟨gr,0,none⟩ (.int .i64 a9.e)).setCell ⟨gr,1,none⟩ (.int .i64 a9.i)).setCell ⟨gr,2,none⟩ (.int .i64 a9.n)).setCell ⟨gr,3,none⟩ (.int .u8 a9.k)).setCell ⟨gr,4,none⟩ (.int .i64 a9.l)).setCell ⟨gr,5,none⟩ (.int .i64 a9.s)).setCell ⟨gr,6,none⟩ (.slice B' a9.b.length d')).setCell ⟨gr,7,none⟩ (.slice T' a9.ns.length t')=ans8 w5 gr a9 B' a9.b.length d' T' a9.ns.length t'):=rfl;obtain⟨t0,t1,t2,t3,t4,t5,t6,t7⟩:=BAZ.out.p8;obtain⟨f0,f1,f2,f3,f4,f5,f6,f7⟩:=BAZ.out.f8;clear hBZ hDD hDB)
 rw[HLD.out];generalize ans8 w5 gr a9 B' a9.b.length d' T' a9.ns.length t'=wf at *;have d0:=DB.out.cell 0;have d1:=DB.out.cell 1;have d2:=DB.out.cell 2;have d3:=DB.out.cell 3;have d4:=DB.out.cell 4;have d5:=DB.out.cell 5;have d6:=DB.out.cell 6;have d7:=DB.out.cell 7;simp at d0 d1 d2 d3 d4 d5 d6 d7;refine bodyPost_ret (by simp[results,Tryz.results33,go_sem,d0,d1,d2,d3,d4,d5,d6,d7];try rfl) rfl ?_;exact DD.out
theorem mdo_ul (w0:World) (gt p:Nat) (L:List ND) (sp st:ByteArray) (av nv:Int) (Ab:Option Addr) (bl bc:Nat) (q j d r v d2:Nat) (nm nm2:ByteArray) (L9:List ND) (a9:AN) (w:World) (h:PT w0 w gt p L)
  (hS:∀u,New w u→Calls Tryz.prog 53 #[.pointer (some ⟨gt,0,none⟩),.agg #[.int .u8 5,.string sp,.string st,.int .i64 av,.int .i64 nv,.slice Ab bl bc]] u (fun e w'=>New u w'∧e=.returned (.tuple #[.agg #[.int .i64 q,.string nm,.int .i64 j,.int .i64 d],.agg #[.int .i64 r,.string nm2,.int .i64 v,.int .i64 d2],.int .i64 0])))
  (hA:∀u,New w u→Calls Tryz.prog 57 #[.pointer (some ⟨gt,0,none⟩),.agg #[.int .i64 q,.string nm,.int .i64 j,.int .i64 d]] u (AnsP w0 u gt p L9 a9)):
  Calls Tryz.prog 33 #[.pointer (some ⟨gt,0,none⟩),.agg #[.int .u8 5,.string sp,.string st,.int .i64 av,.int .i64 nv,.slice Ab bl bc]] w (AnsP w0 w gt p L9 a9):=by
 obtain⟨w1,hw1⟩:∃w1,w1=(w.alloc (.cells #[.int .u8 5,.string sp,.string st,.int .i64 av,.int .i64 nv,.slice Ab bl bc] 34)).alloc (.cells #[.int .i64 0,.int .i64 0,.int .i64 0,.int .u8 0,.int .i64 0,.int .i64 0,.slice none 0 0,.slice none 0 0] 41):=⟨_,rfl⟩
 have N1:Hid (New w w1):=by rw[hw1];exact (kR.alloc _).alloc _
 have BC:Hid (Blk w1 w.heap.size 34 [.int .u8 5,.string sp,.string st,.int .i64 av,.int .i64 nv,.slice Ab bl bc]):=by rw[hw1];exact (Blk.made w _ _).alloc _
 have BA:Hid (Blk w1 (w.heap.size+1) 41 [.int .i64 0,.int .i64 0,.int .i64 0,.int .u8 0,.int .i64 0,.int .i64 0,.slice none 0 0,.slice none 0 0]):=by
  have:=Blk.made (w.alloc (.cells #[.int .u8 5,.string sp,.string st,.int .i64 av,.int .i64 nv,.slice Ab bl bc] 34)) 41 #[.int .i64 0,.int .i64 0,.int .i64 0,.int .u8 0,.int .i64 0,.int .i64 0,.slice none 0 0,.slice none 0 0]
  rw[World.size_alloc] at this;rw[hw1];exact this
 have HW:=jH hw1;have HP:=jH h
 have HN0:Hid (New w0 w):=by obtain⟨_,_,_,_,_,_,_,h5,_⟩:=h;exact h5
 have HGT:Hid (gt < w.heap.size):=h.lt;clear hw1;have CS:=jH hS;have CA:=jH hA;clear h hS hA
 have CI:Hid (∀u,Calls Tryz.prog 52 #[.int .u8 5] u (fun e w'=>e=.returned (.bool true)∧New u w')):=fun u=>by
  have:=zbi 5 u
  rwa [decide_eq_true (by decide)] at this
 go_enter Tryz.func33,Tryz.ntmps33
 go_upto_region 1 with fail
 rw[←HW.out];clear HW;obtain⟨gr,hgr⟩:∃gr,gr=w.heap.size+1:=⟨_,rfl⟩;rw[←hgr] at BA ⊢
 have HGR:Hid (w.heap.size≤gr):=by rw[Hid,hgr];omega
 have HTA:Hid (¬Tr w1 gt gr):=Tr.not BA.out.at_ (by decide) (by decide) (by have:=HGT.out;omega)
 have HCA:Hid (¬w.heap.size=gr):=by rw[Hid,hgr];omega
 have HNG:Hid (¬gr=gt):=by have:=HGT.out;rw[Hid,hgr];omega
 clear hgr;obtain⟨gk,hgk⟩:∃gk,gk=w.heap.size:=⟨_,rfl⟩;rw[←hgk] at BC HCA ⊢;clear hgk;have c0:=BC.out.q0
 go_upto_region 6 with (first
  | (go_at_call 52;refine (CI.out _).mono ?_;rintro e w2 ⟨rfl,hK2⟩;have N2:=jH (N1.out.new hK2);have M2:Hid (New w1 w2):=hK2;clear hK2;obtain⟨c0,c1,c2,c3,c4,c5⟩:=(BC.out.kept M2.out id).p6)
  | (go_at_call 53;refine (CS.out _ N2.out).mono ?_;rintro e w3 ⟨hK3,rfl⟩;have N3:=jH (N2.out.new hK3);have M3:Hid (New w1 w3):=M2.out.new hK3;clear hK3;obtain⟨c0,c1,c2,c3,c4,c5⟩:=(BC.out.kept M3.out id).p6))
 obtain⟨w4,hw4⟩:∃w4,w4=(w3.alloc (.cells #[.int .i64 q,.string nm,.int .i64 j,.int .i64 d] 87)).alloc (.cells #[.int .i64 r,.string nm2,.int .i64 v,.int .i64 d2] 87):=⟨_,rfl⟩;rw[←hw4]
 have k4:New w3 w4:=by rw[hw4];exact (kR.alloc _).alloc _
 have BS4:Hid (Blk w4 w3.heap.size 87 [.int .i64 q,.string nm,.int .i64 j,.int .i64 d]):=by rw[hw4];exact (Blk.made w3 _ _).alloc _
 have BT4:Hid (Blk w4 (w3.heap.size+1) 87 [.int .i64 r,.string nm2,.int .i64 v,.int .i64 d2]):=by
  have:=Blk.made (w3.alloc (.cells #[.int .i64 q,.string nm,.int .i64 j,.int .i64 d] 87)) 87 #[.int .i64 r,.string nm2,.int .i64 v,.int .i64 d2]
  rw[World.size_alloc] at this;rw[hw4];exact this
 have N4:=jH (N3.out.new k4);have M4:=jH (M3.out.new k4);clear hw4 k4 c0 c1 c2 c3 c4 c5 N3 M3;obtain⟨g6,hg6⟩:∃g6,g6=w3.heap.size+1:=⟨_,rfl⟩;rw[←hg6] at BT4 ⊢;clear hg6;generalize w3.heap.size=g5 at *;have BA4:=jH (BA.out.kept M4.out id);obtain⟨s0,s1,s2,s3⟩:=BS4.out.p4;obtain⟨r0,r1,r2,r3⟩:=BT4.out.p4;obtain⟨c0,c1,c2,c3,c4,c5⟩:=(BC.out.kept M4.out id).p6
 go_wp2_with (go_at_call 57;refine (CA.out _ N4.out).mono ?_;intro e w5 hAns;obtain⟨B',d',T',t',rfl,hBZ,hDD,hDB⟩:=do_fin hAns N4.out (BA4.out.kept (Kept.refl (fun _=>False) _) id) HGR.out (Tr.not (BA4.out.kept (Kept.refl (fun _=>False) _) id).at_ (by decide) (by decide) (by have:=HNG.out;omega)) HN0.out;have BAZ:=jH hBZ;have DD:=jH hDD;have DB:=jH hDB;have HLD:Hid ((((((((w5.setCell ⟨gr,0,none⟩ (.int .i64 a9.e)).setCell ⟨gr,1,none⟩ (.int .i64 a9.i)).setCell ⟨gr,2,none⟩ (.int .i64 a9.n)).setCell ⟨gr,3,none⟩ (.int .u8 a9.k)).setCell ⟨gr,4,none⟩ (.int .i64 a9.l)).setCell ⟨gr,5,none⟩ (.int .i64 a9.s)).setCell ⟨gr,6,none⟩ (.slice B' a9.b.length d')).setCell ⟨gr,7,none⟩ (.slice T' a9.ns.length t')=ans8 w5 gr a9 B' a9.b.length d' T' a9.ns.length t'):=rfl;obtain⟨t0,t1,t2,t3,t4,t5,t6,t7⟩:=BAZ.out.p8;obtain⟨f0,f1,f2,f3,f4,f5,f6,f7⟩:=BAZ.out.f8;clear hBZ hDD hDB)
 rw[HLD.out];generalize ans8 w5 gr a9 B' a9.b.length d' T' a9.ns.length t'=wf at *;have d0:=DB.out.cell 0;have d1:=DB.out.cell 1;have d2:=DB.out.cell 2;have d3:=DB.out.cell 3;have d4:=DB.out.cell 4;have d5:=DB.out.cell 5;have d6:=DB.out.cell 6;have d7:=DB.out.cell 7;simp at d0 d1 d2 d3 d4 d5 d6 d7;refine bodyPost_ret (by simp[results,Tryz.results33,go_sem,d0,d1,d2,d3,d4,d5,d6,d7];try rfl) rfl ?_;exact DD.out
theorem mdo_wr (w0:World) (gt p:Nat) (L:List ND) (sp st:ByteArray) (av nv:Int) (Ab:Option Addr) (bl bc:Nat) (q j d r v d2:Nat) (nm nm2:ByteArray) (L9:List ND) (a9:AN) (w:World) (h:PT w0 w gt p L)
  (hS:∀u,New w u→Calls Tryz.prog 53 #[.pointer (some ⟨gt,0,none⟩),.agg #[.int .u8 7,.string sp,.string st,.int .i64 av,.int .i64 nv,.slice Ab bl bc]] u (fun e w'=>New u w'∧e=.returned (.tuple #[.agg #[.int .i64 q,.string nm,.int .i64 j,.int .i64 d],.agg #[.int .i64 r,.string nm2,.int .i64 v,.int .i64 d2],.int .i64 0])))
  (hA:∀u,New w u→Calls Tryz.prog 60 #[.pointer (some ⟨gt,0,none⟩),.agg #[.int .i64 q,.string nm,.int .i64 j,.int .i64 d],.agg #[.int .u8 7,.string sp,.string st,.int .i64 av,.int .i64 nv,.slice Ab bl bc]] u (AnsP w0 u gt p L9 a9)):
  Calls Tryz.prog 33 #[.pointer (some ⟨gt,0,none⟩),.agg #[.int .u8 7,.string sp,.string st,.int .i64 av,.int .i64 nv,.slice Ab bl bc]] w (AnsP w0 w gt p L9 a9):=by
 obtain⟨w1,hw1⟩:∃w1,w1=(w.alloc (.cells #[.int .u8 7,.string sp,.string st,.int .i64 av,.int .i64 nv,.slice Ab bl bc] 34)).alloc (.cells #[.int .i64 0,.int .i64 0,.int .i64 0,.int .u8 0,.int .i64 0,.int .i64 0,.slice none 0 0,.slice none 0 0] 41):=⟨_,rfl⟩
 have N1:Hid (New w w1):=by rw[hw1];exact (kR.alloc _).alloc _
 have BC:Hid (Blk w1 w.heap.size 34 [.int .u8 7,.string sp,.string st,.int .i64 av,.int .i64 nv,.slice Ab bl bc]):=by rw[hw1];exact (Blk.made w _ _).alloc _
 have BA:Hid (Blk w1 (w.heap.size+1) 41 [.int .i64 0,.int .i64 0,.int .i64 0,.int .u8 0,.int .i64 0,.int .i64 0,.slice none 0 0,.slice none 0 0]):=by
  have:=Blk.made (w.alloc (.cells #[.int .u8 7,.string sp,.string st,.int .i64 av,.int .i64 nv,.slice Ab bl bc] 34)) 41 #[.int .i64 0,.int .i64 0,.int .i64 0,.int .u8 0,.int .i64 0,.int .i64 0,.slice none 0 0,.slice none 0 0]
  rw[World.size_alloc] at this;rw[hw1];exact this
 have HW:=jH hw1;have HP:=jH h
 have HN0:Hid (New w0 w):=by obtain⟨_,_,_,_,_,_,_,h5,_⟩:=h;exact h5
 have HGT:Hid (gt < w.heap.size):=h.lt;clear hw1;have CS:=jH hS;have CA:=jH hA;clear h hS hA
 have CI:Hid (∀u,Calls Tryz.prog 52 #[.int .u8 7] u (fun e w'=>e=.returned (.bool true)∧New u w')):=fun u=>by
  have:=zbi 7 u
  rwa [decide_eq_true (by decide)] at this
 go_enter Tryz.func33,Tryz.ntmps33
 go_upto_region 1 with fail
 rw[←HW.out];clear HW;obtain⟨gr,hgr⟩:∃gr,gr=w.heap.size+1:=⟨_,rfl⟩;rw[←hgr] at BA ⊢
 have HGR:Hid (w.heap.size≤gr):=by rw[Hid,hgr];omega
 have HTA:Hid (¬Tr w1 gt gr):=Tr.not BA.out.at_ (by decide) (by decide) (by have:=HGT.out;omega)
 have HCA:Hid (¬w.heap.size=gr):=by rw[Hid,hgr];omega
 have HNG:Hid (¬gr=gt):=by have:=HGT.out;rw[Hid,hgr];omega
 clear hgr;obtain⟨gk,hgk⟩:∃gk,gk=w.heap.size:=⟨_,rfl⟩;rw[←hgk] at BC HCA ⊢;clear hgk;have c0:=BC.out.q0
 go_upto_region 6 with (first
  | (go_at_call 52;refine (CI.out _).mono ?_;rintro e w2 ⟨rfl,hK2⟩;have N2:=jH (N1.out.new hK2);have M2:Hid (New w1 w2):=hK2;clear hK2;obtain⟨c0,c1,c2,c3,c4,c5⟩:=(BC.out.kept M2.out id).p6)
  | (go_at_call 53;refine (CS.out _ N2.out).mono ?_;rintro e w3 ⟨hK3,rfl⟩;have N3:=jH (N2.out.new hK3);have M3:Hid (New w1 w3):=M2.out.new hK3;clear hK3;obtain⟨c0,c1,c2,c3,c4,c5⟩:=(BC.out.kept M3.out id).p6))
 obtain⟨w4,hw4⟩:∃w4,w4=(w3.alloc (.cells #[.int .i64 q,.string nm,.int .i64 j,.int .i64 d] 87)).alloc (.cells #[.int .i64 r,.string nm2,.int .i64 v,.int .i64 d2] 87):=⟨_,rfl⟩;rw[←hw4]
 have k4:New w3 w4:=by rw[hw4];exact (kR.alloc _).alloc _
 have BS4:Hid (Blk w4 w3.heap.size 87 [.int .i64 q,.string nm,.int .i64 j,.int .i64 d]):=by rw[hw4];exact (Blk.made w3 _ _).alloc _
 have BT4:Hid (Blk w4 (w3.heap.size+1) 87 [.int .i64 r,.string nm2,.int .i64 v,.int .i64 d2]):=by
  have:=Blk.made (w3.alloc (.cells #[.int .i64 q,.string nm,.int .i64 j,.int .i64 d] 87)) 87 #[.int .i64 r,.string nm2,.int .i64 v,.int .i64 d2]
  rw[World.size_alloc] at this;rw[hw4];exact this
 have N4:=jH (N3.out.new k4);have M4:=jH (M3.out.new k4);clear hw4 k4 c0 c1 c2 c3 c4 c5 N3 M3;obtain⟨g6,hg6⟩:∃g6,g6=w3.heap.size+1:=⟨_,rfl⟩;rw[←hg6] at BT4 ⊢;clear hg6;generalize w3.heap.size=g5 at *;have BA4:=jH (BA.out.kept M4.out id);obtain⟨s0,s1,s2,s3⟩:=BS4.out.p4;obtain⟨r0,r1,r2,r3⟩:=BT4.out.p4;obtain⟨c0,c1,c2,c3,c4,c5⟩:=(BC.out.kept M4.out id).p6
 go_wp2_with (go_at_call 60;refine (CA.out _ N4.out).mono ?_;intro e w5 hAns;obtain⟨B',d',T',t',rfl,hBZ,hDD,hDB⟩:=do_fin hAns N4.out (BA4.out.kept (Kept.refl (fun _=>False) _) id) HGR.out (Tr.not (BA4.out.kept (Kept.refl (fun _=>False) _) id).at_ (by decide) (by decide) (by have:=HNG.out;omega)) HN0.out;have BAZ:=jH hBZ;have DD:=jH hDD;have DB:=jH hDB;have HLD:Hid ((((((((w5.setCell ⟨gr,0,none⟩ (.int .i64 a9.e)).setCell ⟨gr,1,none⟩ (.int .i64 a9.i)).setCell ⟨gr,2,none⟩ (.int .i64 a9.n)).setCell ⟨gr,3,none⟩ (.int .u8 a9.k)).setCell ⟨gr,4,none⟩ (.int .i64 a9.l)).setCell ⟨gr,5,none⟩ (.int .i64 a9.s)).setCell ⟨gr,6,none⟩ (.slice B' a9.b.length d')).setCell ⟨gr,7,none⟩ (.slice T' a9.ns.length t')=ans8 w5 gr a9 B' a9.b.length d' T' a9.ns.length t'):=rfl;obtain⟨t0,t1,t2,t3,t4,t5,t6,t7⟩:=BAZ.out.p8;obtain⟨f0,f1,f2,f3,f4,f5,f6,f7⟩:=BAZ.out.f8;clear hBZ hDD hDB)
 rw[HLD.out];generalize ans8 w5 gr a9 B' a9.b.length d' T' a9.ns.length t'=wf at *;have d0:=DB.out.cell 0;have d1:=DB.out.cell 1;have d2:=DB.out.cell 2;have d3:=DB.out.cell 3;have d4:=DB.out.cell 4;have d5:=DB.out.cell 5;have d6:=DB.out.cell 6;have d7:=DB.out.cell 7;simp at d0 d1 d2 d3 d4 d5 d6 d7;refine bodyPost_ret (by simp[results,Tryz.results33,go_sem,d0,d1,d2,d3,d4,d5,d6,d7];try rfl) rfl ?_;exact DD.out
theorem mdo_cu (w0:World) (gt p:Nat) (L:List ND) (sp st:ByteArray) (av nv:Int) (Ab:Option Addr) (bl bc:Nat) (q j d r v d2:Nat) (nm nm2:ByteArray) (L9:List ND) (a9:AN) (w:World) (h:PT w0 w gt p L)
  (hS:∀u,New w u→Calls Tryz.prog 53 #[.pointer (some ⟨gt,0,none⟩),.agg #[.int .u8 8,.string sp,.string st,.int .i64 av,.int .i64 nv,.slice Ab bl bc]] u (fun e w'=>New u w'∧e=.returned (.tuple #[.agg #[.int .i64 q,.string nm,.int .i64 j,.int .i64 d],.agg #[.int .i64 r,.string nm2,.int .i64 v,.int .i64 d2],.int .i64 0])))
  (hA:∀u,New w u→Calls Tryz.prog 61 #[.pointer (some ⟨gt,0,none⟩),.agg #[.int .i64 q,.string nm,.int .i64 j,.int .i64 d],.agg #[.int .u8 8,.string sp,.string st,.int .i64 av,.int .i64 nv,.slice Ab bl bc]] u (AnsP w0 u gt p L9 a9)):
  Calls Tryz.prog 33 #[.pointer (some ⟨gt,0,none⟩),.agg #[.int .u8 8,.string sp,.string st,.int .i64 av,.int .i64 nv,.slice Ab bl bc]] w (AnsP w0 w gt p L9 a9):=by
 obtain⟨w1,hw1⟩:∃w1,w1=(w.alloc (.cells #[.int .u8 8,.string sp,.string st,.int .i64 av,.int .i64 nv,.slice Ab bl bc] 34)).alloc (.cells #[.int .i64 0,.int .i64 0,.int .i64 0,.int .u8 0,.int .i64 0,.int .i64 0,.slice none 0 0,.slice none 0 0] 41):=⟨_,rfl⟩
 have N1:Hid (New w w1):=by rw[hw1];exact (kR.alloc _).alloc _
 have BC:Hid (Blk w1 w.heap.size 34 [.int .u8 8,.string sp,.string st,.int .i64 av,.int .i64 nv,.slice Ab bl bc]):=by rw[hw1];exact (Blk.made w _ _).alloc _
 have BA:Hid (Blk w1 (w.heap.size+1) 41 [.int .i64 0,.int .i64 0,.int .i64 0,.int .u8 0,.int .i64 0,.int .i64 0,.slice none 0 0,.slice none 0 0]):=by
  have:=Blk.made (w.alloc (.cells #[.int .u8 8,.string sp,.string st,.int .i64 av,.int .i64 nv,.slice Ab bl bc] 34)) 41 #[.int .i64 0,.int .i64 0,.int .i64 0,.int .u8 0,.int .i64 0,.int .i64 0,.slice none 0 0,.slice none 0 0]
  rw[World.size_alloc] at this;rw[hw1];exact this
 have HW:=jH hw1;have HP:=jH h
 have HN0:Hid (New w0 w):=by obtain⟨_,_,_,_,_,_,_,h5,_⟩:=h;exact h5
 have HGT:Hid (gt < w.heap.size):=h.lt;clear hw1;have CS:=jH hS;have CA:=jH hA;clear h hS hA
 have CI:Hid (∀u,Calls Tryz.prog 52 #[.int .u8 8] u (fun e w'=>e=.returned (.bool true)∧New u w')):=fun u=>by
  have:=zbi 8 u
  rwa [decide_eq_true (by decide)] at this
 go_enter Tryz.func33,Tryz.ntmps33
 go_upto_region 1 with fail
 rw[←HW.out];clear HW;obtain⟨gr,hgr⟩:∃gr,gr=w.heap.size+1:=⟨_,rfl⟩;rw[←hgr] at BA ⊢
 have HGR:Hid (w.heap.size≤gr):=by rw[Hid,hgr];omega
 have HTA:Hid (¬Tr w1 gt gr):=Tr.not BA.out.at_ (by decide) (by decide) (by have:=HGT.out;omega)
 have HCA:Hid (¬w.heap.size=gr):=by rw[Hid,hgr];omega
 have HNG:Hid (¬gr=gt):=by have:=HGT.out;rw[Hid,hgr];omega
 clear hgr;obtain⟨gk,hgk⟩:∃gk,gk=w.heap.size:=⟨_,rfl⟩;rw[←hgk] at BC HCA ⊢;clear hgk;have c0:=BC.out.q0
 go_upto_region 6 with (first
  | (go_at_call 52;refine (CI.out _).mono ?_;rintro e w2 ⟨rfl,hK2⟩;have N2:=jH (N1.out.new hK2);have M2:Hid (New w1 w2):=hK2;clear hK2;obtain⟨c0,c1,c2,c3,c4,c5⟩:=(BC.out.kept M2.out id).p6)
  | (go_at_call 53;refine (CS.out _ N2.out).mono ?_;rintro e w3 ⟨hK3,rfl⟩;have N3:=jH (N2.out.new hK3);have M3:Hid (New w1 w3):=M2.out.new hK3;clear hK3;obtain⟨c0,c1,c2,c3,c4,c5⟩:=(BC.out.kept M3.out id).p6))
 obtain⟨w4,hw4⟩:∃w4,w4=(w3.alloc (.cells #[.int .i64 q,.string nm,.int .i64 j,.int .i64 d] 87)).alloc (.cells #[.int .i64 r,.string nm2,.int .i64 v,.int .i64 d2] 87):=⟨_,rfl⟩;rw[←hw4]
 have k4:New w3 w4:=by rw[hw4];exact (kR.alloc _).alloc _
 have BS4:Hid (Blk w4 w3.heap.size 87 [.int .i64 q,.string nm,.int .i64 j,.int .i64 d]):=by rw[hw4];exact (Blk.made w3 _ _).alloc _
 have BT4:Hid (Blk w4 (w3.heap.size+1) 87 [.int .i64 r,.string nm2,.int .i64 v,.int .i64 d2]):=by
  have:=Blk.made (w3.alloc (.cells #[.int .i64 q,.string nm,.int .i64 j,.int .i64 d] 87)) 87 #[.int .i64 r,.string nm2,.int .i64 v,.int .i64 d2]
  rw[World.size_alloc] at this;rw[hw4];exact this
 have N4:=jH (N3.out.new k4);have M4:=jH (M3.out.new k4);clear hw4 k4 c0 c1 c2 c3 c4 c5 N3 M3;obtain⟨g6,hg6⟩:∃g6,g6=w3.heap.size+1:=⟨_,rfl⟩;rw[←hg6] at BT4 ⊢;clear hg6;generalize w3.heap.size=g5 at *;have BA4:=jH (BA.out.kept M4.out id);obtain⟨s0,s1,s2,s3⟩:=BS4.out.p4;obtain⟨r0,r1,r2,r3⟩:=BT4.out.p4;obtain⟨c0,c1,c2,c3,c4,c5⟩:=(BC.out.kept M4.out id).p6
 go_wp2_with (go_at_call 61;refine (CA.out _ N4.out).mono ?_;intro e w5 hAns;obtain⟨B',d',T',t',rfl,hBZ,hDD,hDB⟩:=do_fin hAns N4.out (BA4.out.kept (Kept.refl (fun _=>False) _) id) HGR.out (Tr.not (BA4.out.kept (Kept.refl (fun _=>False) _) id).at_ (by decide) (by decide) (by have:=HNG.out;omega)) HN0.out;have BAZ:=jH hBZ;have DD:=jH hDD;have DB:=jH hDB;have HLD:Hid ((((((((w5.setCell ⟨gr,0,none⟩ (.int .i64 a9.e)).setCell ⟨gr,1,none⟩ (.int .i64 a9.i)).setCell ⟨gr,2,none⟩ (.int .i64 a9.n)).setCell ⟨gr,3,none⟩ (.int .u8 a9.k)).setCell ⟨gr,4,none⟩ (.int .i64 a9.l)).setCell ⟨gr,5,none⟩ (.int .i64 a9.s)).setCell ⟨gr,6,none⟩ (.slice B' a9.b.length d')).setCell ⟨gr,7,none⟩ (.slice T' a9.ns.length t')=ans8 w5 gr a9 B' a9.b.length d' T' a9.ns.length t'):=rfl;obtain⟨t0,t1,t2,t3,t4,t5,t6,t7⟩:=BAZ.out.p8;obtain⟨f0,f1,f2,f3,f4,f5,f6,f7⟩:=BAZ.out.f8;clear hBZ hDD hDB)
 rw[HLD.out];generalize ans8 w5 gr a9 B' a9.b.length d' T' a9.ns.length t'=wf at *;have d0:=DB.out.cell 0;have d1:=DB.out.cell 1;have d2:=DB.out.cell 2;have d3:=DB.out.cell 3;have d4:=DB.out.cell 4;have d5:=DB.out.cell 5;have d6:=DB.out.cell 6;have d7:=DB.out.cell 7;simp at d0 d1 d2 d3 d4 d5 d6 d7;refine bodyPost_ret (by simp[results,Tryz.results33,go_sem,d0,d1,d2,d3,d4,d5,d6,d7];try rfl) rfl ?_;exact DD.out
theorem mdo_rd (w0:World) (gt p:Nat) (L:List ND) (sp st:ByteArray) (av nv:Int) (Ab:Option Addr) (bl bc:Nat) (q j d r v d2:Nat) (nm nm2:ByteArray) (L9:List ND) (a9:AN) (w:World) (h:PT w0 w gt p L)
  (hS:∀u,New w u→Calls Tryz.prog 53 #[.pointer (some ⟨gt,0,none⟩),.agg #[.int .u8 9,.string sp,.string st,.int .i64 av,.int .i64 nv,.slice Ab bl bc]] u (fun e w'=>New u w'∧e=.returned (.tuple #[.agg #[.int .i64 q,.string nm,.int .i64 j,.int .i64 d],.agg #[.int .i64 r,.string nm2,.int .i64 v,.int .i64 d2],.int .i64 0])))
  (hA:∀u,New w u→Calls Tryz.prog 62 #[.pointer (some ⟨gt,0,none⟩),.agg #[.int .i64 q,.string nm,.int .i64 j,.int .i64 d],.agg #[.int .u8 9,.string sp,.string st,.int .i64 av,.int .i64 nv,.slice Ab bl bc]] u (AnsP w0 u gt p L9 a9)):
  Calls Tryz.prog 33 #[.pointer (some ⟨gt,0,none⟩),.agg #[.int .u8 9,.string sp,.string st,.int .i64 av,.int .i64 nv,.slice Ab bl bc]] w (AnsP w0 w gt p L9 a9):=by
 obtain⟨w1,hw1⟩:∃w1,w1=(w.alloc (.cells #[.int .u8 9,.string sp,.string st,.int .i64 av,.int .i64 nv,.slice Ab bl bc] 34)).alloc (.cells #[.int .i64 0,.int .i64 0,.int .i64 0,.int .u8 0,.int .i64 0,.int .i64 0,.slice none 0 0,.slice none 0 0] 41):=⟨_,rfl⟩
 have N1:Hid (New w w1):=by rw[hw1];exact (kR.alloc _).alloc _
 have BC:Hid (Blk w1 w.heap.size 34 [.int .u8 9,.string sp,.string st,.int .i64 av,.int .i64 nv,.slice Ab bl bc]):=by rw[hw1];exact (Blk.made w _ _).alloc _
 have BA:Hid (Blk w1 (w.heap.size+1) 41 [.int .i64 0,.int .i64 0,.int .i64 0,.int .u8 0,.int .i64 0,.int .i64 0,.slice none 0 0,.slice none 0 0]):=by
  have:=Blk.made (w.alloc (.cells #[.int .u8 9,.string sp,.string st,.int .i64 av,.int .i64 nv,.slice Ab bl bc] 34)) 41 #[.int .i64 0,.int .i64 0,.int .i64 0,.int .u8 0,.int .i64 0,.int .i64 0,.slice none 0 0,.slice none 0 0]
  rw[World.size_alloc] at this;rw[hw1];exact this
 have HW:=jH hw1;have HP:=jH h
 have HN0:Hid (New w0 w):=by obtain⟨_,_,_,_,_,_,_,h5,_⟩:=h;exact h5
 have HGT:Hid (gt < w.heap.size):=h.lt;clear hw1;have CS:=jH hS;have CA:=jH hA;clear h hS hA
 have CI:Hid (∀u,Calls Tryz.prog 52 #[.int .u8 9] u (fun e w'=>e=.returned (.bool true)∧New u w')):=fun u=>by
  have:=zbi 9 u
  rwa [decide_eq_true (by decide)] at this
 go_enter Tryz.func33,Tryz.ntmps33
 go_upto_region 1 with fail
 rw[←HW.out];clear HW;obtain⟨gr,hgr⟩:∃gr,gr=w.heap.size+1:=⟨_,rfl⟩;rw[←hgr] at BA ⊢
 have HGR:Hid (w.heap.size≤gr):=by rw[Hid,hgr];omega
 have HTA:Hid (¬Tr w1 gt gr):=Tr.not BA.out.at_ (by decide) (by decide) (by have:=HGT.out;omega)
 have HCA:Hid (¬w.heap.size=gr):=by rw[Hid,hgr];omega
 have HNG:Hid (¬gr=gt):=by have:=HGT.out;rw[Hid,hgr];omega
 clear hgr;obtain⟨gk,hgk⟩:∃gk,gk=w.heap.size:=⟨_,rfl⟩;rw[←hgk] at BC HCA ⊢;clear hgk;have c0:=BC.out.q0
 go_upto_region 6 with (first
  | (go_at_call 52;refine (CI.out _).mono ?_;rintro e w2 ⟨rfl,hK2⟩;have N2:=jH (N1.out.new hK2);have M2:Hid (New w1 w2):=hK2;clear hK2;obtain⟨c0,c1,c2,c3,c4,c5⟩:=(BC.out.kept M2.out id).p6)
  | (go_at_call 53;refine (CS.out _ N2.out).mono ?_;rintro e w3 ⟨hK3,rfl⟩;have N3:=jH (N2.out.new hK3);have M3:Hid (New w1 w3):=M2.out.new hK3;clear hK3;obtain⟨c0,c1,c2,c3,c4,c5⟩:=(BC.out.kept M3.out id).p6))
 obtain⟨w4,hw4⟩:∃w4,w4=(w3.alloc (.cells #[.int .i64 q,.string nm,.int .i64 j,.int .i64 d] 87)).alloc (.cells #[.int .i64 r,.string nm2,.int .i64 v,.int .i64 d2] 87):=⟨_,rfl⟩;rw[←hw4]
 have k4:New w3 w4:=by rw[hw4];exact (kR.alloc _).alloc _
 have BS4:Hid (Blk w4 w3.heap.size 87 [.int .i64 q,.string nm,.int .i64 j,.int .i64 d]):=by rw[hw4];exact (Blk.made w3 _ _).alloc _
 have BT4:Hid (Blk w4 (w3.heap.size+1) 87 [.int .i64 r,.string nm2,.int .i64 v,.int .i64 d2]):=by
  have:=Blk.made (w3.alloc (.cells #[.int .i64 q,.string nm,.int .i64 j,.int .i64 d] 87)) 87 #[.int .i64 r,.string nm2,.int .i64 v,.int .i64 d2]
  rw[World.size_alloc] at this;rw[hw4];exact this
 have N4:=jH (N3.out.new k4);have M4:=jH (M3.out.new k4);clear hw4 k4 c0 c1 c2 c3 c4 c5 N3 M3;obtain⟨g6,hg6⟩:∃g6,g6=w3.heap.size+1:=⟨_,rfl⟩;rw[←hg6] at BT4 ⊢;clear hg6;generalize w3.heap.size=g5 at *;have BA4:=jH (BA.out.kept M4.out id);obtain⟨s0,s1,s2,s3⟩:=BS4.out.p4;obtain⟨r0,r1,r2,r3⟩:=BT4.out.p4;obtain⟨c0,c1,c2,c3,c4,c5⟩:=(BC.out.kept M4.out id).p6
 go_wp2_with (go_at_call 62;refine (CA.out _ N4.out).mono ?_;intro e w5 hAns;obtain⟨B',d',T',t',rfl,hBZ,hDD,hDB⟩:=do_fin hAns N4.out (BA4.out.kept (Kept.refl (fun _=>False) _) id) HGR.out (Tr.not (BA4.out.kept (Kept.refl (fun _=>False) _) id).at_ (by decide) (by decide) (by have:=HNG.out;omega)) HN0.out;have BAZ:=jH hBZ;have DD:=jH hDD;have DB:=jH hDB;have HLD:Hid ((((((((w5.setCell ⟨gr,0,none⟩ (.int .i64 a9.e)).setCell ⟨gr,1,none⟩ (.int .i64 a9.i)).setCell ⟨gr,2,none⟩ (.int .i64 a9.n)).setCell ⟨gr,3,none⟩ (.int .u8 a9.k)).setCell ⟨gr,4,none⟩ (.int .i64 a9.l)).setCell ⟨gr,5,none⟩ (.int .i64 a9.s)).setCell ⟨gr,6,none⟩ (.slice B' a9.b.length d')).setCell ⟨gr,7,none⟩ (.slice T' a9.ns.length t')=ans8 w5 gr a9 B' a9.b.length d' T' a9.ns.length t'):=rfl;obtain⟨t0,t1,t2,t3,t4,t5,t6,t7⟩:=BAZ.out.p8;obtain⟨f0,f1,f2,f3,f4,f5,f6,f7⟩:=BAZ.out.f8;clear hBZ hDD hDB)
 rw[HLD.out];generalize ans8 w5 gr a9 B' a9.b.length d' T' a9.ns.length t'=wf at *;have d0:=DB.out.cell 0;have d1:=DB.out.cell 1;have d2:=DB.out.cell 2;have d3:=DB.out.cell 3;have d4:=DB.out.cell 4;have d5:=DB.out.cell 5;have d6:=DB.out.cell 6;have d7:=DB.out.cell 7;simp at d0 d1 d2 d3 d4 d5 d6 d7;refine bodyPost_ret (by simp[results,Tryz.results33,go_sem,d0,d1,d2,d3,d4,d5,d6,d7];try rfl) rfl ?_;exact DD.out
theorem mdo_st (w0:World) (gt p:Nat) (L:List ND) (sp st:ByteArray) (av nv:Int) (Ab:Option Addr) (bl bc:Nat) (q j d r v d2:Nat) (nm nm2:ByteArray) (L9:List ND) (a9:AN) (w:World) (h:PT w0 w gt p L)
  (hS:∀u,New w u→Calls Tryz.prog 53 #[.pointer (some ⟨gt,0,none⟩),.agg #[.int .u8 10,.string sp,.string st,.int .i64 av,.int .i64 nv,.slice Ab bl bc]] u (fun e w'=>New u w'∧e=.returned (.tuple #[.agg #[.int .i64 q,.string nm,.int .i64 j,.int .i64 d],.agg #[.int .i64 r,.string nm2,.int .i64 v,.int .i64 d2],.int .i64 0])))
  (hA:∀u,New w u→Calls Tryz.prog 63 #[.pointer (some ⟨gt,0,none⟩),.agg #[.int .i64 q,.string nm,.int .i64 j,.int .i64 d]] u (AnsP w0 u gt p L9 a9)):
  Calls Tryz.prog 33 #[.pointer (some ⟨gt,0,none⟩),.agg #[.int .u8 10,.string sp,.string st,.int .i64 av,.int .i64 nv,.slice Ab bl bc]] w (AnsP w0 w gt p L9 a9):=by
 obtain⟨w1,hw1⟩:∃w1,w1=(w.alloc (.cells #[.int .u8 10,.string sp,.string st,.int .i64 av,.int .i64 nv,.slice Ab bl bc] 34)).alloc (.cells #[.int .i64 0,.int .i64 0,.int .i64 0,.int .u8 0,.int .i64 0,.int .i64 0,.slice none 0 0,.slice none 0 0] 41):=⟨_,rfl⟩
 have N1:Hid (New w w1):=by rw[hw1];exact (kR.alloc _).alloc _
 have BC:Hid (Blk w1 w.heap.size 34 [.int .u8 10,.string sp,.string st,.int .i64 av,.int .i64 nv,.slice Ab bl bc]):=by rw[hw1];exact (Blk.made w _ _).alloc _
 have BA:Hid (Blk w1 (w.heap.size+1) 41 [.int .i64 0,.int .i64 0,.int .i64 0,.int .u8 0,.int .i64 0,.int .i64 0,.slice none 0 0,.slice none 0 0]):=by
  have:=Blk.made (w.alloc (.cells #[.int .u8 10,.string sp,.string st,.int .i64 av,.int .i64 nv,.slice Ab bl bc] 34)) 41 #[.int .i64 0,.int .i64 0,.int .i64 0,.int .u8 0,.int .i64 0,.int .i64 0,.slice none 0 0,.slice none 0 0]
  rw[World.size_alloc] at this;rw[hw1];exact this
 have HW:=jH hw1;have HP:=jH h
 have HN0:Hid (New w0 w):=by obtain⟨_,_,_,_,_,_,_,h5,_⟩:=h;exact h5
 have HGT:Hid (gt < w.heap.size):=h.lt;clear hw1;have CS:=jH hS;have CA:=jH hA;clear h hS hA
 have CI:Hid (∀u,Calls Tryz.prog 52 #[.int .u8 10] u (fun e w'=>e=.returned (.bool true)∧New u w')):=fun u=>by
  have:=zbi 10 u
  rwa [decide_eq_true (by decide)] at this
 go_enter Tryz.func33,Tryz.ntmps33
 go_upto_region 1 with fail
 rw[←HW.out];clear HW;obtain⟨gr,hgr⟩:∃gr,gr=w.heap.size+1:=⟨_,rfl⟩;rw[←hgr] at BA ⊢
 have HGR:Hid (w.heap.size≤gr):=by rw[Hid,hgr];omega
 have HTA:Hid (¬Tr w1 gt gr):=Tr.not BA.out.at_ (by decide) (by decide) (by have:=HGT.out;omega)
 have HCA:Hid (¬w.heap.size=gr):=by rw[Hid,hgr];omega
 have HNG:Hid (¬gr=gt):=by have:=HGT.out;rw[Hid,hgr];omega
 clear hgr;obtain⟨gk,hgk⟩:∃gk,gk=w.heap.size:=⟨_,rfl⟩;rw[←hgk] at BC HCA ⊢;clear hgk;have c0:=BC.out.q0
 go_upto_region 6 with (first
  | (go_at_call 52;refine (CI.out _).mono ?_;rintro e w2 ⟨rfl,hK2⟩;have N2:=jH (N1.out.new hK2);have M2:Hid (New w1 w2):=hK2;clear hK2;obtain⟨c0,c1,c2,c3,c4,c5⟩:=(BC.out.kept M2.out id).p6)
  | (go_at_call 53;refine (CS.out _ N2.out).mono ?_;rintro e w3 ⟨hK3,rfl⟩;have N3:=jH (N2.out.new hK3);have M3:Hid (New w1 w3):=M2.out.new hK3;clear hK3;obtain⟨c0,c1,c2,c3,c4,c5⟩:=(BC.out.kept M3.out id).p6))
 obtain⟨w4,hw4⟩:∃w4,w4=(w3.alloc (.cells #[.int .i64 q,.string nm,.int .i64 j,.int .i64 d] 87)).alloc (.cells #[.int .i64 r,.string nm2,.int .i64 v,.int .i64 d2] 87):=⟨_,rfl⟩;rw[←hw4]
 have k4:New w3 w4:=by rw[hw4];exact (kR.alloc _).alloc _
 have BS4:Hid (Blk w4 w3.heap.size 87 [.int .i64 q,.string nm,.int .i64 j,.int .i64 d]):=by rw[hw4];exact (Blk.made w3 _ _).alloc _
 have BT4:Hid (Blk w4 (w3.heap.size+1) 87 [.int .i64 r,.string nm2,.int .i64 v,.int .i64 d2]):=by
  have:=Blk.made (w3.alloc (.cells #[.int .i64 q,.string nm,.int .i64 j,.int .i64 d] 87)) 87 #[.int .i64 r,.string nm2,.int .i64 v,.int .i64 d2]
  rw[World.size_alloc] at this;rw[hw4];exact this
 have N4:=jH (N3.out.new k4);have M4:=jH (M3.out.new k4);clear hw4 k4 c0 c1 c2 c3 c4 c5 N3 M3;obtain⟨g6,hg6⟩:∃g6,g6=w3.heap.size+1:=⟨_,rfl⟩;rw[←hg6] at BT4 ⊢;clear hg6;generalize w3.heap.size=g5 at *;have BA4:=jH (BA.out.kept M4.out id);obtain⟨s0,s1,s2,s3⟩:=BS4.out.p4;obtain⟨r0,r1,r2,r3⟩:=BT4.out.p4;obtain⟨c0,c1,c2,c3,c4,c5⟩:=(BC.out.kept M4.out id).p6
 go_wp2_with (go_at_call 63;refine (CA.out _ N4.out).mono ?_;intro e w5 hAns;obtain⟨B',d',T',t',rfl,hBZ,hDD,hDB⟩:=do_fin hAns N4.out (BA4.out.kept (Kept.refl (fun _=>False) _) id) HGR.out (Tr.not (BA4.out.kept (Kept.refl (fun _=>False) _) id).at_ (by decide) (by decide) (by have:=HNG.out;omega)) HN0.out;have BAZ:=jH hBZ;have DD:=jH hDD;have DB:=jH hDB;have HLD:Hid ((((((((w5.setCell ⟨gr,0,none⟩ (.int .i64 a9.e)).setCell ⟨gr,1,none⟩ (.int .i64 a9.i)).setCell ⟨gr,2,none⟩ (.int .i64 a9.n)).setCell ⟨gr,3,none⟩ (.int .u8 a9.k)).setCell ⟨gr,4,none⟩ (.int .i64 a9.l)).setCell ⟨gr,5,none⟩ (.int .i64 a9.s)).setCell ⟨gr,6,none⟩ (.slice B' a9.b.length d')).setCell ⟨gr,7,none⟩ (.slice T' a9.ns.length t')=ans8 w5 gr a9 B' a9.b.length d' T' a9.ns.length t'):=rfl;obtain⟨t0,t1,t2,t3,t4,t5,t6,t7⟩:=BAZ.out.p8;obtain⟨f0,f1,f2,f3,f4,f5,f6,f7⟩:=BAZ.out.f8;clear hBZ hDD hDB)
 rw[HLD.out];generalize ans8 w5 gr a9 B' a9.b.length d' T' a9.ns.length t'=wf at *;have d0:=DB.out.cell 0;have d1:=DB.out.cell 1;have d2:=DB.out.cell 2;have d3:=DB.out.cell 3;have d4:=DB.out.cell 4;have d5:=DB.out.cell 5;have d6:=DB.out.cell 6;have d7:=DB.out.cell 7;simp at d0 d1 d2 d3 d4 d5 d6 d7;refine bodyPost_ret (by simp[results,Tryz.results33,go_sem,d0,d1,d2,d3,d4,d5,d6,d7];try rfl) rfl ?_;exact DD.out
theorem mdo_ls (w0:World) (gt p:Nat) (L:List ND) (sp st:ByteArray) (av nv:Int) (Ab:Option Addr) (bl bc:Nat) (q j d r v d2:Nat) (nm nm2:ByteArray) (L9:List ND) (a9:AN) (w:World) (h:PT w0 w gt p L)
  (hS:∀u,New w u→Calls Tryz.prog 53 #[.pointer (some ⟨gt,0,none⟩),.agg #[.int .u8 11,.string sp,.string st,.int .i64 av,.int .i64 nv,.slice Ab bl bc]] u (fun e w'=>New u w'∧e=.returned (.tuple #[.agg #[.int .i64 q,.string nm,.int .i64 j,.int .i64 d],.agg #[.int .i64 r,.string nm2,.int .i64 v,.int .i64 d2],.int .i64 0])))
  (hA:∀u,New w u→Calls Tryz.prog 64 #[.pointer (some ⟨gt,0,none⟩),.agg #[.int .i64 q,.string nm,.int .i64 j,.int .i64 d]] u (AnsP w0 u gt p L9 a9)):
  Calls Tryz.prog 33 #[.pointer (some ⟨gt,0,none⟩),.agg #[.int .u8 11,.string sp,.string st,.int .i64 av,.int .i64 nv,.slice Ab bl bc]] w (AnsP w0 w gt p L9 a9):=by
 obtain⟨w1,hw1⟩:∃w1,w1=(w.alloc (.cells #[.int .u8 11,.string sp,.string st,.int .i64 av,.int .i64 nv,.slice Ab bl bc] 34)).alloc (.cells #[.int .i64 0,.int .i64 0,.int .i64 0,.int .u8 0,.int .i64 0,.int .i64 0,.slice none 0 0,.slice none 0 0] 41):=⟨_,rfl⟩
 have N1:Hid (New w w1):=by rw[hw1];exact (kR.alloc _).alloc _
 have BC:Hid (Blk w1 w.heap.size 34 [.int .u8 11,.string sp,.string st,.int .i64 av,.int .i64 nv,.slice Ab bl bc]):=by rw[hw1];exact (Blk.made w _ _).alloc _
 have BA:Hid (Blk w1 (w.heap.size+1) 41 [.int .i64 0,.int .i64 0,.int .i64 0,.int .u8 0,.int .i64 0,.int .i64 0,.slice none 0 0,.slice none 0 0]):=by
  have:=Blk.made (w.alloc (.cells #[.int .u8 11,.string sp,.string st,.int .i64 av,.int .i64 nv,.slice Ab bl bc] 34)) 41 #[.int .i64 0,.int .i64 0,.int .i64 0,.int .u8 0,.int .i64 0,.int .i64 0,.slice none 0 0,.slice none 0 0]
  rw[World.size_alloc] at this;rw[hw1];exact this
 have HW:=jH hw1;have HP:=jH h
 have HN0:Hid (New w0 w):=by obtain⟨_,_,_,_,_,_,_,h5,_⟩:=h;exact h5
 have HGT:Hid (gt < w.heap.size):=h.lt;clear hw1;have CS:=jH hS;have CA:=jH hA;clear h hS hA
 have CI:Hid (∀u,Calls Tryz.prog 52 #[.int .u8 11] u (fun e w'=>e=.returned (.bool true)∧New u w')):=fun u=>by
  have:=zbi 11 u
  rwa [decide_eq_true (by decide)] at this
 go_enter Tryz.func33,Tryz.ntmps33
 go_upto_region 1 with fail
 rw[←HW.out];clear HW;obtain⟨gr,hgr⟩:∃gr,gr=w.heap.size+1:=⟨_,rfl⟩;rw[←hgr] at BA ⊢
 have HGR:Hid (w.heap.size≤gr):=by rw[Hid,hgr];omega
 have HTA:Hid (¬Tr w1 gt gr):=Tr.not BA.out.at_ (by decide) (by decide) (by have:=HGT.out;omega)
 have HCA:Hid (¬w.heap.size=gr):=by rw[Hid,hgr];omega
 have HNG:Hid (¬gr=gt):=by have:=HGT.out;rw[Hid,hgr];omega
 clear hgr;obtain⟨gk,hgk⟩:∃gk,gk=w.heap.size:=⟨_,rfl⟩;rw[←hgk] at BC HCA ⊢;clear hgk;have c0:=BC.out.q0
 go_upto_region 6 with (first
  | (go_at_call 52;refine (CI.out _).mono ?_;rintro e w2 ⟨rfl,hK2⟩;have N2:=jH (N1.out.new hK2);have M2:Hid (New w1 w2):=hK2;clear hK2;obtain⟨c0,c1,c2,c3,c4,c5⟩:=(BC.out.kept M2.out id).p6)
  | (go_at_call 53;refine (CS.out _ N2.out).mono ?_;rintro e w3 ⟨hK3,rfl⟩;have N3:=jH (N2.out.new hK3);have M3:Hid (New w1 w3):=M2.out.new hK3;clear hK3;obtain⟨c0,c1,c2,c3,c4,c5⟩:=(BC.out.kept M3.out id).p6))
 obtain⟨w4,hw4⟩:∃w4,w4=(w3.alloc (.cells #[.int .i64 q,.string nm,.int .i64 j,.int .i64 d] 87)).alloc (.cells #[.int .i64 r,.string nm2,.int .i64 v,.int .i64 d2] 87):=⟨_,rfl⟩;rw[←hw4]
 have k4:New w3 w4:=by rw[hw4];exact (kR.alloc _).alloc _
 have BS4:Hid (Blk w4 w3.heap.size 87 [.int .i64 q,.string nm,.int .i64 j,.int .i64 d]):=by rw[hw4];exact (Blk.made w3 _ _).alloc _
 have BT4:Hid (Blk w4 (w3.heap.size+1) 87 [.int .i64 r,.string nm2,.int .i64 v,.int .i64 d2]):=by
  have:=Blk.made (w3.alloc (.cells #[.int .i64 q,.string nm,.int .i64 j,.int .i64 d] 87)) 87 #[.int .i64 r,.string nm2,.int .i64 v,.int .i64 d2]
  rw[World.size_alloc] at this;rw[hw4];exact this
 have N4:=jH (N3.out.new k4);have M4:=jH (M3.out.new k4);clear hw4 k4 c0 c1 c2 c3 c4 c5 N3 M3;obtain⟨g6,hg6⟩:∃g6,g6=w3.heap.size+1:=⟨_,rfl⟩;rw[←hg6] at BT4 ⊢;clear hg6;generalize w3.heap.size=g5 at *;have BA4:=jH (BA.out.kept M4.out id);obtain⟨s0,s1,s2,s3⟩:=BS4.out.p4;obtain⟨r0,r1,r2,r3⟩:=BT4.out.p4;obtain⟨c0,c1,c2,c3,c4,c5⟩:=(BC.out.kept M4.out id).p6
 go_wp2_with (go_at_call 64;refine (CA.out _ N4.out).mono ?_;intro e w5 hAns;obtain⟨B',d',T',t',rfl,hBZ,hDD,hDB⟩:=do_fin hAns N4.out (BA4.out.kept (Kept.refl (fun _=>False) _) id) HGR.out (Tr.not (BA4.out.kept (Kept.refl (fun _=>False) _) id).at_ (by decide) (by decide) (by have:=HNG.out;omega)) HN0.out;have BAZ:=jH hBZ;have DD:=jH hDD;have DB:=jH hDB;have HLD:Hid ((((((((w5.setCell ⟨gr,0,none⟩ (.int .i64 a9.e)).setCell ⟨gr,1,none⟩ (.int .i64 a9.i)).setCell ⟨gr,2,none⟩ (.int .i64 a9.n)).setCell ⟨gr,3,none⟩ (.int .u8 a9.k)).setCell ⟨gr,4,none⟩ (.int .i64 a9.l)).setCell ⟨gr,5,none⟩ (.int .i64 a9.s)).setCell ⟨gr,6,none⟩ (.slice B' a9.b.length d')).setCell ⟨gr,7,none⟩ (.slice T' a9.ns.length t')=ans8 w5 gr a9 B' a9.b.length d' T' a9.ns.length t'):=rfl;obtain⟨t0,t1,t2,t3,t4,t5,t6,t7⟩:=BAZ.out.p8;obtain⟨f0,f1,f2,f3,f4,f5,f6,f7⟩:=BAZ.out.f8;clear hBZ hDD hDB)
 rw[HLD.out];generalize ans8 w5 gr a9 B' a9.b.length d' T' a9.ns.length t'=wf at *;have d0:=DB.out.cell 0;have d1:=DB.out.cell 1;have d2:=DB.out.cell 2;have d3:=DB.out.cell 3;have d4:=DB.out.cell 4;have d5:=DB.out.cell 5;have d6:=DB.out.cell 6;have d7:=DB.out.cell 7;simp at d0 d1 d2 d3 d4 d5 d6 d7;refine bodyPost_ret (by simp[results,Tryz.results33,go_sem,d0,d1,d2,d3,d4,d5,d6,d7];try rfl) rfl ?_;exact DD.out
end
end Go.Proofs.YtjjamoemheljdaaGreat
