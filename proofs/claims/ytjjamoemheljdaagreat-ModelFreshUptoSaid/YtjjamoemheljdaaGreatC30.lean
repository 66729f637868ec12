/-
  Layer 7: contracts (Px).
-/
import Derived.Test.YtjjamoemheljdaaGreatC25
namespace Go.Proofs.YtjjamoemheljdaaGreat
set_option maxRecDepth 100000
set_option maxHeartbeats 8000000
set_option linter.unusedSimpArgs false
set_option linter.unusedVariables false
section
open Go.RowKit
theorem DoP.drew {w w':World} {p B:Nat} {A:Option Addr} {L:List ND} {a:AN} {e:Ending} (h:DoP w p B A L a e w'):DoP w p B A L a e w'.drew:=by
 obtain⟨A',c',es,B',d',T',t',h1,h2,h3,h4,h5,h6,h7⟩:=h;exact⟨A',c',es,B',d',T',t',h1,h2,h3.new kR.drew,h4.new kR.drew,h5.new kR.drew,h6.drew,fun x hx=>(h7 x hx).kept (Kept.refl (fun _=>False) _).drew id⟩
theorem wrB_len (b:List Nat) (a:Nat) (x:List Nat):(wrB b a x).length=max b.length (a+x.length):=by
 unfold wrB;rw[List.length_append,zbw,List.length_append,List.length_drop];omega
theorem wrB_mid {b:List Nat} {a t v:Nat} {x:List Nat} (h:a≤t) (hv:x[t - a]?=some v):(wrB b a x)[t]?=some v:=by
 have hlt:=(List.getElem?_eq_some_iff.1 hv).1;unfold wrB;rw[List.getElem?_append_right (by rw[zbw];exact h),zbw,List.getElem?_append_left hlt,hv]
theorem wrB_low {b:List Nat} {a t:Nat} {x:List Nat} (h:t < a):(wrB b a x)[t]?=some (b.getD t 0):=by
 unfold wrB;rw[List.getElem?_append_left (by rw[zbw];exact h)];unfold cutB
 by_cases hb:t < b.length
 ·rw[List.getElem?_append_left (by rw[List.length_take];omega),List.getElem?_take,if_pos h,List.getD,List.getElem?_eq_getElem hb]
  rfl
 ·rw[List.getElem?_append_right (by rw[List.length_take];omega),List.getElem?_replicate,if_pos (by rw[List.length_take];omega),List.getD,List.getElem?_eq_none (by omega)]
  rfl
theorem wrB_high {b:List Nat} {a t v:Nat} {x:List Nat} (h:a+x.length≤t) (hv:b[t]?=some v):(wrB b a x)[t]?=some v:=by
 unfold wrB;rw[List.getElem?_append_right (by rw[zbw];omega),zbw,List.getElem?_append_right (by omega),List.getElem?_drop,show a+x.length+(t - a - x.length)=t by omega,hv]
theorem rbytes_write (p:Nat) (A:Option Addr) (n c B:Nat) (es:List NE) (j:Nat) (y:ND) (sp st:ByteArray) (av nv:Nat) (Ab:Option Addr) (bl bc:Nat) (ab:List Nat) (w:World) (h:TOwn w B A c es) (hn:es.length=n) (hB:B≤w.heap.size) (ho:OrdN (nds es)) (hnv:av+bl≤8*p) (hbl:0 < bl) (hab:Bts w Ab bl ab) (hm:n≤1000) (hy:ndI (nds es) j=some y) (hk:y.k=2) (hyb:y.b.length≤1000000) (hp:p≤255):
  Calls Tryz.prog 41 #[.agg #[.int .i64 p,.slice A n c],.int .i64 j,.agg #[.int .u8 7,.string sp,.string st,.int .i64 av,.int .i64 nv,.slice Ab bl bc]] w
   (DoP w p B A (bytE (nds es) j (wrB y.b av ab)) { erA 0 with n:=bl }):=by
 obtain⟨x,hx,hxy,hxm⟩:=zbg hy
 have hpl:posI (nds es) j < n:=by have:=(List.getElem?_eq_some_iff.1 hx).1;rwa [hn] at this
 obtain⟨w1,hw1⟩:∃w1,w1=(((w.alloc (.cells #[.int .i64 p,.slice A n c] 25)).alloc (.cells #[.int .u8 7,.string sp,.string st,.int .i64 av,.int .i64 nv,.slice Ab bl bc] 34)).alloc (.cells #[.int .i64 0,.slice none 0 0] 25)).alloc (.cells #[.int .i64 0,.int .i64 0,.int .i64 0,.int .u8 0,.int .i64 0,.int .i64 0,.slice none 0 0,.slice none 0 0] 41):=⟨_,rfl⟩
 have n1:New w w1:=by rw[hw1];exact (((kR.alloc _).alloc _).alloc _).alloc _
 have BT:Hid (Blk w1 w.heap.size 25 [.int .i64 p,.slice A n c]):=by rw[hw1];exact (((Blk.made w _ _).alloc _).alloc _).alloc _
 have BC:Hid (Blk w1 (w.heap.size+1) 34 [.int .u8 7,.string sp,.string st,.int .i64 av,.int .i64 nv,.slice Ab bl bc]):=by
  have:=Blk.made (w.alloc (.cells #[.int .i64 p,.slice A n c] 25)) 34 #[.int .u8 7,.string sp,.string st,.int .i64 av,.int .i64 nv,.slice Ab bl bc]
  rw[World.size_alloc] at this;rw[hw1];exact (this.alloc _).alloc _
 have BR:Hid (Blk w1 (w.heap.size+1+1) 25 [.int .i64 0,.slice none 0 0]):=by
  have:=Blk.made ((w.alloc (.cells #[.int .i64 p,.slice A n c] 25)).alloc (.cells #[.int .u8 7,.string sp,.string st,.int .i64 av,.int .i64 nv,.slice Ab bl bc] 34)) 25 #[.int .i64 0,.slice none 0 0]
  rw[World.size_alloc,World.size_alloc] at this;rw[hw1];exact this.alloc _
 have BA:Hid (Blk w1 (w.heap.size+1+1+1) 41 [.int .i64 0,.int .i64 0,.int .i64 0,.int .u8 0,.int .i64 0,.int .i64 0,.slice none 0 0,.slice none 0 0]):=by
  have:=Blk.made (((w.alloc (.cells #[.int .i64 p,.slice A n c] 25)).alloc (.cells #[.int .u8 7,.string sp,.string st,.int .i64 av,.int .i64 nv,.slice Ab bl bc] 34)).alloc (.cells #[.int .i64 0,.slice none 0 0] 25)) 41 #[.int .i64 0,.int .i64 0,.int .i64 0,.int .u8 0,.int .i64 0,.int .i64 0,.slice none 0 0,.slice none 0 0]
  rw[World.size_alloc,World.size_alloc,World.size_alloc] at this;rw[hw1];exact this
 have CN:Hid (∀u,New w1 u→Calls Tryz.prog 25 #[.agg #[.int .i64 p,.slice A n c],.int .i64 j] u (zaw u ((posI (nds es) j:Nat):Int))):=fun u hu=>by
  have:=zam p A n c es j u ((h.new n1).new hu).in_ hn (by omega)
  rwa [zaz hy] at this
 have GT:Hid (w.heap.size≤w.heap.size+1+1):=by show _≤_;omega
 have GA:Hid (w.heap.size≤w.heap.size+1+1+1):=by show _≤_;omega
 obtain⟨ga,oa,z',eA,_⟩:=(h.new n1).in_.pos (i:=posI (nds es) j) (by rw[hn];exact hpl)
 have ON:oa=0:=by
  have:=h.1.2.2.2
  rcases this with ⟨e,_⟩|⟨g',sp,e,_⟩
  ·rw[e] at eA;cases eA
  ·rw[e] at eA;injection eA with eA;injection eA with _ e2;exact e2.symm
 subst ON;have H:=jH (h.new n1)
 have AB:Hid (∀u,New w1 u→Bts u Ab bl ab):=fun u hu=>(hab.new n1).new hu
 have LAB:=jH hab.1;have N1:=jH n1;have HW:=jH hw1;have LN:=jH hn;subst eA
 have XC:Hid (∀u,New w1 u→u.cell? ⟨ga,posI (nds es) j*5,none⟩=some (.int .i64 x.n.i)∧u.cell? ⟨ga,posI (nds es) j*5+1,none⟩=some (.int .u8 x.n.k)∧u.cell? ⟨ga,posI (nds es) j*5+2,none⟩=some (.int .i64 x.n.l) ∧
   u.cell? ⟨ga,posI (nds es) j*5+3,none⟩=some (.slice x.A x.n.ns.length x.c)∧u.cell? ⟨ga,posI (nds es) j*5+4,none⟩=some (.slice x.B x.n.b.length x.d)):=fun u hu=>by
  have:=((H.out.new hu).in_.get hx).2
  rw[Nat.zero_add] at this;exact this
 have HK:Hid (x.n.k=2):=by rw[hxy];exact hk
 have XB:Hid (∀u,New w1 u→Bts u x.B x.n.b.length x.n.b):=fun u hu=>((H.out.new hu).in_.2 x hxm).2.1
 have hji:=(zaa hy).2
 have HEQ:Hid (∀b:List Nat,(nds es).set (posI (nds es) j) { x.n with b:=b }=bytE (nds es) j b):=fun b=>by
  have:=upd_set ho (zbc hx) (fun m=>{ m with b:=b })
  rw[←this,hxy,hji]
  rfl
 have XM:=jH hx
 have FZ:Hid (∀u,New w1 u→u.frozen? ⟨ga,posI (nds es) j*5+4,none⟩=false):=fun u hu=>by
  rcases (H.out.new hu).1.2.2.2 with ⟨e,_⟩|⟨g',sp,e,_,hb,_⟩
  ·cases e
  ·injection e with e
   injection e with e _
   subst e;exact hb.free _
 rw[←hxy] at hyb ⊢;have HBW:=jH hB;clear h n1 hw1 hx hxy hxm hy hn hk ho hji hB hab;generalize posI (nds es) j=pj at *;go_enter Tryz.func41,Tryz.ntmps41;go_wp2_with fail;rw[←HW.out];clear HW;obtain⟨gk,hgk⟩:∃gk,gk=w.heap.size:=⟨_,rfl⟩;rw[←hgk] at BT BC BR BA GT GA ⊢;have GK:=jH hgk;clear hgk;refine (CN.out w1 kR).mono ?_;rintro e w2 ⟨rfl,k2⟩;obtain⟨w3,hw3⟩:∃w3,w3=w2.alloc (.cells #[.int .i64 x.n.i,.int .u8 x.n.k,.int .i64 x.n.l,.slice x.A x.n.ns.length x.c,.slice x.B x.n.b.length x.d] 53):=⟨_,rfl⟩
 have N3:Hid (New w1 w3):=by rw[hw3];exact Kept.alloc k2 _
 have BX:Hid (Blk w3 w2.heap.size 53 [.int .i64 x.n.i,.int .u8 x.n.k,.int .i64 x.n.l,.slice x.A x.n.ns.length x.c,.slice x.B x.n.b.length x.d]):=by rw[hw3];exact Blk.made w2 _ _
 have HW3:=jH hw3;obtain⟨x0,x1,x2,x3,x4⟩:=XC.out w2 k2;obtain⟨b0,b1⟩:=(BT.out.kept k2 id).p2
 have s0:(pj:Int) < (n:Int):=by omega
 have e1:(((x.n.k:Nat):Int) != 2)=false:=by rw[HK.out];rfl
 clear CN hw3 k2
 go_upto_if 25 with fail
 rw[←HW3.out];clear HW3 x0 x1 x2 x3 x4 b0 b1;generalize w2.heap.size=gx at *;have HT3:=jH (H.out.new N3.out);have b0:=(BT.out.kept N3.out id).q0;have a0:=(BC.out.kept N3.out id).q0;have a3:=(BC.out.kept N3.out id).q3;have a5:=(BC.out.kept N3.out id).q5;have e4:((bl:Int) == 0)=false:=beq_eq_false_iff_ne.2 (by omega);have e5:decide ((8*(p:Int)) < (av:Int))=false:=decide_eq_false (by omega);have e6:decide ((8*(p:Int)) - (av:Int) < (bl:Int))=false:=decide_eq_false (by omega);have a4:=(BC.out.kept N3.out id).q4;have e2:decide (((av:Nat):Int) < 0)=false:=decide_eq_false (by omega);have e3:decide (((nv:Nat):Int) < 0)=false:=decide_eq_false (by omega)
 go_wp2_with fail;clear a0 e2 e3 e4 e5 e6 b0 a3 a4 a5;obtain⟨M,hM⟩:∃M,M=max x.n.b.length (av+bl):=⟨_,rfl⟩
 have LW:Hid ((wrB x.n.b av ab).length=M):=by rw[Hid,wrB_len,LAB.out,hM]
 have hM1:x.n.b.length≤M:=by omega
 have hM2:av+bl≤M:=by omega
 have hM3:M≤x.n.b.length∨M≤av+bl:=by omega
 have hM4:M≤2000000:=by omega
 clear hM;have HM3:=jH hM3;clear hM3
 go_loopw [11,14] (fun q i wr=>∃(t:Nat) (A2:Option Addr) (c2:Nat),t≤M∧i=.int .i64 t∧q=.slice A2 t c2∧Hid (OwnB wr 5 w3.heap.size A2 c2 ((wrB x.n.b av ab).take t))∧Hid (New w3 wr)) (fun _ i _=>M - (intOf i).toNat)
 case atStart=>exact⟨0,none,0,Nat.zero_le _,rfl,rfl,OwnB.nil _ _ _,kR⟩
 case round=>
  obtain⟨t,A2,c2,ht,rfl,rfl,VO,NU⟩:=hrel
  have CL:Hid (((wrB x.n.b av ab).take t).length=t):=by rw[Hid,List.length_take,LW.out];omega
  have u4:=(BX.out.kept NU.out id).q4;have a3:=(BC.out.kept (N3.out.new NU.out) id).q3;have a5:=(BC.out.kept (N3.out.new NU.out) id).q5
  by_cases hlt:t < M
  ·by_cases hA:av≤t∧t < av+bl
   ·obtain⟨q,hq⟩:∃q,q=t - av:=⟨_,rfl⟩;obtain⟨g,o,v,eB,hv,hv256,hc⟩:=(AB.out wr (N3.out.new NU.out)).at_ (k:=q) (by omega);rw[eB] at a5;have GD:Hid ((wrB x.n.b av ab)[t]?=some v):=wrB_mid hA.1 (by rw[←hq];exact hv)
    have s5:((t:Nat):Int) - ((av:Nat):Int)=((q:Nat):Int):=by omega
    have s6:q < bl:=by omega
    have d2:decide (((t:Nat):Int) < ((av:Nat):Int)+((bl:Nat):Int))=true:=decide_eq_true (by omega);have d3:decide (av≤t)=true:=decide_eq_true hA.1;clear hA hq hv eB
    by_cases hb:t < x.n.b.length
    ·have d1:decide (t < x.n.b.length)=true:=decide_eq_true hb;clear hb;obtain⟨i0,hi,hz0,hz1,hz2⟩:=info_parts zcg;have OA:Hid (OwnB (wr.alloc (.cells #[.int .u8 v] 5)) 5 w3.heap.size A2 c2 ((wrB x.n.b av ab).take t)):=VO.out.new (kR.alloc _);have NA:Hid (New w3 (wr.alloc (.cells #[.int .u8 v] 5))):=NU.out.alloc _;have BO:Hid (Bts (wr.alloc (.cells #[.int .u8 v] 5)) (some ⟨wr.heap.size,0,none⟩) 1 [v]):=Bts.one _ _ _ _ hv256 rfl
     go_wp2_with (first
      | (at_builtin;refine zal _ rfl _ _ _ rfl 5 i0 Tryz.underlying32 hi hz0 hz1 hz2 w3.heap.size A2 _ c2 ((wrB x.n.b av ab).take t) rfl OA.out CL.out.symm (some ⟨wr.heap.size,0,none⟩) 1 1 [v] rfl BO.out (by rw[CL.out];omega) NA.out.size ?_)
      | fail)
     intro A5 c5 w5 O5 g5 _;have K5:Hid (New w3 w5):=Kept.of_own NA.out OA.out g5
     have E1:Hid (OwnB w5 5 w3.heap.size A5 c5 ((wrB x.n.b av ab).take (t+1))):=by rw[List.take_add_one,GD.out];exact O5
     clear O5 g5 OA NA BO VO NU u4 a3 a5 hi hz0 hz1 hz2 i0 GD CL d1 d2 d3 s5 s6 hc;go_wp2;go_roundw
     case rel=>exact⟨t+1,A5,c5,by omega,by go_num,by go_num,E1,K5⟩
     case measure=>simp[intOf];omega
    ·have d1:decide (t < x.n.b.length)=false:=decide_eq_false hb;clear hb;obtain⟨i0,hi,hz0,hz1,hz2⟩:=info_parts zcg;have OA:Hid (OwnB (wr.alloc (.cells #[.int .u8 v] 5)) 5 w3.heap.size A2 c2 ((wrB x.n.b av ab).take t)):=VO.out.new (kR.alloc _);have NA:Hid (New w3 (wr.alloc (.cells #[.int .u8 v] 5))):=NU.out.alloc _;have BO:Hid (Bts (wr.alloc (.cells #[.int .u8 v] 5)) (some ⟨wr.heap.size,0,none⟩) 1 [v]):=Bts.one _ _ _ _ hv256 rfl
     go_wp2_with (first
      | (at_builtin;refine zal _ rfl _ _ _ rfl 5 i0 Tryz.underlying32 hi hz0 hz1 hz2 w3.heap.size A2 _ c2 ((wrB x.n.b av ab).take t) rfl OA.out CL.out.symm (some ⟨wr.heap.size,0,none⟩) 1 1 [v] rfl BO.out (by rw[CL.out];omega) NA.out.size ?_)
      | fail)
     intro A5 c5 w5 O5 g5 _;have K5:Hid (New w3 w5):=Kept.of_own NA.out OA.out g5
     have E1:Hid (OwnB w5 5 w3.heap.size A5 c5 ((wrB x.n.b av ab).take (t+1))):=by rw[List.take_add_one,GD.out];exact O5
     clear O5 g5 OA NA BO VO NU u4 a3 a5 hi hz0 hz1 hz2 i0 GD CL d1 d2 d3 s5 s6 hc;go_wp2;go_roundw
     case rel=>exact⟨t+1,A5,c5,by omega,by go_num,by go_num,E1,K5⟩
     case measure=>simp[intOf];omega
   ·by_cases hb:t < x.n.b.length
    ·obtain⟨g,o,v,eB,hv,hv256,hc⟩:=(XB.out wr (N3.out.new NU.out)).at_ hb;rw[eB] at u4;have d1:decide (t < x.n.b.length)=true:=decide_eq_true hb
     by_cases hlow:t < av
     ·have GD:Hid ((wrB x.n.b av ab)[t]?=some v):=by rw[Hid,wrB_low hlow,List.getD,hv];rfl
      have d3:decide (av≤t)=false:=decide_eq_false (by omega);clear hA hlow hv eB;obtain⟨i0,hi,hz0,hz1,hz2⟩:=info_parts zcg;have OA:Hid (OwnB (wr.alloc (.cells #[.int .u8 v] 5)) 5 w3.heap.size A2 c2 ((wrB x.n.b av ab).take t)):=VO.out.new (kR.alloc _);have NA:Hid (New w3 (wr.alloc (.cells #[.int .u8 v] 5))):=NU.out.alloc _;have BO:Hid (Bts (wr.alloc (.cells #[.int .u8 v] 5)) (some ⟨wr.heap.size,0,none⟩) 1 [v]):=Bts.one _ _ _ _ hv256 rfl
      go_wp2_with (first
       | (at_builtin;refine zal _ rfl _ _ _ rfl 5 i0 Tryz.underlying32 hi hz0 hz1 hz2 w3.heap.size A2 _ c2 ((wrB x.n.b av ab).take t) rfl OA.out CL.out.symm (some ⟨wr.heap.size,0,none⟩) 1 1 [v] rfl BO.out (by rw[CL.out];omega) NA.out.size ?_)
       | fail)
      intro A5 c5 w5 O5 g5 _;have K5:Hid (New w3 w5):=Kept.of_own NA.out OA.out g5
      have E1:Hid (OwnB w5 5 w3.heap.size A5 c5 ((wrB x.n.b av ab).take (t+1))):=by rw[List.take_add_one,GD.out];exact O5
      clear O5 g5 OA NA BO VO NU u4 a3 a5 hi hz0 hz1 hz2 i0 GD CL d1 d3 hc hb;go_wp2;go_roundw
      case rel=>exact⟨t+1,A5,c5,by omega,by go_num,by go_num,E1,K5⟩
      case measure=>simp[intOf];omega
     ·have GD:Hid ((wrB x.n.b av ab)[t]?=some v):=wrB_high (by rw[LAB.out];omega) hv;have d3:decide (av≤t)=true:=decide_eq_true (by omega);have d2:decide (((t:Nat):Int) < ((av:Nat):Int)+((bl:Nat):Int))=false:=decide_eq_false (by omega);clear hA hlow hv eB;obtain⟨i0,hi,hz0,hz1,hz2⟩:=info_parts zcg;have OA:Hid (OwnB (wr.alloc (.cells #[.int .u8 v] 5)) 5 w3.heap.size A2 c2 ((wrB x.n.b av ab).take t)):=VO.out.new (kR.alloc _);have NA:Hid (New w3 (wr.alloc (.cells #[.int .u8 v] 5))):=NU.out.alloc _;have BO:Hid (Bts (wr.alloc (.cells #[.int .u8 v] 5)) (some ⟨wr.heap.size,0,none⟩) 1 [v]):=Bts.one _ _ _ _ hv256 rfl
      go_wp2_with (first
       | (at_builtin;refine zal _ rfl _ _ _ rfl 5 i0 Tryz.underlying32 hi hz0 hz1 hz2 w3.heap.size A2 _ c2 ((wrB x.n.b av ab).take t) rfl OA.out CL.out.symm (some ⟨wr.heap.size,0,none⟩) 1 1 [v] rfl BO.out (by rw[CL.out];omega) NA.out.size ?_)
       | fail)
      intro A5 c5 w5 O5 g5 _;have K5:Hid (New w3 w5):=Kept.of_own NA.out OA.out g5
      have E1:Hid (OwnB w5 5 w3.heap.size A5 c5 ((wrB x.n.b av ab).take (t+1))):=by rw[List.take_add_one,GD.out];exact O5
      clear O5 g5 OA NA BO VO NU u4 a3 a5 hi hz0 hz1 hz2 i0 GD CL d1 d2 d3 hc hb;go_wp2;go_roundw
      case rel=>exact⟨t+1,A5,c5,by omega,by go_num,by go_num,E1,K5⟩
      case measure=>simp[intOf];omega
    ·have hlow:t < av:=by have:=HM3.out;omega
     have d1:decide (t < x.n.b.length)=false:=decide_eq_false hb;have d2:decide (((t:Nat):Int) < ((av:Nat):Int)+((bl:Nat):Int))=true:=decide_eq_true (by omega);have d3:decide (av≤t)=false:=decide_eq_false (by omega)
     have GD:Hid ((wrB x.n.b av ab)[t]?=some 0):=by rw[Hid,wrB_low hlow,List.getD,List.getElem?_eq_none (by omega)];rfl
     clear hA hb hlow;obtain⟨i0,hi,hz0,hz1,hz2⟩:=info_parts zcg;have OA:Hid (OwnB (wr.alloc (.cells #[.int .u8 0] 5)) 5 w3.heap.size A2 c2 ((wrB x.n.b av ab).take t)):=VO.out.new (kR.alloc _);have NA:Hid (New w3 (wr.alloc (.cells #[.int .u8 0] 5))):=NU.out.alloc _;have BO:Hid (Bts (wr.alloc (.cells #[.int .u8 0] 5)) (some ⟨wr.heap.size,0,none⟩) 1 [0]):=Bts.one _ _ 0 _ (by omega) rfl
     go_wp2_with (first
      | (at_builtin;refine zal _ rfl _ _ _ rfl 5 i0 Tryz.underlying32 hi hz0 hz1 hz2 w3.heap.size A2 _ c2 ((wrB x.n.b av ab).take t) rfl OA.out CL.out.symm (some ⟨wr.heap.size,0,none⟩) 1 1 [0] rfl BO.out (by rw[CL.out];omega) NA.out.size ?_)
      | fail)
     intro A5 c5 w5 O5 g5 _;have K5:Hid (New w3 w5):=Kept.of_own NA.out OA.out g5
     have E1:Hid (OwnB w5 5 w3.heap.size A5 c5 ((wrB x.n.b av ab).take (t+1))):=by rw[List.take_add_one,GD.out];exact O5
     clear O5 g5 OA NA BO VO NU u4 a3 a5 hi hz0 hz1 hz2 i0 GD CL d1 d2 d3;go_wp2;go_roundw
     case rel=>exact⟨t+1,A5,c5,by omega,by go_num,by go_num,E1,K5⟩
     case measure=>simp[intOf];omega
  ·obtain htl:t=M:=by omega
   have d1:decide (t < x.n.b.length)=false:=decide_eq_false (by omega);have d2:decide (((t:Nat):Int) < ((av:Nat):Int)+((bl:Nat):Int))=false:=decide_eq_false (by omega)
   have VF:Hid (OwnB wr 5 w3.heap.size A2 c2 (wrB x.n.b av ab)):=by have:=VO.out;rwa [List.take_of_length_le (by rw[LW.out];omega)] at this
   have NWR:Hid (New w1 wr):=N3.out.new NU.out;have HT0:=H.out.new NWR.out;have hat:At wr ga 53:=(HT0.1.at_ _ rfl).1;have hXo:=HT0.2 x (List.mem_of_getElem? XM.out);have hKS:Kept (·=ga) wr (wr.setCell ⟨ga,pj*5+4,none⟩ (.slice A2 t c2)):=Kept.set1 _ _ _ _;have BT0:=BR.out.kept NWR.out id;have BA0:=BA.out.kept NWR.out id;have BK0:=BT.out.kept NWR.out id
   have hn1:¬gk+1+1=ga:=fun e=>BT0.at_.ne_of hat (by decide) e
   have hn2:¬gk+1+1+1=ga:=fun e=>BA0.at_.ne_of hat (by decide) e
   have hn3:¬gk=ga:=fun e=>BK0.at_.ne_of hat (by decide) e
   have hB2:B≤w3.heap.size:=by have:=HBW.out;have:=N1.out.size;have:=N3.out.size;omega
   have T4:Hid (TOwn (wr.setCell ⟨ga,pj*5+4,none⟩ (.slice A2 t c2)) B (some ⟨ga,0,none⟩) c (es.set pj { x with n:={ x.n with b:=wrB x.n.b av ab },B:=A2,d:=c2 })):=by
    refine TOwn.set HT0 XM.out (j:=4) (by omega) ?_ rfl ⟨?_,?_⟩
    ·show _=_
     rw[htl];unfold NE.cells;simp only;rw[LW.out]
     rfl
    ·exact hXo.1.kept hKS fun a ha e2=>(hXo.1.at_ a ha).1.ne_of hat (by decide) e2
    ·exact (VF.out.mono hB2).kept hKS fun a ha e2=>(VF.out.at_ a ha).1.ne_of hat (by decide) e2
   have BT3:Hid (Blk (wr.setCell ⟨ga,pj*5+4,none⟩ (.slice A2 t c2)) (gk+1+1) 25 [.int .i64 0,.slice none 0 0]):=BT0.kept hKS hn1;have BA3:=jH (BA0.kept hKS hn2);have KW3:Hid (Kept (zak (some ⟨ga,0,none⟩)) w (wr.setCell ⟨ga,pj*5+4,none⟩ (.slice A2 t c2))):=((N1.out.new NWR.out).mono fun _ _ f=>f.elim).setCell (p:=⟨ga,pj*5+4,none⟩) (fun _=>⟨_,rfl,rfl⟩) _
   have LN3:Hid ((es.set pj { x with n:={ x.n with b:=wrB x.n.b av ab },B:=A2,d:=c2 }).length=n):=by rw[Hid,List.length_set];exact LN.out
   have LL:Hid (nds (es.set pj { x with n:={ x.n with b:=wrB x.n.b av ab },B:=A2,d:=c2 })=bytE (nds es) j (wrB x.n.b av ab)):=by rw[Hid,nds_set];exact HEQ.out _
   have fz:=FZ.out wr NWR.out;obtain⟨b0,b1⟩:=BK0.p2;have c4:wr.cell? ⟨ga,pj*5+4,none⟩=some (.slice x.B x.n.b.length x.d):=(XC.out wr NWR.out).2.2.2.2
   have hn4:¬ga=gk:=fun e=>hn3 e.symm
   have hn5:¬ga=gk+1+1:=fun e=>hn1 e.symm
   have hn6:¬ga=gk+1+1+1:=fun e=>hn2 e.symm
   obtain⟨t0,t1⟩:=BT0.p2;obtain⟨f0,f1⟩:=BT0.f2;obtain⟨r0,r1,r2,r3,r4,r5,r6,r7⟩:=BA0.p8;obtain⟨g0,g1,g2,g3,g4,g5,g6,g7⟩:=BA0.f8;have HLD:Hid ((((((((((((wr.setCell ⟨ga,pj*5+4,none⟩ (.slice A2 t c2)).setCell ⟨gk+1+1,0,none⟩ (.int .i64 p)).setCell ⟨gk+1+1,1,none⟩ (.slice (some ⟨ga,0,none⟩) n c)).setCell ⟨gk+1+1+1,0,none⟩ (.int .i64 0)).setCell ⟨gk+1+1+1,1,none⟩ (.int .i64 0)).setCell ⟨gk+1+1+1,2,none⟩ (.int .i64 bl)).setCell ⟨gk+1+1+1,3,none⟩ (.int .u8 0)).setCell ⟨gk+1+1+1,4,none⟩ (.int .i64 0)).setCell ⟨gk+1+1+1,5,none⟩ (.int .i64 0)).setCell ⟨gk+1+1+1,6,none⟩ (.slice none 0 0)).setCell ⟨gk+1+1+1,7,none⟩ (.slice none 0 0))=laid (wr.setCell ⟨ga,pj*5+4,none⟩ (.slice A2 t c2)) (gk+1+1) (gk+1+1+1) p (some ⟨ga,0,none⟩) n c { erA 0 with n:=bl } none 0 0 none 0 0):=rfl
   have DD:=jH (zag (w:=w) (A0:=some ⟨ga,0,none⟩) (a:={ erA 0 with n:=bl }) (p:=p) (c:=c) (n:=n) (d':=0) (t':=0) (B':=none) (m:=0) (q:=0) (T':=none) BT3.out BA3.out (by have:=GK.out;omega) (by have:=GK.out;omega) T4.out LN3.out LL.out (OwnB.nil _ _ _) rfl (Txs.nil _ _) (fun _ h=>by cases h) rfl KW3.out);have DB:=jH (zae (p:=p) (A:=some ⟨ga,0,none⟩) (n:=n) (c:=c) (a:={ erA 0 with n:=bl }) (B':=none) (m:=0) (d':=0) (T':=none) (q:=0) (t':=0) BT3.out BA3.out);clear htl VF BT0 BA0 BK0 hat hXo hKS HT0 T4 BT3 BA3 KW3 LN3 LL VO CL hlt;go_wp2_with fail
   go_region
   rw[HLD.out];generalize laid (wr.setCell ⟨ga,pj*5+4,none⟩ (.slice A2 t c2)) (gk+1+1) (gk+1+1+1) p (some ⟨ga,0,none⟩) n c { erA 0 with n:=bl } none 0 0 none 0 0=wf at *;have d0:=DB.out.1.cell 0;have d1:=DB.out.1.cell 1;have d2:=DB.out.2.cell 0;have d3:=DB.out.2.cell 1;have d4:=DB.out.2.cell 2;have d5:=DB.out.2.cell 3;have d6:=DB.out.2.cell 4;have d7:=DB.out.2.cell 5;have d8:=DB.out.2.cell 6;have d9:=DB.out.2.cell 7;simp at d0 d1 d2 d3 d4 d5 d6 d7 d8 d9;go_wp2_with fail;refine bodyPost_ret (by simp[results,Tryz.results41,go_sem,d0,d1,d2,d3,d4,d5,d6,d7,d8,d9];try rfl) rfl ?_;exact DD.out.drew
end
end Go.Proofs.YtjjamoemheljdaaGreat
