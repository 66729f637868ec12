/-
  ModelRight: a tree that is right stays so; an act that does not change the tree does not; where what comes in is of bulk at most 1048576.
-/
import Derived.Test.YtjjamoemheljdaaGreatB54
namespace Go.Proofs.YtjjamoemheljdaaGreat.modelRight
set_option linter.unusedSimpArgs false
set_option linter.unusedVariables false
open Go.ChangeShapes Go.WideShapes Go.ChangeAt Go.RowKit
theorem own:ownKnob Tryz.prog.godebug=none:=by kernel_rfl
theorem laidOut:laidOutB Tryz.prog=true:=by kernel_rfl
set_option maxRecDepth 100000 in
set_option maxHeartbeats 6400000 in
theorem walk (A:Option Addr) (n c:Nat) (al:List AC) (a:AC) (Ab:Option Addr) (bl bc:Nat) (w:World) (hl:ActsC w A n al) (_:n≤c) (_:c≤maxLen) (ha:ActIn w a Ab bl) (_:True):
  Calls Tryz.prog 4 #[.slice A n c,.agg #[.int .u8 ((a.k:Nat):Int),.string a.p,.string a.t,.int .i64 a.a,.int .i64 a.n,.slice Ab bl bc]] w (True1 w):=by
 have HRT:Hid (Rt (playT (al.take 30))):=playT_rt fun x hx=>hl.byt x (List.mem_of_mem_take hx)
 obtain⟨T9,hT9⟩:∃T9,T9=playT (al.take 30):=⟨_,rfl⟩
 have HE:Hid ((⟨32,T9.l⟩:TT)=T9):=by rw[hT9];exact playT_eta _
 have H32:Hid (T9.p=32):=by rw[hT9];exact playT_p _
 obtain⟨w1,hw1⟩:∃w1,w1=w.alloc (.cells #[.int .u8 ((a.k:Nat):Int),.string a.p,.string a.t,.int .i64 a.a,.int .i64 a.n,.slice Ab bl bc] 34):=⟨_,rfl⟩
 have n1:New w w1:=by rw[hw1];exact (Kept.refl _ _).alloc _
 have HBA:Hid (Blk w1 w.heap.size 34 [.int .u8 ((a.k:Nat):Int),.string a.p,.string a.t,.int .i64 a.a,.int .i64 a.n,.slice Ab bl bc]):=by rw[hw1];exact Lib.hid (Blk.made w _ _)
 have N1:=Lib.hid n1;have HW:=Lib.hid hw1;have CP:=Lib.hid (mplayed_yes A n c al w1 (hl.new n1));rw[←hT9] at CP HRT;clear hT9;have HAC:=Lib.hid ha;clear hl n1 hw1 ha
 go_enter Tryz.func4,Tryz.ntmps4
 go_wp2_with fail
 rw[←HW.out];refine CP.out.mono ?_;rintro e w2 ⟨A3,c3,es3,rfl,hL3,hO3,hN3⟩;clear HW CP
 obtain⟨w3,g3,hZ,hg,k3,hB3,hT3⟩:∃w3 g3,w2.alloc (.cells #[.int .i64 32,.slice A3 es3.length c3] 25)=w3∧w2.heap.size=g3∧New w2 w3∧TBx w w3 g3 T9.l A3 es3.length c3∧LT w w3 g3 32 T9.l:=by
  have hk:=(Kept.refl (fun _=>False) w2).alloc (.cells #[.int .i64 32,.slice A3 es3.length c3] 25);have hO4:=(hO3.mono N1.out.size).new hk
  exact⟨_,_,rfl,rfl,hk,⟨Blk.made w2 _ _,es3,hO4,rfl,hL3⟩,A3,c3,es3,Blk.made w2 _ _,hO4,hL3,(N1.out.new hN3).new hk,(N1.out.new hN3).size⟩
 have HB3:=Lib.hid hB3;have HT3:=Lib.hid hT3;have HN:=Lib.hid ((N1.out.new hN3).new k3);clear hB3 hT3 hL3 hO3;have HB2:=Lib.hid (HBA.out.kept hN3 id);have HBX:=Lib.hid (HB2.out.kept k3 id);have hbt:=(HAC.out.1.new N1.out).new (hN3.new k3);have c0:w3.cell? ⟨w.heap.size,0,none⟩=some (.int .u8 ((a.k:Nat):Int)):=HBX.out.cell 0;have c1:w3.cell? ⟨w.heap.size,1,none⟩=some (.string a.p):=HBX.out.cell 1;have c2:w3.cell? ⟨w.heap.size,2,none⟩=some (.string a.t):=HBX.out.cell 2;have c3':w3.cell? ⟨w.heap.size,3,none⟩=some (.int .i64 a.a):=HBX.out.cell 3;have c4:w3.cell? ⟨w.heap.size,4,none⟩=some (.int .i64 a.n):=HBX.out.cell 4
 have c5:w3.cell? ⟨w.heap.size,5,none⟩=some (.slice Ab bl bc):=HBX.out.cell 5;have hlx:=HBX.out.lt;clear HBA N1 hN3 k3
 have HRL:Hid (Rt ⟨32,T9.l⟩):=by rw[HE.out];exact HRT
 have hb:=HB3.out;clear HB3;have b0:=hb.c0;have b1:=hb.c1;have hlt:=hb.lt;have CD:=Lib.hid (hb.do_ HRL.out (Kept.refl _ _) a.k a.p a.t a.a a.n Ab bl bc a.b HAC.out.2.2.2.1 HAC.out.2.2.2.2 hbt HAC.out.2.1);clear hb;obtain⟨Rx,hRx⟩:∃r,r=doF ⟨32,T9.l⟩ ⟨a.k,a.p,a.t,a.a,a.n,a.b⟩:=⟨_,rfl⟩;rw[←hRx] at CD;have HRx:=Lib.hid hRx;clear hRx
 go_upto_region 3 with (go_at_call 16;refine CD.out.mono ?_;rintro e we ⟨A3,c3,es3,B3,d3,T3,t3,rfl,hL3,hO3,hB3,hX3,hK3,hA3⟩)
 clear hZ hg;have hQ:=Lib.hid (two_box (t3:=t3) HN.out hL3 hO3 hB3 hX3 hK3 hA3);clear hL3 hO3 hB3 hX3 hK3 hA3 CD b0 b1 hlt;obtain⟨w4,gu,gax,hZ,hg,hg2,hk,hT,hA⟩:=hQ.out;rw[hZ,hg,hg2];clear hZ hg hg2 hQ;have HTu:=Lib.hid hT;have HAx:=Lib.hid hA;have HX:=Lib.hid (HN.out.new hk);clear hT hA HN;have HN:=HX;clear HX;have HX:=Lib.hid (HT3.out.new hk);clear HT3;have HT3:=HX;clear HX;have HX:=Lib.hid (HBX.out.kept hk id);clear HBX HB2 c0 c1 c2 c3' c4 c5 hlx hbt;have HBX:=HX;clear HX;clear hk;have HD:Hid (Rx=doF T9 a):=Lib.hid (by rw[HRx.out,HE.out])
 have HRU:Hid (Rt ⟨32,Rx.1.l⟩):=by
  have h1:=do_eta T9 a;rw[H32.out] at h1;rw[HD.out,h1]
  exact rt_do HRT a HAC.out.1.2.1
 have HSM:Hid (Rx.2.e≠0∨¬a.k∈[1,2,3,4,5,6,7,8]→Rx.1.l=T9.l):=fun h=>by
  rw[HD.out] at h ⊢
  rw[do_same (h.imp id fun h=>by
   simp only[List.mem_cons,List.not_mem_nil,or_false,not_or] at h
   omega)]
 obtain⟨A1,n1,c1,hT⟩:=HTu.out.bx;obtain⟨A2,n2,c2,hS⟩:=HT3.out.bx;obtain⟨B5,d5,T5,t5,hA⟩:=HAx.out.bx;have CR:=Lib.hid (hT.right HRU.out (Kept.refl _ _));have HT:=Lib.hid hT;have HS:=Lib.hid hS;have HA:=Lib.hid hA;have b0:=hT.c0;have b1:=hT.c1;have hlt:=hT.lt;clear hT hS hA
 go_wp2_with fail
 refine CR.out.mono ?_;rintro e w5 ⟨rfl,hk5⟩;have e0:=(HA.out.new hk5).c0;have elt:=(HA.out.new hk5).lt;have k0:w5.cell? ⟨w.heap.size,0,none⟩=some (.int .u8 ((a.k:Nat):Int)):=(HBX.out.kept hk5 id).cell 0;have klt:=(HBX.out.kept hk5 id).lt;have t0:=(HT.out.new hk5).c0;have t1:=(HT.out.new hk5).c1;have tlt:=(HT.out.new hk5).lt;have s0:=(HS.out.new hk5).c0;have s1:=(HS.out.new hk5).c1;have slt:=(HS.out.new hk5).lt;have H5:=Lib.hid hk5;have HN5:=Lib.hid (HN.out.new hk5);clear hk5 b0 b1 hlt CR
 by_cases he:Rx.2.e=0
 ·rw[he] at e0
  go_wp2_with fail
  refine (changes_any a.k w5).mono ?_;rintro e w6 ⟨rfl,hk6⟩
  by_cases hk:a.k∈[1,2,3,4,5,6,7,8]
  ·rw[decide_eq_true hk];have HN6:=Lib.hid (HN5.out.new hk6);clear hk6
   go_wp2_with fail
   refine (mlives_any _).mono ?_;rintro e w7 ⟨rfl,hk7⟩;have HN7:=Lib.hid (HN6.out.new hk7);clear hk7
   go_wp2_with fail
   try simp only[Exit.then]
   refine bodyPost_ret (by simp[results,Tryz.results4,go_sem];try rfl) rfl ?_
   exact⟨rfl,HN7.out⟩
  ·rw[decide_eq_false hk];have x0:=(HT.out.new (H5.out.new hk6)).c0;have x1:=(HT.out.new (H5.out.new hk6)).c1;have xlt:=(HT.out.new (H5.out.new hk6)).lt;have y0:=(HS.out.new (H5.out.new hk6)).c0;have y1:=(HS.out.new (H5.out.new hk6)).c1;have ylt:=(HS.out.new (H5.out.new hk6)).lt;have hU6:=HT.out.new (H5.out.new hk6);rw[HSM.out (.inr hk)] at hU6;have CS:=Lib.hid ((HS.out.new (H5.out.new hk6)).same hU6 HRL.out (Kept.refl _ _) (Kept.refl _ _));have HN6:=Lib.hid (HN5.out.new hk6);clear hk6 hU6 t0 t1 tlt s0 s1 slt e0 elt k0 klt
   go_wp2_with fail
   refine CS.out.mono ?_;rintro e w7 ⟨rfl,hk7⟩;have HN7:=Lib.hid (HN6.out.new hk7);clear hk7 CS
   go_wp2_with fail
   refine (mlives_any _).mono ?_;rintro e w8 ⟨rfl,hk8⟩;have HN8:=Lib.hid (HN7.out.new hk8);clear hk8
   go_wp2_with fail
   try simp only[Exit.then]
   refine bodyPost_ret (by simp[results,Tryz.results4,go_sem];try rfl) rfl ?_
   exact⟨rfl,HN8.out⟩
 ·have d0:decide (((Rx.2.e:Nat):Int)=0)=false:=decide_eq_false (by omega);have hU6:=HT.out.new H5.out;rw[HSM.out (.inl he)] at hU6;have CS:=Lib.hid ((HS.out.new H5.out).same hU6 HRL.out (Kept.refl _ _) (Kept.refl _ _));clear hU6 k0 klt
  go_wp2_with fail
  refine CS.out.mono ?_;rintro e w7 ⟨rfl,hk7⟩;have HN7:=Lib.hid (HN5.out.new hk7);clear hk7 CS
  go_wp2_with fail
  refine (mlives_any _).mono ?_;rintro e w8 ⟨rfl,hk8⟩;have HN8:=Lib.hid (HN7.out.new hk8);clear hk8
  go_wp2_with fail
  try simp only[Exit.then]
  refine bodyPost_ret (by simp[results,Tryz.results4,go_sem];try rfl) rfl ?_
  exact⟨rfl,HN8.out⟩
set_option maxRecDepth 100000 in
theorem lifted (os:Os) (started:os.Started) (H:Type) (enc:TypeId×Value→H) (F:Stop.Interp):
  ReturnsInHanded {} Tryz.checked os 4 .any ((Rows.OpenSpec.upto Rows.modelRightSpec).pre6 enc Tryz.prog Tryz.f4 Rows.modelRightUptoRow.domain false) (((Rows.OpenSpec.upto Rows.modelRightSpec).at F).post enc Tryz.prog Tryz.f4 false true false false):=by
 refine lift_upto (C:=Tryz.checked) (s:=Rows.modelRightSpec) (tb:=4) own started (by kernel_rfl) Tryz.func4
  (OpenSpec.witness (enc:=enc) (C:=Tryz.checked) (s:=Rows.OpenSpec.upto Rows.modelRightSpec) (k:=Rows.uptoSmall) rfl false ⟨#[],#[.slice none 0 0,.agg #[.int .u8 0,.string .empty,.string .empty,.int .i64 0,.int .i64 0,.slice none 0 0]],[]⟩ 8 (by kernel_rfl) (by kernel_rfl) (by kernel_rfl)
   (x:=([.nil,.agg [.lit (.int .u8 0),.lit (.string []),.lit (.string []),.lit (.int .i64 0),.lit (.int .i64 0),.nil]],[],[])) (by kernel_rfl) rfl (by kernel_rfl))
  rfl (by kernel_rfl) Tryz.underlying4 ?_ laidOut (of_decide_eq_true (by kernel_rfl)) ?_
 ·intro ds hd
  match ds,hd with
  | [d0,d1],_=>exact⟨rfl,rfl,rfl⟩
 ·intro W base args ds hA hk
  have hA:Args enc Tryz.prog W base Tryz.f4.params.toList args.toList ds:=hA;rw[Tryz.params4] at hA;obtain⟨v0,vs0,d0,ds0,p0,hargs,rfl,a0,hA⟩:=hA.cons_;obtain⟨v1,vs1,d1,ds1,p1,rfl,rfl,a1,hA⟩:=hA.cons_;obtain⟨rfl,rfl⟩:=hA.nil_
  obtain rfl:args=#[v0,v1]:=by cases args;simp_all
  obtain⟨A0,n0,c0,l0,rfl,b0,k0,m0⟩:=a0.actsC_ (bulk_at hk (by simp));obtain⟨x1,A1,n1,c1,rfl,b1⟩:=a1.actC_ (bulk_at hk (by simp))
  exact walk A0 n0 c0 l0 x1 A1 n1 c1 W b0 k0 m0 b1 (bulk_ok hk)
theorem proved:Rows.ModelRightUptoSaid:=
 OpenClaim.holds_of_cond 4 Tryz.f4 rfl rfl rfl rfl rfl rfl rfl ⟨rfl,rfl,rfl,rfl,rfl⟩ rfl rfl rfl rfl rfl (by kernel_rfl) Tryz.func4 (by kernel_rfl)
  (of_decide_eq_true (by kernel_rfl)) (by unfold Func.isWrapper;first|(rw[if_pos (by decide +kernel)];kernel_rfl)|(rw[if_neg (by decide +kernel)];exact⟨rfl,rfl⟩))
  (fun os started H enc _ F=>lifted os started H enc F)
end Go.Proofs.YtjjamoemheljdaaGreat.modelRight
