/-
  Layer 7: contracts (Ji Jm).
-/
import Derived.Test.YtbiihjdjbknibaaGreatC41
namespace Go.Proofs.YtbiihjdjbknibaaGreat
set_option maxRecDepth 100000
set_option maxHeartbeats 8000000
set_option linter.unusedSimpArgs false
set_option linter.unusedVariables false
section
set_option maxRecDepth 100000
open Go.RowKit
section
variable {l:List Nat}
theorem gn_ok (h1:takeE l 1=0) (h2:¬1 < takeV l 1):gnE l=0:=by unfold gnE;rw[if_neg (by rw[h1];simp),if_neg h2]
theorem chE_te (h:takeE l 1≠0):chE l=takeE l 1:=by
 have:gnE l=takeE l 1:=by unfold gnE;rw[if_pos h]
 unfold chE;rw[this,if_pos h]
theorem chE_big (h1:takeE l 1=0) (h2:1 < takeV l 1):chE l=5:=by
 have:gnE l=5:=by unfold gnE;rw[if_neg (by rw[h1];simp),if_pos h2]
 unfold chE;rw[this,if_pos (by decide)]
theorem chE_key (h1:takeE l 1=0) (h2:¬1 < takeV l 1) (h3:gkE (takeL l 1)≠0):chE l=gkE (takeL l 1):=by
 unfold chE;rw[gn_ok h1 h2,if_neg (by simp),if_pos h3]
theorem chE_gone (h1:takeE l 1=0) (h2:takeV l 1=0) (h3:gkE (takeL l 1)=0):chE l=0:=by
 unfold chE;rw[gn_ok h1 (by omega),if_neg (by simp),h3,if_neg (by simp),if_pos h2]
theorem chE_val (h1:takeE l 1=0) (h2:¬1 < takeV l 1) (h0:takeV l 1≠0) (h3:gkE (takeL l 1)=0):chE l=vlE (tkR (takeL l 1)):=by
 unfold chE;rw[gn_ok h1 h2,if_neg (by simp),h3,if_neg (by simp),if_neg h0]
theorem vlE_row (h:rwE l≠0):vlE l=rwE l:=by unfold vlE;rw[if_pos h]
theorem vlE_no (h:rwE l=0) (h2:(rwL l).length=0):vlE l=5:=by unfold vlE;rw[h,if_neg (by simp),if_pos h2]
theorem vlE_ok (h:rwE l=0) (h2:(rwL l).length≠0):vlE l=0:=by unfold vlE;rw[h,if_neg (by simp),if_neg h2]
theorem ge_te (h:takeE l 1≠0):geE l=takeE l 1:=by
 have:csE l=takeE l 1:=by unfold csE;rw[if_pos h]
 unfold geE;rw[this,if_pos h]
theorem ge_zero (h:takeE l 1=0) (h2:takeV l 1=0):geE l=5:=by
 have:csE l=5:=by unfold csE;rw[h,if_neg (by simp),if_pos h2]
 unfold geE;rw[this,if_pos (by decide)]
theorem ge_err {k:Nat} {z:Int} (h:takeE l 1=0) (h2:takeV l 1≠0) (hj:∀j,j < k→chE (stR j (takeL l 1))=0) (hk:k < takeV l 1) (hz:chE (stR k (takeL l 1))=z) (h0:z≠0):geE l=z:=by
 have:csE l=z:=by unfold csE;rw[h,if_neg (by simp),if_neg h2,fs_no hj hk (by rw[hz];exact h0),hz]
 unfold geE;rw[this,if_pos h0]
theorem ge_end (h:takeE l 1=0) (h2:takeV l 1≠0) (hj:∀j,j < takeV l 1→chE (stR j (takeL l 1))=0):geE l=if 0 < (stR (takeV l 1) (takeL l 1)).length then 5 else 0:=by
 have:csE l=0:=by unfold csE;rw[h,if_neg (by simp),if_neg h2,fs_yes hj]
 unfold geE;rw[this,if_neg (by simp)]
end
theorem rrecGet_any (A:Option Addr) (n c:Nat) (l:List Nat) (w:World) (ha:Bts w A n l) (hn:n≤140737488351232):
  Calls Tryz.prog 36 #[.slice A n c] w (GetP11 w l):=by
 obtain⟨i0,hi,hz0,hz1,hz2⟩:=info_parts info_u8;have hl:l.length=n:=ha.1;have hV:takeV l 1 < 256:=takeV_lt (s:=1) ha.2.1 sz1;have G1:Hid (takeE l 1≠0→geE l=takeE l 1):=ge_te;have G2:Hid (takeE l 1=0→takeV l 1=0→geE l=5):=ge_zero
 have G3:Hid (∀(k:Nat) (z:Int),takeE l 1=0→takeV l 1≠0→(∀j,j < k→chE (stR j (takeL l 1))=0)→k < takeV l 1→chE (stR k (takeL l 1))=z→z≠0→geE l=z):=fun k z=>ge_err
 have G4:Hid (takeE l 1=0→takeV l 1≠0→(∀j,j < takeV l 1→chE (stR j (takeL l 1))=0)→geE l=if 0 < (stR (takeV l 1) (takeL l 1)).length then 5 else 0):=ge_end
 have FNO:Hid (∀(E:Int) u,geE l=E→E≠0→New w u→GetP11 w l (.returned (.tuple #[.slice none 0 0,.int .i64 E])) u):=fun E u h h0 k=>get_no h h0 k
 have FYES:Hid (∀(A:Option Addr) (c n:Nat) (es:List CE) u,geE l=0→es.length=n→cts es=stC (takeV l 1) (takeL l 1)→COwn u w.heap.size A c es→New w u→GetP11 w l (.returned (.tuple #[.slice A n c,.int .i64 0])) u):=fun A c n es u h hn h1 h2 k=>get_yes h hn h1 h2 k
 generalize geE l=ge at *;go_enter Tryz.func36,Tryz.ntmps36
 go_wp2_with (at_builtin;refine wpList_append_bytes _ rfl _ _ _ rfl 5 i0 Tryz.underlying52 hi hz0 hz1 hz2 w.heap.size none 0 0 [] rfl (OwnB.nil _ _ _) rfl A n c l rfl ha ?_ (Nat.le_refl _) ?_)
 ·simp;omega
 intro A1 c1 w1 o1 g1 _;have o1:OwnB w1 5 w.heap.size A1 c1 l:=o1;have k1:New w w1:=Kept.of_own kR (OwnB.nil _ 5 _) g1;obtain⟨w2,hw2⟩:∃w2,w2=w1.alloc (.cells #[.slice A1 n c1,.bool false] 145):=⟨_,rfl⟩
 have n2:New w1 w2:=by rw[hw2];exact kR.alloc _
 have R2:Hid (RfQ Any w2 w1.heap.size l):=by
  refine⟨l,false,⟨A1,c1,?_,o1.bts.new n2,fun a h=>⟨trivial,(o1.at_ a h).1.kept n2 id⟩,o1.le.1,o1.le.2⟩,rfl⟩;rw[hw2,hl];exact Blk.made w1 _ _
 have K2:Hid (New w w2):=k1.new n2;have HW2:=jH hw2;have hg1:w.heap.size≤w1.heap.size:=k1.size;clear o1 g1 k1 n2 hw2 ha
 go_upto_region 4 with fail
 rw[←HW2.out];clear HW2;generalize hgg:w1.heap.size=g at *;clear hgg;go_wp2_with fail;refine (rtakeQ g l 1 _ R2.out).mono ?_;rintro e w3 ⟨rfl,r3,k3⟩
 have K3:Hid (New w w3):=K2.out.trans k3 fun i hi e=>by omega
 have R3:=jH r3;clear r3 k3 R2 K2;generalize takeE l 1=te at *;generalize takeV l 1=n1 at *;generalize takeL l 1=l1 at *
 by_cases h1:te=0
 ·by_cases h2:n1=0
  ·have F:=jH (FNO.out 5 w3 (G2.out h1 h2) (by decide) K3.out);subst h1 h2;clear FNO FYES G1 G2 G3 G4;go_wp2;go_ret2;exact F.out
  ·have G3':Hid (∀(k:Nat) (z:Int),(∀j,j < k→chE (stR j l1)=0)→k < n1→chE (stR k l1)=z→z≠0→ge=z):=fun k z=>G3.out k z h1 h2
   have G4':Hid ((∀j,j < n1→chE (stR j l1)=0)→ge=if 0 < (stR n1 l1).length then 5 else 0):=G4.out h1 h2;have d0:((n1:Int) == 0)=false:=beq_eq_false_iff_ne.2 (by omega);subst h1;clear G1 G2 G3 G4;go_wp2_with fail
   go_loopw [8,9] (fun o i wr=>∃(k:Nat) (A':Option Addr) (c':Nat) (es':List CE),k≤n1∧i=.int .u64 k∧o=.slice A' k c'∧Hid (es'.length=k)∧Hid (COwn wr w.heap.size A' c' es')∧Hid (cts es'=stC k l1)∧Hid (RfQ Any wr g (stR k l1))∧Hid (∀j,j < k→chE (stR j l1)=0)∧Hid (New w wr)) (fun _ i _=>n1 - (intOf i).toNat)
   case atStart=>exact⟨0,none,0,[],Nat.zero_le _,rfl,rfl,rfl,COwn.nil _ _,rfl,R3,(fun j hj=>by omega),K3⟩
   case round=>
    obtain⟨k,A',c',es',hk,rfl,rfl,HLN,VO,VC,VR,VE,VK⟩:=hrel;clear K3 R3
    by_cases hlt:k < n1
    ·have HSM:=jH (chC_small (l:=stR k l1) VR.out.lt256);have HTE:=jH (fun h=>chE_te (l:=stR k l1) h);have HBG:=jH (fun h h2=>chE_big (l:=stR k l1) h h2);have HKE:=jH (fun h h2 h3=>chE_key (l:=stR k l1) h h2 h3);have HGO:=jH (fun h h2 h3=>chE_gone (l:=stR k l1) h h2 h3);have HVA:=jH (fun h h2 h0 h3=>chE_val (l:=stR k l1) h h2 h0 h3);have HCk:Hid ((chC (stR k l1)).k=gkK (takeL (stR k l1) 1)):=rfl;have HCv:Hid ((chC (stR k l1)).v=if takeV (stR k l1) 1=0 then [] else rwL (tkR (takeL (stR k l1) 1))):=rfl;have HCg:Hid ((chC (stR k l1)).g=decide (takeV (stR k l1) 1=0)):=rfl;have HR:Hid (stR (k+1) l1=if takeV (stR k l1) 1=0 then tkR (takeL (stR k l1) 1) else rwR (tkR (takeL (stR k l1) 1))):=rfl
     have HERR:Hid (∀z u,chE (stR k l1)=z→z≠0→New w u→GetP11 w l (.returned (.tuple #[.slice none 0 0,.int .i64 z])) u):=fun z u h h0 hu=>FNO.out z u (G3'.out k z VE.out hlt h h0) h0 hu
     have HOKK:Hid (chE (stR k l1)=0→∀j,j < k+1→chE (stR j l1)=0):=fun h=>more_ok VE.out h
     have VC2:Hid (cts es'++[chC (stR k l1)]=stC (k+1) l1):=by rw[Hid,stC_next,VC.out]
     have hne:∀(u:World) (q:List Nat),RfQ Any u g q→∀b,b=g→¬At u b 105∧¬At u b 5:=fun u q h b e=>by subst e;exact⟨fun ht=>ht.ne_of h.at_ (by decide) rfl,fun ht=>ht.ne_of h.at_ (by decide) rfl⟩
     have HNE:=jH hne;clear VC VE hne;generalize chC (stR k l1)=cc at *;generalize chE (stR k l1)=ce at *;go_wp2_with fail;refine (rtakeQ g _ 1 _ VR.out).mono ?_;rintro e w4 ⟨rfl,r4,k4⟩;have V4:Hid (COwn w4 w.heap.size A' c' es'):=VO.out.kept k4 (fun b e=>(HNE.out _ _ VR.out b e).1) (fun b e=>(HNE.out _ _ VR.out b e).2)
     have K4:Hid (New w w4):=VK.out.trans k4 fun i hi e=>by omega
     have R4:=jH r4;clear r4 k4 VO VR VK;generalize takeE (stR k l1) 1=fe at *;generalize hfv:takeV (stR k l1) 1=fv at *;clear hfv;generalize takeL (stR k l1) 1=l2 at *
     by_cases f0:fe=0
     ·by_cases f1:1 < fv
      ·have F:=jH (HERR.out 5 w4 (HBG.out f0 f1) (by decide) K4.out);have d1:decide (1 < (fv:Int))=true:=decide_eq_true (by omega);subst f0;clear HTE HBG HKE HGO HVA HCk HCv HCg HR HERR HOKK VC2 f1 FNO FYES;go_wp2;go_ret2;exact F.out
      ·have d1:decide (1 < (fv:Int))=false:=decide_eq_false (by omega);subst f0;clear HTE HBG;go_wp2_with fail;refine (rgetKey_any g l2 _ R4.out).mono ?_;rintro e w5 ⟨rfl,r5,k5⟩;have V5:Hid (COwn w5 w.heap.size A' c' es'):=V4.out.kept k5 (fun b e=>(HNE.out _ _ R4.out b e).1) (fun b e=>(HNE.out _ _ R4.out b e).2)
       have K5:Hid (New w w5):=K4.out.trans k5 fun i hi e=>by omega
       obtain⟨wk,hwk⟩:∃wk,wk=w5.alloc (.cells #[.int .i64 (gkK l2).i,.int .u8 ((gkK l2).t:Nat),.string (gkK l2).n,.int .i64 (gkK l2).c] 92):=⟨_,rfl⟩
       have nk:New w5 wk:=by rw[hwk];exact kR.alloc _
       have BK:Hid (Blk wk w5.heap.size 92 (kcells (gkK l2))):=by rw[hwk];exact Blk.made w5 _ _
       have Vk:=jH (V5.out.new nk);have Kk:Hid (New w wk):=K5.out.new nk;have Rk:=jH (r5.new nk);have HWK:=jH hwk;clear r5 k5 nk hwk V5 K5 V4 K4 R4
       by_cases h3:gkE l2=0
       ·rw[h3];generalize hkk:gkK l2=kk at *;clear hkk
        go_upto_region 19 with fail
        rw[←HWK.out];clear HWK
        by_cases h0:fv=0
        ·have VE2:=jH (HOKK.out (HGO.out trivial h0 h3));have E1:Hid (cc.k=kk):=HCk.out
         have E2:Hid (cc.v.length=0):=by rw[Hid,HCv.out,if_pos h0];rfl
         have E3:Hid (cc.g=true):=by rw[Hid,HCg.out,decide_eq_true h0]
         have Oq:Hid (OwnB wk 5 w.heap.size none 0 cc.v):=by rw[Hid,HCv.out,if_pos h0];exact OwnB.nil _ _ _
         have Rq:Hid (RfQ Any wk g (stR (k+1) l1)):=by rw[Hid,HR.out,if_pos h0];exact Rk.out
         have Vq:=Vk;have Kq:=Kk;obtain⟨q0,q1,q2,q3⟩:=kcells4 BK.out;subst h0;clear HCk HCv HCg HR HERR HOKK HGO HVA HKE h3 FNO FYES Rk Vk Kk;generalize wk=wq at *;obtain⟨w8,hw8⟩:∃w8,w8=wq.alloc (.cells #[.int .i64 kk.i,.int .u8 (kk.t:Nat),.string kk.n,.int .i64 kk.c,.slice none 0 0,.bool true] 105):=⟨_,rfl⟩
         have n8:New wq w8:=by rw[hw8];exact kR.alloc _
         have BY8:Hid (Blk w8 wq.heap.size 105 (chc kk none 0 0 true)):=by rw[hw8];exact Blk.made wq _ _
         have R8:=jH (Rq.out.new n8);have O8:=jH (Oq.out.new n8);have V8:=jH (Vq.out.new n8);have K8:Hid (New w w8):=Kq.out.new n8
         have W8:Hid (OwnV w8 105 6 w.heap.size A' k c' (ces es')):=by have:=V8.out.1;rwa [HLN.out] at this
         have HW8:=jH hw8;clear n8 hw8 Rq Oq Vq Kq
         go_wp2_with (at_builtin;rw[←HW8.out];refine wpList_append_change rfl _ _ rfl w.heap.size A' k c' (ces es') rfl W8.out wq.heap.size 1 (chc kk none 0 0 true) rfl BY8.out rfl (chc_one _ _ _ _ _) (by omega) K8.out.size ?_)
         intro A9 c9 w9 O9 K9
         have P9:Hid (OwnB w9 5 w.heap.size none 0 cc.v):=O8.out.kept K9.out fun a ha ⟨b,hb,e⟩=>(O8.out.at_ a ha).1.ne_of (e ▸ (W8.out.at_ b hb).1) (by decide) rfl
         have V9:Hid (COwn w9 w.heap.size A9 c9 (es'++[⟨cc,none,0⟩])):=COwn.more V8.out P9.out ⟨by have:=HSM.out.1;omega,by have:=HSM.out.2;unfold maxLen;omega⟩ K9.out HLN.out (by have:=O9.out;rw[E1.out,E2.out,E3.out];exact this)
         have R9:Hid (RfQ Any w9 g (stR (k+1) l1)):=R8.out.kept K9.out (fun ⟨b,hb,e⟩=>R8.out.at_.ne_of (e ▸ (W8.out.at_ b hb).1) (by decide) rfl) fun i ⟨b,hb,e⟩ _ ht=>ht.ne_of (e ▸ (W8.out.at_ b hb).1) (by decide) rfl
         have L9:Hid (New w w9):=new_row K8.out W8.out K9.out
         have VC3:Hid (cts (es'++[⟨cc,none,0⟩])=stC (k+1) l1):=by rw[Hid,cts_append];exact VC2.out
         have HLN2:Hid ((es'++[(⟨cc,none,0⟩:CE)]).length=k+1):=by rw[Hid,List.length_append,HLN.out];rfl
         clear O9 K9 P9 V8 W8 R8 K8 O8 BY8 HW8 HLN VC2 E1 E2 E3;go_wp2;go_roundw
         case rel=>exact⟨k+1,A9,c9,_,by omega,by go_num,rfl,HLN2,V9,VC3,R9,VE2,L9⟩
         case measure=>simp[intOf];omega
        ·have d2:((fv:Int) == 0)=false:=beq_eq_false_iff_ne.2 (by omega);have HVA':Hid (ce=vlE (tkR l2)):=HVA.out trivial f1 h0 h3;have HCv':Hid (cc.v=rwL (tkR l2)):=HCv.out.trans (if_neg h0);have HR':Hid (stR (k+1) l1=rwR (tkR l2)):=HR.out.trans (if_neg h0);have E1:Hid (cc.k=kk):=HCk.out
         have E3:Hid (cc.g=false):=by rw[Hid,HCg.out,decide_eq_false h0]
         have HV1:=jH (fun h=>vlE_row (l:=tkR l2) h);have HV2:=jH (fun h h2=>vlE_no (l:=tkR l2) h h2);have HV3:=jH (fun h h2=>vlE_ok (l:=tkR l2) h h2);clear HCk HCv HCg HR HGO HVA HKE h3 h0 f1 d1;generalize tkR l2=l3 at *;go_wp2_with fail;refine (rrowQ g l3 _ Rk.out).mono ?_;rintro e wq ⟨A7,c7,rfl,o7,r7,k7⟩;have Vq:Hid (COwn wq w.heap.size A' c' es'):=Vk.out.kept k7 (fun b e=>(HNE.out _ _ Rk.out b e).1) (fun b e=>(HNE.out _ _ Rk.out b e).2);have Bq:=jH (BK.out.kept k7 fun e=>by have:=(BK.out.at_).ne_of Rk.out.at_ (by decide);exact this e)
         have Kq:Hid (New w wq):=Kk.out.trans k7 fun i hi e=>by omega
         have Oq:Hid (OwnB wq 5 w.heap.size A7 c7 cc.v):=by rw[Hid,HCv'.out];exact o7.mono Kk.out.size
         have Rq:Hid (RfQ Any wq g (stR (k+1) l1)):=by rw[Hid,HR'.out];exact r7
         have E2:Hid (cc.v.length=(rwL l3).length):=by rw[Hid,HCv'.out]
         clear o7 r7 k7 Vk Kk Rk BK HCv' HR';generalize (rwL l3).length=vn at *;generalize rwE l3=re at *
         by_cases t0:re=0
         ·by_cases t1:vn=0
          ·have F:=jH (HERR.out 5 wq (HVA'.out.trans (HV2.out t0 t1)) (by decide) Kq.out);subst t0 t1;clear HERR HOKK HVA' HV1 HV2 HV3 FNO FYES Vq Oq Rq;go_wp2;go_ret2;exact F.out
          ·have VE2:=jH (HOKK.out (HVA'.out.trans (HV3.out t0 t1)));have d3:((vn:Int) == 0)=false:=beq_eq_false_iff_ne.2 (by omega);obtain⟨q0,q1,q2,q3⟩:=kcells4 Bq.out;subst t0;clear HERR HOKK HVA' HV1 HV2 HV3 FNO FYES t1;obtain⟨w8,hw8⟩:∃w8,w8=wq.alloc (.cells #[.int .i64 kk.i,.int .u8 (kk.t:Nat),.string kk.n,.int .i64 kk.c,.slice A7 vn c7,.bool false] 105):=⟨_,rfl⟩
           have n8:New wq w8:=by rw[hw8];exact kR.alloc _
           have BY8:Hid (Blk w8 wq.heap.size 105 (chc kk A7 vn c7 false)):=by rw[hw8];exact Blk.made wq _ _
           have R8:=jH (Rq.out.new n8);have O8:=jH (Oq.out.new n8);have V8:=jH (Vq.out.new n8);have K8:Hid (New w w8):=Kq.out.new n8
           have W8:Hid (OwnV w8 105 6 w.heap.size A' k c' (ces es')):=by have:=V8.out.1;rwa [HLN.out] at this
           have HW8:=jH hw8;clear n8 hw8 Rq Oq Vq Kq
           go_wp2_with (at_builtin;rw[←HW8.out];refine wpList_append_change rfl _ _ rfl w.heap.size A' k c' (ces es') rfl W8.out wq.heap.size 1 (chc kk A7 vn c7 false) rfl BY8.out rfl (chc_one _ _ _ _ _) (by omega) K8.out.size ?_)
           intro A9 c9 w9 O9 K9
           have P9:Hid (OwnB w9 5 w.heap.size A7 c7 cc.v):=O8.out.kept K9.out fun a ha ⟨b,hb,e⟩=>(O8.out.at_ a ha).1.ne_of (e ▸ (W8.out.at_ b hb).1) (by decide) rfl
           have V9:Hid (COwn w9 w.heap.size A9 c9 (es'++[⟨cc,A7,c7⟩])):=COwn.more V8.out P9.out ⟨by have:=HSM.out.1;omega,by have:=HSM.out.2;unfold maxLen;omega⟩ K9.out HLN.out (by have:=O9.out;rw[E1.out,E2.out,E3.out];exact this)
           have R9:Hid (RfQ Any w9 g (stR (k+1) l1)):=R8.out.kept K9.out (fun ⟨b,hb,e⟩=>R8.out.at_.ne_of (e ▸ (W8.out.at_ b hb).1) (by decide) rfl) fun i ⟨b,hb,e⟩ _ ht=>ht.ne_of (e ▸ (W8.out.at_ b hb).1) (by decide) rfl
           have L9:Hid (New w w9):=new_row K8.out W8.out K9.out
           have VC3:Hid (cts (es'++[⟨cc,A7,c7⟩])=stC (k+1) l1):=by rw[Hid,cts_append];exact VC2.out
           have HLN2:Hid ((es'++[(⟨cc,A7,c7⟩:CE)]).length=k+1):=by rw[Hid,List.length_append,HLN.out];rfl
           clear O9 K9 P9 V8 W8 R8 K8 O8 BY8 HW8 HLN VC2 E1 E2 E3;go_wp2;go_roundw
           case rel=>exact⟨k+1,A9,c9,_,by omega,by go_num,rfl,HLN2,V9,VC3,R9,VE2,L9⟩
           case measure=>simp[intOf];omega
         ·have F:=jH (HERR.out re wq (HVA'.out.trans (HV1.out t0)) t0 Kq.out);have b0:(re != 0)=true:=bne_iff_ne.2 t0;clear HERR HOKK HVA' HV1 HV2 HV3 FNO FYES Vq Oq Rq t0;go_wp2;go_ret2;exact F.out
       ·have F:=jH (HERR.out _ wk (HKE.out trivial f1 h3) h3 Kk.out);have b0:(gkE l2 != 0)=true:=bne_iff_ne.2 h3;clear HKE HGO HVA HCk HCv HCg HR HERR HOKK VC2 h3 FNO FYES;generalize gkE l2=z at *;generalize gkK l2=kk at *
        go_upto_region 19 with fail
        rw[←HWK.out];clear HWK;go_wp2;go_ret2;exact F.out
     ·have F:=jH (HERR.out fe w4 (HTE.out f0) f0 K4.out);have b0:(fe != 0)=true:=bne_iff_ne.2 f0;clear HTE HBG HKE HGO HVA HCk HCv HCg HR HERR HOKK VC2 f0 FNO FYES;go_wp2;go_ret2;exact F.out
    ·have hkn:k=n1:=by omega
     have CL:Hid (Calls Tryz.prog 76 #[.pointer (some ⟨g,0,none⟩)] wr fun e w'=>e=.returned (.int .i64 ((stR n1 l1).length:Int))∧wr=w'):=by
      obtain⟨l',rf',h1,h2⟩:=VR.out
      have:=rleft_any g l' rf' wr h1
      rw[h2,hkn] at this;exact this
     have HG:=jH (G4'.out (by rw[←hkn];exact VE.out))
     have E1:Hid (cts es'=stC n1 l1):=by rw[←hkn];exact VC.out
     clear VC VR VE;generalize (stR n1 l1).length=m at *
     by_cases hm:0 < m
     ·have F:=jH (FNO.out 5 wr (HG.out.trans (if_pos hm)) (by decide) VK.out);clear FNO FYES HG E1
      go_wp2_with (go_at_call 76;refine CL.out.mono ?_;rintro e w4 ⟨rfl,rfl⟩)
      go_ret2;exact F.out
     ·have F:=jH (FYES.out A' c' n1 es' wr (HG.out.trans (if_neg hm)) (HLN.out.trans hkn) E1.out VO.out VK.out)
      obtain rfl:m=0:=by omega
      clear FNO FYES HG E1 hm
      go_wp2_with (go_at_call 76;refine CL.out.mono ?_;rintro e w4 ⟨rfl,rfl⟩)
      go_ret2;exact F.out
 ·have F:=jH (FNO.out te w3 (G1.out h1) h1 K3.out);have b0:(te != 0)=true:=bne_iff_ne.2 h1;clear FNO FYES h1 G1 G2 G3 G4;go_wp2;go_ret2;exact F.out
theorem geC_len {l:List Nat} (h:∀x∈l,x < 256):(geC l).length≤255:=by
 have hV:takeV l 1 < 256:=takeV_lt (s:=1) h sz1;unfold geC
 split
 ·rw[stC_len];omega
 ·simp
end
section
set_option maxRecDepth 100000
end
end Go.Proofs.YtbiihjdjbknibaaGreat
