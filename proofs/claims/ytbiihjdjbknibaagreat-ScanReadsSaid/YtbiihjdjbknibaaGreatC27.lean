/-
  Layer 7: contracts (Fk).
-/
import Derived.Test.YtbiihjdjbknibaaGreatC26
namespace Go.Proofs.YtbiihjdjbknibaaGreat
set_option maxRecDepth 100000
set_option maxHeartbeats 8000000
set_option linter.unusedSimpArgs false
set_option linter.unusedVariables false
section
set_option maxRecDepth 100000
open Go.RowKit
variable {Q:Nat→Prop}
def RfQ (Q:Nat→Prop) (w:World) (g:Nat) (q:List Nat):Prop:=∃l rf,Ref Q w g l rf∧lft l rf=q
theorem RfQ.kept {S:Nat→Prop} {w w':World} {g:Nat} {q:List Nat} (h:RfQ Q w g q) (hk:Kept S w w') (hg:¬S g) (hs:∀k,S k→Q k→¬At w k 5):RfQ Q w' g q:=by
 obtain⟨l,rf,h1,h2⟩:=h;exact⟨l,rf,h1.kept hk hg hs,h2⟩
theorem RfQ.new {w w':World} {g:Nat} {q:List Nat} (h:RfQ Q w g q) (hk:New w w'):RfQ Q w' g q:=h.kept hk (fun f=>f) (fun _ f _=>f.elim)
theorem RfQ.at_ {w:World} {g:Nat} {q:List Nat} (h:RfQ Q w g q):At w g 145:=by
 obtain⟨l,rf,h1,_⟩:=h;exact h1.at_
theorem RfQ.lt256 {w:World} {g:Nat} {q:List Nat} (h:RfQ Q w g q):∀x∈q,x < 256:=by
 obtain⟨l,rf,⟨_,_,_,h2,_⟩,rfl⟩:=h;cases rf
 ·exact h2.2.1
 ·simp[lft]
def RTqP (Q:Nat→Prop) (w:World) (g:Nat) (q:List Nat) (s:Int) (e:Ending) (w':World):Prop:=
 e=.returned (.tuple #[.int .u64 (takeV q s:Nat),.int .i64 (takeE q s)])∧RfQ Q w' g (takeL q s)∧Kept (·=g) w w'
theorem rtakeQ (g:Nat) (q:List Nat) (s:Int) (w:World) (h:RfQ Q w g q):Calls Tryz.prog 73 #[.pointer (some ⟨g,0,none⟩),.int .i64 s] w (RTqP Q w g q s):=by
 obtain⟨l,rf,h1,rfl⟩:=h
 exact (rtake_any g l rf s w h1).mono fun e w' ⟨l',rf',e1,e2,e3,e4⟩=>⟨e1,⟨l',rf',e2,e3⟩,e4⟩
def RRqP (Q:Nat→Prop) (w:World) (g:Nat) (q:List Nat) (e:Ending) (w':World):Prop:=
 ∃A c,e=.returned (.tuple #[.slice A (rwL q).length c,.int .i64 (rwE q)])∧OwnB w' 5 w.heap.size A c (rwL q)∧RfQ Q w' g (rwR q)∧Kept (·=g) w w'
theorem rrowQ (g:Nat) (q:List Nat) (w:World) (h:RfQ Q w g q):Calls Tryz.prog 75 #[.pointer (some ⟨g,0,none⟩)] w (RRqP Q w g q):=by
 obtain⟨l,rf,h1,rfl⟩:=h
 exact (rrow2_any g l rf w h1).mono fun e w' ⟨A,c,l',rf',e1,e2,e3,e4,e5⟩=>⟨A,c,e1,e2,⟨l',rf',e3,e4⟩,e5⟩
def RGkP (Q:Nat→Prop) (w:World) (g:Nat) (l:List Nat) (e:Ending) (w':World):Prop:=
 e=.returned (.tuple #[.agg #[.int .i64 (gkK l).i,.int .u8 ((gkK l).t:Nat),.string (gkK l).n,.int .i64 (gkK l).c],.int .i64 (gkE l)])∧RfQ Q w' g (tkR l)∧Kept (·=g) w w'
theorem rgetKey_any (g:Nat) (q:List Nat) (w:World) (h:RfQ Q w g q):
  Calls Tryz.prog 74 #[.pointer (some ⟨g,0,none⟩)] w (RGkP Q w g q):=by
 have HL:=jH h.lt256;have hg:=h.at_.lt;have HNM:=jH (tkK_name HL.out);have HNO:Hid (tkE q≠0→_):=gk_no (l:=q);have HFO:Hid (tkE q=0→mayK (tkK q)=false→_):=gk_form (l:=q);have HOK:Hid (tkE q=0→mayK (tkK q)=true→∀k:KY,k=tkK q→_):=gk_ok (l:=q);have HTE:Hid (tkE q=if takeE q 2≠0 then takeE q 2 else if takeE (takeL q 2) 1≠0 then takeE (takeL q 2) 1 else if takeV (takeL q 2) 1=2 then rwE (takeL (takeL q 2) 1) else if takeV (takeL q 2) 1=3 then takeE (takeL (takeL q 2) 1) 1 else 0):=rfl;have HTR:Hid (tkR q=if takeE q 2≠0 then takeL q 2 else if takeE (takeL q 2) 1≠0 then takeL (takeL q 2) 1 else if takeV (takeL q 2) 1=2 then rwR (takeL (takeL q 2) 1) else if takeV (takeL q 2) 1=3 then takeL (takeL (takeL q 2) 1) 1 else takeL (takeL q 2) 1):=rfl
 have HTK:Hid (tkK q=⟨(takeV q 2:Nat),takeV (takeL q 2) 1,if takeV (takeL q 2) 1=2 then strN (rwL (takeL (takeL q 2) 1)) else ⟨#[]⟩,if takeV (takeL q 2) 1=3 then (takeV (takeL (takeL q 2) 1) 1:Nat) else 0⟩):=rfl;have HV1:Hid (takeV q 2 < 65536):=takeV_lt HL.out (s:=2) sz2;have HV2:Hid (takeV (takeL q 2) 1 < 256):=takeV_lt (takeL_in HL.out 2) (s:=1) sz1;have HV3:Hid (takeV (takeL (takeL q 2) 1) 1 < 256):=takeV_lt (takeL_in (takeL_in HL.out 2) 1) (s:=1) sz1
 have HT1:Hid (∀(w:World),RfQ Q w g q→Calls Tryz.prog 73 #[.pointer (some ⟨g,0,none⟩),.int .i64 2] w (fun e w'=>e=.returned (.tuple #[.int .u64 (takeV q 2:Nat),.int .i64 (takeE q 2)])∧RfQ Q w' g (takeL q 2)∧Kept (·=g) w w')):=fun w h=>rtakeQ g q 2 w h
 have HT2:Hid (∀(w:World),RfQ Q w g (takeL q 2)→Calls Tryz.prog 73 #[.pointer (some ⟨g,0,none⟩),.int .i64 1] w (fun e w'=>e=.returned (.tuple #[.int .u64 (takeV (takeL q 2) 1:Nat),.int .i64 (takeE (takeL q 2) 1)])∧RfQ Q w' g (takeL (takeL q 2) 1)∧Kept (·=g) w w')):=fun w h=>rtakeQ g _ 1 w h
 have HT3:Hid (∀(w:World),RfQ Q w g (takeL (takeL q 2) 1)→Calls Tryz.prog 73 #[.pointer (some ⟨g,0,none⟩),.int .i64 1] w (fun e w'=>e=.returned (.tuple #[.int .u64 (takeV (takeL (takeL q 2) 1) 1:Nat),.int .i64 (takeE (takeL (takeL q 2) 1) 1)])∧RfQ Q w' g (takeL (takeL (takeL q 2) 1) 1)∧Kept (·=g) w w')):=fun w h=>rtakeQ g _ 1 w h
 have HT4:Hid (∀(w:World),RfQ Q w g (takeL (takeL q 2) 1)→Calls Tryz.prog 75 #[.pointer (some ⟨g,0,none⟩)] w (RRqP Q w g (takeL (takeL q 2) 1))):=fun w h=>rrowQ g _ w h
 have FINB:Hid (∀(e:Ending) (r:List Nat) (w':World),tkR q=r→e=.returned (.tuple #[.agg #[.int .i64 (gkK q).i,.int .u8 ((gkK q).t:Nat),.string (gkK q).n,.int .i64 (gkK q).c],.int .i64 (gkE q)])→RfQ Q w' g r→Kept (·=g) w w'→RGkP Q w g q e w'):=by
  intro e r w' h3 h1 h4 h5;exact⟨h1,by rw[h3];exact h4,h5⟩
 generalize tkE q=te at *;generalize tkR q=tr at *;generalize tkK q=tk at *;generalize takeE (takeL (takeL q 2) 1) 1=ce at *;generalize takeV (takeL (takeL q 2) 1) 1=cv at *;generalize takeL (takeL (takeL q 2) 1) 1=l4 at *;generalize takeL (takeL q 2) 1=l3 at *;generalize takeE (takeL q 2) 1=be at *;generalize takeV (takeL q 2) 1=bv at *;generalize takeL q 2=l2 at *;generalize takeE q 2=ae at *;generalize takeV q 2=av at *;have hv1:=HV1.out;have hv2:=HV2.out;have hv3:=HV3.out;obtain⟨w0,hw0⟩:∃w0,w0=w.alloc (.cells #[.int .i64 0,.int .u8 0,.string ⟨#[]⟩,.int .i64 0] 92):=⟨_,rfl⟩
 have B0:Hid (Blk w0 w.heap.size 92 (kcells ⟨0,0,⟨#[]⟩,0⟩)):=by rw[hw0];exact Blk.made w _ _
 have K0:Hid (Kept (·=g) w w0):=by rw[hw0];exact kR.alloc _
 have R0:Hid (RfQ Q w0 g q):=by rw[hw0];exact h.new (kR.alloc _)
 have HW:=jH hw0;clear hw0 h;go_enter Tryz.func74,Tryz.ntmps74;go_wp2_with fail;rw[←HW.out];clear HW;generalize hgr:w.heap.size=gr at *;have HGR:=jH hgr;clear hgr;refine (HT1.out _ R0.out).mono ?_;rintro e w1 ⟨rfl,r1,k1⟩;have R1:=jH r1;have B1:=jH (B0.out.kept k1 (by omega));have K1:=jH (K0.out.trans k1 fun _ _ h=>h);clear r1 k1 R0 B0 K0 HT1
 by_cases he:ae=0
 ·have HA:=jH he;rw[HA.out];clear he;go_wp2_with fail;refine (HT2.out _ R1.out).mono ?_;rintro e w2 ⟨rfl,r2,k2⟩;have R2:=jH r2;have B2:=jH (B1.out.kept k2 (by omega));have K2:=jH (K1.out.trans k2 fun _ _ h=>h);clear r2 k2 R1 B1 K1 HT2
  by_cases he:be=0
  ·have HB:=jH he;rw[HB.out];clear he;obtain⟨w3,hw3⟩:∃w3,w3=w2.alloc (.cells #[.int .i64 (av:Nat),.int .u8 (bv:Nat),.string ⟨#[]⟩,.int .i64 0] 92):=⟨_,rfl⟩
   have n23:New w2 w3:=by rw[hw3];exact kR.alloc _
   have C3:Hid (Blk w3 w2.heap.size 92 (kcells ⟨(av:Nat),bv,⟨#[]⟩,0⟩)):=by rw[hw3];exact Blk.made w2 _ _
   have R3:=jH (R2.out.new n23);have B3:=jH (B2.out.kept n23 id);have K3:=jH (K2.out.new n23);have hg7:w.heap.size≤w2.heap.size:=K2.out.size;have hgr7:gr < w2.heap.size:=B2.out.lt;have HW3:=jH hw3;clear hw3 n23 R2 B2 K2
   by_cases t2:bv=2
   ·subst t2;have HWX:Hid (w3=w2.alloc (.cells #[.int .i64 (av:Nat),.int .u8 2,.string ⟨#[]⟩,.int .i64 0] 92)):=HW3.out;go_wp2_with fail;rw[←HWX.out];clear HW3 HWX;generalize w2.heap.size=g7 at *;refine (HT4.out _ R3.out).mono ?_;rintro e w4 ⟨A4,c4,rfl,o4,r4,k4⟩;have R4:=jH r4;have B4:=jH (B3.out.kept k4 (by omega));have C4:=jH (C3.out.kept k4 (by omega));have K4:=jH (K3.out.trans k4 fun _ _ h=>h);have O4:=jH o4
    have HTL:Hid (tr=rwR l3):=by show _=_;rw[HTR.out];simp[HA.out,HB.out]
    have HER:Hid (te=rwE l3):=by show _=_;rw[HTE.out];simp[HA.out,HB.out]
    have HKK:Hid (tk=⟨(av:Nat),2,strN (rwL l3),0⟩):=by show _=_;rw[HTK.out];simp
    have FINA:=jH fun e w'=>FINB.out e (rwR l3) w' HTL.out
    clear r4 k4 o4 R3 B3 C3 K3 HT3 HT4 HTE HTR HTK FINB HTL
    by_cases hr:rwE l3=0
    ·have HTZ:Hid (te=0):=HER.out.trans hr;rw[hr];clear hr;have hbs:=run_bs A4 _ c4 _ w4 O4.out.bts;have x0:w4.frozen? ⟨g7,2,none⟩=false:=C4.out.free 2;obtain⟨y0,y1,y2,y3⟩:=kcells4 C4.out;obtain⟨w5,hw5⟩:∃w5,w5=w4.setCell ⟨g7,2,none⟩ (.string (strN (rwL l3))):=⟨_,rfl⟩
     have k5:Kept (·=g7) w4 w5:=by rw[hw5];exact Kept.set1 _ _ _ _
     have C5:Hid (Blk w5 g7 92 (kcells ⟨(av:Nat),2,strN (rwL l3),0⟩)):=by rw[hw5];exact C4.out.put 2 _
     have R5:=jH (R4.out.kept k5 (by omega) fun _ e _ ht=>by subst e;exact ht.ne_of C4.out.at_ (by decide) rfl);have B5:=jH (B4.out.kept k5 (by omega));have K5:=jH (K4.out.trans k5 fun i hi e=>by omega);have HW5:=jH hw5;clear hw5 k5 R4 K4 B4 O4;generalize hs5:strN (rwL l3)=s5 at *;have HS5:=jH hs5;clear hs5
     have HKE:Hid ((⟨(av:Nat),2,s5,0⟩:KY)=tk):=by show _=_;exact HKK.out.symm
     have hkn:s5.size≤maxLen:=by
      have:=congrArg (fun k:KY=>k.n.size) HKE.out
      have h2:=HNM.out
      dsimp only at this
      rw[this];unfold maxLen;omega
     cases hm:mayK tk
     ·have HF:=jH (HFO.out HTZ.out hm)
      have HM:Hid (∀u,Calls Tryz.prog 103 #[.agg #[.int .i64 (av:Nat),.int .u8 2,.string s5,.int .i64 0]] u (NewBool u false)):=fun u=>by
       have hm2:mayK ⟨(av:Nat),2,s5,0⟩=false:=by rw[HKE.out];exact hm
       have:=rmay_any ⟨(av:Nat),2,s5,0⟩ u hkn
       rw[hm2] at this;exact this
      clear hm;go_wp2_with fail;rw[←HW5.out];refine (HM.out _).mono ?_;rintro e w7 ⟨rfl,k7⟩;have R7:=jH (R5.out.new k7);have B7:=jH (B5.out.kept k7 id);have K7:=jH (K5.out.new k7);clear k7 R5 B5 K5 C5 HM;have bs0:=B7.out;obtain⟨c0,c1,c2,c3⟩:=kcells4 B7.out;obtain⟨f0,f1,f2,f3⟩:=kfree4 B7.out;obtain⟨w9,hw9⟩:∃w9,w9=(((w7.setCell ⟨gr,0,none⟩ (.int .i64 0)).setCell ⟨gr,1,none⟩ (.int .u8 0)).setCell ⟨gr,2,none⟩ (.string ⟨#[]⟩)).setCell ⟨gr,3,none⟩ (.int .i64 0):=⟨_,rfl⟩;obtain⟨bs,ks⟩:=key_store (k:=⟨0,0,⟨#[]⟩,0⟩) B7.out hw9
      have E9:Hid (RGkP Q w g q (.returned (.tuple #[.agg #[.int .i64 0,.int .u8 0,.string ⟨#[]⟩,.int .i64 0],.int .i64 5])) w9):=by
       refine FINA.out _ _ (HF.out) ((R7.out.kept ks (by omega) fun _ e _ ht=>?_)) (K7.out.trans ks fun i hi e=>by have:=HGR.out;omega);subst e;exact ht.ne_of bs0.at_ (by decide) rfl
      obtain⟨d0,d1,d2,d3⟩:=kcells4 bs;have HW9:=jH hw9;clear hw9 bs ks bs0;go_wp2;rw[←HW9.out];clear HW9 c0 c1 c2 c3 f0 f1 f2 f3
      (try simp only[Exit.inBlock,Exit.then])
      refine bodyPost_ret (by simp[results,Tryz.results74,go_sem,d0,d1,d2,d3];try rfl) rfl ?_;exact E9.out
     ·have HF:=jH (HOK.out HTZ.out hm ⟨(av:Nat),2,s5,0⟩ HKE.out)
      have HM:Hid (∀u,Calls Tryz.prog 103 #[.agg #[.int .i64 (av:Nat),.int .u8 2,.string s5,.int .i64 0]] u (NewBool u true)):=fun u=>by
       have hm2:mayK ⟨(av:Nat),2,s5,0⟩=true:=by rw[HKE.out];exact hm
       have:=rmay_any ⟨(av:Nat),2,s5,0⟩ u hkn
       rw[hm2] at this;exact this
      clear hm;go_wp2_with fail;rw[←HW5.out];refine (HM.out _).mono ?_;rintro e w7 ⟨rfl,k7⟩;have R7:=jH (R5.out.new k7);have B7:=jH (B5.out.kept k7 id);have C7:=jH (C5.out.kept k7 id);have K7:=jH (K5.out.new k7);clear k7 R5 B5 K5 C5 HM;obtain⟨q0,q1,q2,q3⟩:=kcells4 C7.out;have bs0:=B7.out;obtain⟨c0,c1,c2,c3⟩:=kcells4 B7.out;obtain⟨f0,f1,f2,f3⟩:=kfree4 B7.out;obtain⟨w9,hw9⟩:∃w9,w9=(((w7.setCell ⟨gr,0,none⟩ (.int .i64 (av:Nat))).setCell ⟨gr,1,none⟩ (.int .u8 2)).setCell ⟨gr,2,none⟩ (.string s5)).setCell ⟨gr,3,none⟩ (.int .i64 0):=⟨_,rfl⟩;obtain⟨bs,ks⟩:=key_store (k:=⟨(av:Nat),2,s5,0⟩) B7.out hw9
      have E9:Hid (RGkP Q w g q (.returned (.tuple #[.agg #[.int .i64 (av:Nat),.int .u8 2,.string s5,.int .i64 0],.int .i64 0])) w9):=by
       refine FINA.out _ _ (HF.out) ((R7.out.kept ks (by omega) fun _ e _ ht=>?_)) (K7.out.trans ks fun i hi e=>by have:=HGR.out;omega);subst e;exact ht.ne_of bs0.at_ (by decide) rfl
      obtain⟨d0,d1,d2,d3⟩:=kcells4 bs;have HW9:=jH hw9;clear hw9 bs ks bs0;go_wp2;rw[←HW9.out];clear HW9 c0 c1 c2 c3 f0 f1 f2 f3
      (try simp only[Exit.inBlock,Exit.then])
      refine bodyPost_ret (by simp[results,Tryz.results74,go_sem,d0,d1,d2,d3];try rfl) rfl ?_;exact E9.out
    ·have HF:=jH (HNO.out (by rw[HER.out];exact hr));rw[HER.out] at HF;have d:(rwE l3 != 0)=true:=bne_iff_ne.2 hr;clear hr;generalize rwE l3=re at *;have bs0:=B4.out;obtain⟨c0,c1,c2,c3⟩:=kcells4 B4.out;obtain⟨f0,f1,f2,f3⟩:=kfree4 B4.out;obtain⟨w9,hw9⟩:∃w9,w9=(((w4.setCell ⟨gr,0,none⟩ (.int .i64 0)).setCell ⟨gr,1,none⟩ (.int .u8 0)).setCell ⟨gr,2,none⟩ (.string ⟨#[]⟩)).setCell ⟨gr,3,none⟩ (.int .i64 0):=⟨_,rfl⟩;obtain⟨bs,ks⟩:=key_store (k:=⟨0,0,⟨#[]⟩,0⟩) B4.out hw9
     have E9:Hid (RGkP Q w g q (.returned (.tuple #[.agg #[.int .i64 0,.int .u8 0,.string ⟨#[]⟩,.int .i64 0],.int .i64 re])) w9):=by
      refine FINA.out _ _ (HF.out) ((R4.out.kept ks (by omega) fun _ e _ ht=>?_)) (K4.out.trans ks fun i hi e=>by have:=HGR.out;omega);subst e;exact ht.ne_of bs0.at_ (by decide) rfl
     obtain⟨d0,d1,d2,d3⟩:=kcells4 bs;have HW9:=jH hw9;clear hw9 bs ks bs0;go_wp2;rw[←HW9.out];clear HW9 c0 c1 c2 c3 f0 f1 f2 f3
     (try simp only[Exit.inBlock,Exit.then])
     refine bodyPost_ret (by simp[results,Tryz.results74,go_sem,d0,d1,d2,d3];try rfl) rfl ?_;exact E9.out
   ·have d2:((bv:Int) == 2)=false:=beq_eq_false_iff_ne.2 (by omega)
    by_cases t3:bv=3
    ·subst t3;have HWX:Hid (w3=w2.alloc (.cells #[.int .i64 (av:Nat),.int .u8 3,.string ⟨#[]⟩,.int .i64 0] 92)):=HW3.out;go_wp2_with fail;rw[←HWX.out];clear HW3 HWX;generalize w2.heap.size=g7 at *;refine (HT3.out _ R3.out).mono ?_;rintro e w4 ⟨rfl,r4,k4⟩;have R4:=jH r4;have B4:=jH (B3.out.kept k4 (by omega));have C4:=jH (C3.out.kept k4 (by omega));have K4:=jH (K3.out.trans k4 fun _ _ h=>h)
     have HTL:Hid (tr=l4):=by show _=_;rw[HTR.out];simp[HA.out,HB.out]
     have HER:Hid (te=ce):=by show _=_;rw[HTE.out];simp[HA.out,HB.out]
     have HKK:Hid (tk=⟨(av:Nat),3,⟨#[]⟩,(cv:Nat)⟩):=by show _=_;rw[HTK.out];simp
     have FINA:=jH fun e w'=>FINB.out e l4 w' HTL.out
     clear r4 k4 R3 B3 C3 K3 HT3 HT4 HTE HTR HTK FINB HTL
     by_cases hr:ce=0
     ·have HTZ:Hid (te=0):=HER.out.trans hr;rw[hr];clear hr;have x0:w4.frozen? ⟨g7,3,none⟩=false:=C4.out.free 3;obtain⟨y0,y1,y2,y3⟩:=kcells4 C4.out;obtain⟨w5,hw5⟩:∃w5,w5=w4.setCell ⟨g7,3,none⟩ (.int .i64 (cv:Nat)):=⟨_,rfl⟩
      have k5:Kept (·=g7) w4 w5:=by rw[hw5];exact Kept.set1 _ _ _ _
      have C5:Hid (Blk w5 g7 92 (kcells ⟨(av:Nat),3,⟨#[]⟩,(cv:Nat)⟩)):=by rw[hw5];exact C4.out.put 3 _
      have R5:=jH (R4.out.kept k5 (by omega) fun _ e _ ht=>by subst e;exact ht.ne_of C4.out.at_ (by decide) rfl);have B5:=jH (B4.out.kept k5 (by omega));have K5:=jH (K4.out.trans k5 fun i hi e=>by omega);have HW5:=jH hw5;clear hw5 k5 R4 K4 B4
      have HKE:Hid ((⟨(av:Nat),3,(⟨#[]⟩:ByteArray),(cv:Nat)⟩:KY)=tk):=by show _=_;exact HKK.out.symm
      have hkn:(⟨#[]⟩:ByteArray).size≤maxLen:=by
       have:=congrArg (fun k:KY=>k.n.size) HKE.out
       have h2:=HNM.out
       dsimp only at this
       rw[this];unfold maxLen;omega
      cases hm:mayK tk
      ·have HF:=jH (HFO.out HTZ.out hm)
       have HM:Hid (∀u,Calls Tryz.prog 103 #[.agg #[.int .i64 (av:Nat),.int .u8 3,.string (⟨#[]⟩:ByteArray),.int .i64 (cv:Nat)]] u (NewBool u false)):=fun u=>by
        have hm2:mayK ⟨(av:Nat),3,(⟨#[]⟩:ByteArray),(cv:Nat)⟩=false:=by rw[HKE.out];exact hm
        have:=rmay_any ⟨(av:Nat),3,(⟨#[]⟩:ByteArray),(cv:Nat)⟩ u hkn
        rw[hm2] at this;exact this
       clear hm;go_wp2_with fail;rw[←HW5.out];refine (HM.out _).mono ?_;rintro e w7 ⟨rfl,k7⟩;have R7:=jH (R5.out.new k7);have B7:=jH (B5.out.kept k7 id);have K7:=jH (K5.out.new k7);clear k7 R5 B5 K5 C5 HM;have bs0:=B7.out;obtain⟨c0,c1,c2,c3⟩:=kcells4 B7.out;obtain⟨f0,f1,f2,f3⟩:=kfree4 B7.out;obtain⟨w9,hw9⟩:∃w9,w9=(((w7.setCell ⟨gr,0,none⟩ (.int .i64 0)).setCell ⟨gr,1,none⟩ (.int .u8 0)).setCell ⟨gr,2,none⟩ (.string ⟨#[]⟩)).setCell ⟨gr,3,none⟩ (.int .i64 0):=⟨_,rfl⟩;obtain⟨bs,ks⟩:=key_store (k:=⟨0,0,⟨#[]⟩,0⟩) B7.out hw9
       have E9:Hid (RGkP Q w g q (.returned (.tuple #[.agg #[.int .i64 0,.int .u8 0,.string ⟨#[]⟩,.int .i64 0],.int .i64 5])) w9):=by
        refine FINA.out _ _ (HF.out) ((R7.out.kept ks (by omega) fun _ e _ ht=>?_)) (K7.out.trans ks fun i hi e=>by have:=HGR.out;omega);subst e;exact ht.ne_of bs0.at_ (by decide) rfl
       obtain⟨d0,d1,d2,d3⟩:=kcells4 bs;have HW9:=jH hw9;clear hw9 bs ks bs0;go_wp2;rw[←HW9.out];clear HW9 c0 c1 c2 c3 f0 f1 f2 f3
       (try simp only[Exit.inBlock,Exit.then])
       refine bodyPost_ret (by simp[results,Tryz.results74,go_sem,d0,d1,d2,d3];try rfl) rfl ?_;exact E9.out
      ·have HF:=jH (HOK.out HTZ.out hm ⟨(av:Nat),3,(⟨#[]⟩:ByteArray),(cv:Nat)⟩ HKE.out)
       have HM:Hid (∀u,Calls Tryz.prog 103 #[.agg #[.int .i64 (av:Nat),.int .u8 3,.string (⟨#[]⟩:ByteArray),.int .i64 (cv:Nat)]] u (NewBool u true)):=fun u=>by
        have hm2:mayK ⟨(av:Nat),3,(⟨#[]⟩:ByteArray),(cv:Nat)⟩=true:=by rw[HKE.out];exact hm
        have:=rmay_any ⟨(av:Nat),3,(⟨#[]⟩:ByteArray),(cv:Nat)⟩ u hkn
        rw[hm2] at this;exact this
       clear hm;go_wp2_with fail;rw[←HW5.out];refine (HM.out _).mono ?_;rintro e w7 ⟨rfl,k7⟩;have R7:=jH (R5.out.new k7);have B7:=jH (B5.out.kept k7 id);have C7:=jH (C5.out.kept k7 id);have K7:=jH (K5.out.new k7);clear k7 R5 B5 K5 C5 HM;obtain⟨q0,q1,q2,q3⟩:=kcells4 C7.out;have bs0:=B7.out;obtain⟨c0,c1,c2,c3⟩:=kcells4 B7.out;obtain⟨f0,f1,f2,f3⟩:=kfree4 B7.out;obtain⟨w9,hw9⟩:∃w9,w9=(((w7.setCell ⟨gr,0,none⟩ (.int .i64 (av:Nat))).setCell ⟨gr,1,none⟩ (.int .u8 3)).setCell ⟨gr,2,none⟩ (.string (⟨#[]⟩:ByteArray))).setCell ⟨gr,3,none⟩ (.int .i64 (cv:Nat)):=⟨_,rfl⟩;obtain⟨bs,ks⟩:=key_store (k:=⟨(av:Nat),3,(⟨#[]⟩:ByteArray),(cv:Nat)⟩) B7.out hw9
       have E9:Hid (RGkP Q w g q (.returned (.tuple #[.agg #[.int .i64 (av:Nat),.int .u8 3,.string (⟨#[]⟩:ByteArray),.int .i64 (cv:Nat)],.int .i64 0])) w9):=by
        refine FINA.out _ _ (HF.out) ((R7.out.kept ks (by omega) fun _ e _ ht=>?_)) (K7.out.trans ks fun i hi e=>by have:=HGR.out;omega);subst e;exact ht.ne_of bs0.at_ (by decide) rfl
       obtain⟨d0,d1,d2,d3⟩:=kcells4 bs;have HW9:=jH hw9;clear hw9 bs ks bs0;go_wp2;rw[←HW9.out];clear HW9 c0 c1 c2 c3 f0 f1 f2 f3
       (try simp only[Exit.inBlock,Exit.then])
       refine bodyPost_ret (by simp[results,Tryz.results74,go_sem,d0,d1,d2,d3];try rfl) rfl ?_;exact E9.out
     ·have HF:=jH (HNO.out (by rw[HER.out];exact hr));rw[HER.out] at HF;have d:(ce != 0)=true:=bne_iff_ne.2 hr;clear hr;have bs0:=B4.out;obtain⟨c0,c1,c2,c3⟩:=kcells4 B4.out;obtain⟨f0,f1,f2,f3⟩:=kfree4 B4.out;obtain⟨w9,hw9⟩:∃w9,w9=(((w4.setCell ⟨gr,0,none⟩ (.int .i64 0)).setCell ⟨gr,1,none⟩ (.int .u8 0)).setCell ⟨gr,2,none⟩ (.string ⟨#[]⟩)).setCell ⟨gr,3,none⟩ (.int .i64 0):=⟨_,rfl⟩;obtain⟨bs,ks⟩:=key_store (k:=⟨0,0,⟨#[]⟩,0⟩) B4.out hw9
      have E9:Hid (RGkP Q w g q (.returned (.tuple #[.agg #[.int .i64 0,.int .u8 0,.string ⟨#[]⟩,.int .i64 0],.int .i64 ce])) w9):=by
       refine FINA.out _ _ (HF.out) ((R4.out.kept ks (by omega) fun _ e _ ht=>?_)) (K4.out.trans ks fun i hi e=>by have:=HGR.out;omega);subst e;exact ht.ne_of bs0.at_ (by decide) rfl
      obtain⟨d0,d1,d2,d3⟩:=kcells4 bs;have HW9:=jH hw9;clear hw9 bs ks bs0;go_wp2;rw[←HW9.out];clear HW9 c0 c1 c2 c3 f0 f1 f2 f3
      (try simp only[Exit.inBlock,Exit.then])
      refine bodyPost_ret (by simp[results,Tryz.results74,go_sem,d0,d1,d2,d3];try rfl) rfl ?_;exact E9.out
    ·have d3:((bv:Int) == 3)=false:=beq_eq_false_iff_ne.2 (by omega)
     have HTL:Hid (tr=l3):=by show _=_;rw[HTR.out];simp[HA.out,HB.out,t2,t3]
     have HTZ:Hid (te=0):=by show _=_;rw[HTE.out];simp[HA.out,HB.out,t2,t3]
     have HKK:Hid (tk=⟨(av:Nat),bv,⟨#[]⟩,0⟩):=by show _=_;rw[HTK.out];simp[t2,t3]
     have FINA:=jH fun e w'=>FINB.out e l3 w' HTL.out
     clear t2 t3 HT3 HT4 HTE HTR HTK FINB HTL
     have HKE:Hid ((⟨(av:Nat),bv,(⟨#[]⟩:ByteArray),0⟩:KY)=tk):=by show _=_;exact HKK.out.symm
     have hkn:(⟨#[]⟩:ByteArray).size≤maxLen:=by
      have:=congrArg (fun k:KY=>k.n.size) HKE.out
      have h2:=HNM.out
      dsimp only at this
      rw[this];unfold maxLen;omega
     cases hm:mayK tk
     ·have HF:=jH (HFO.out HTZ.out hm)
      have HM:Hid (∀u,Calls Tryz.prog 103 #[.agg #[.int .i64 (av:Nat),.int .u8 (bv:Nat),.string (⟨#[]⟩:ByteArray),.int .i64 0]] u (NewBool u false)):=fun u=>by
       have hm2:mayK ⟨(av:Nat),bv,(⟨#[]⟩:ByteArray),0⟩=false:=by rw[HKE.out];exact hm
       have:=rmay_any ⟨(av:Nat),bv,(⟨#[]⟩:ByteArray),0⟩ u hkn
       rw[hm2] at this;exact this
      clear hm;go_wp2_with fail;rw[←HW3.out];refine (HM.out _).mono ?_;rintro e w7 ⟨rfl,k7⟩;have R7:=jH (R3.out.new k7);have B7:=jH (B3.out.kept k7 id);have K7:=jH (K3.out.new k7);clear k7 R3 B3 K3 C3 HM;have bs0:=B7.out;obtain⟨c0,c1,c2,c3⟩:=kcells4 B7.out;obtain⟨f0,f1,f2,f3⟩:=kfree4 B7.out;obtain⟨w9,hw9⟩:∃w9,w9=(((w7.setCell ⟨gr,0,none⟩ (.int .i64 0)).setCell ⟨gr,1,none⟩ (.int .u8 0)).setCell ⟨gr,2,none⟩ (.string ⟨#[]⟩)).setCell ⟨gr,3,none⟩ (.int .i64 0):=⟨_,rfl⟩;obtain⟨bs,ks⟩:=key_store (k:=⟨0,0,⟨#[]⟩,0⟩) B7.out hw9
      have E9:Hid (RGkP Q w g q (.returned (.tuple #[.agg #[.int .i64 0,.int .u8 0,.string ⟨#[]⟩,.int .i64 0],.int .i64 5])) w9):=by
       refine FINA.out _ _ (HF.out) ((R7.out.kept ks (by omega) fun _ e _ ht=>?_)) (K7.out.trans ks fun i hi e=>by have:=HGR.out;omega);subst e;exact ht.ne_of bs0.at_ (by decide) rfl
      obtain⟨d0,d1,d2,d3⟩:=kcells4 bs;have HW9:=jH hw9;clear hw9 bs ks bs0;go_wp2;rw[←HW9.out];clear HW9 c0 c1 c2 c3 f0 f1 f2 f3
      (try simp only[Exit.inBlock,Exit.then])
      refine bodyPost_ret (by simp[results,Tryz.results74,go_sem,d0,d1,d2,d3];try rfl) rfl ?_;exact E9.out
     ·have HF:=jH (HOK.out HTZ.out hm ⟨(av:Nat),bv,(⟨#[]⟩:ByteArray),0⟩ HKE.out)
      have HM:Hid (∀u,Calls Tryz.prog 103 #[.agg #[.int .i64 (av:Nat),.int .u8 (bv:Nat),.string (⟨#[]⟩:ByteArray),.int .i64 0]] u (NewBool u true)):=fun u=>by
       have hm2:mayK ⟨(av:Nat),bv,(⟨#[]⟩:ByteArray),0⟩=true:=by rw[HKE.out];exact hm
       have:=rmay_any ⟨(av:Nat),bv,(⟨#[]⟩:ByteArray),0⟩ u hkn
       rw[hm2] at this;exact this
      clear hm;go_wp2_with fail;rw[←HW3.out];refine (HM.out _).mono ?_;rintro e w7 ⟨rfl,k7⟩;have R7:=jH (R3.out.new k7);have B7:=jH (B3.out.kept k7 id);have C7:=jH (C3.out.kept k7 id);have K7:=jH (K3.out.new k7);clear k7 R3 B3 K3 C3 HM;obtain⟨q0,q1,q2,q3⟩:=kcells4 C7.out;have bs0:=B7.out;obtain⟨c0,c1,c2,c3⟩:=kcells4 B7.out;obtain⟨f0,f1,f2,f3⟩:=kfree4 B7.out;obtain⟨w9,hw9⟩:∃w9,w9=(((w7.setCell ⟨gr,0,none⟩ (.int .i64 (av:Nat))).setCell ⟨gr,1,none⟩ (.int .u8 (bv:Nat))).setCell ⟨gr,2,none⟩ (.string (⟨#[]⟩:ByteArray))).setCell ⟨gr,3,none⟩ (.int .i64 0):=⟨_,rfl⟩;obtain⟨bs,ks⟩:=key_store (k:=⟨(av:Nat),bv,(⟨#[]⟩:ByteArray),0⟩) B7.out hw9
      have E9:Hid (RGkP Q w g q (.returned (.tuple #[.agg #[.int .i64 (av:Nat),.int .u8 (bv:Nat),.string (⟨#[]⟩:ByteArray),.int .i64 0],.int .i64 0])) w9):=by
       refine FINA.out _ _ (HF.out) ((R7.out.kept ks (by omega) fun _ e _ ht=>?_)) (K7.out.trans ks fun i hi e=>by have:=HGR.out;omega);subst e;exact ht.ne_of bs0.at_ (by decide) rfl
      obtain⟨d0,d1,d2,d3⟩:=kcells4 bs;have HW9:=jH hw9;clear hw9 bs ks bs0;go_wp2;rw[←HW9.out];clear HW9 c0 c1 c2 c3 f0 f1 f2 f3
      (try simp only[Exit.inBlock,Exit.then])
      refine bodyPost_ret (by simp[results,Tryz.results74,go_sem,d0,d1,d2,d3];try rfl) rfl ?_;exact E9.out
  ·have HER:Hid (te=be):=by show _=_;rw[HTE.out];simp[HA.out,he]
   have HTL:Hid (tr=l3):=by show _=_;rw[HTR.out];simp[HA.out,he]
   have d:(be != 0)=true:=bne_iff_ne.2 he;have HF:=jH (HNO.out (by rw[HER.out];exact he));rw[HER.out] at HF
   have FINA:=jH fun e w'=>FINB.out e l3 w' HTL.out
   have bs0:=B2.out;obtain⟨c0,c1,c2,c3⟩:=kcells4 B2.out;obtain⟨f0,f1,f2,f3⟩:=kfree4 B2.out;obtain⟨w9,hw9⟩:∃w9,w9=(((w2.setCell ⟨gr,0,none⟩ (.int .i64 0)).setCell ⟨gr,1,none⟩ (.int .u8 0)).setCell ⟨gr,2,none⟩ (.string ⟨#[]⟩)).setCell ⟨gr,3,none⟩ (.int .i64 0):=⟨_,rfl⟩;obtain⟨bs,ks⟩:=key_store (k:=⟨0,0,⟨#[]⟩,0⟩) B2.out hw9
   have E9:Hid (RGkP Q w g q (.returned (.tuple #[.agg #[.int .i64 0,.int .u8 0,.string ⟨#[]⟩,.int .i64 0],.int .i64 be])) w9):=by
    refine FINA.out _ _ (HF.out) ((R2.out.kept ks (by omega) fun _ e _ ht=>?_)) (K2.out.trans ks fun i hi e=>by have:=HGR.out;omega);subst e;exact ht.ne_of bs0.at_ (by decide) rfl
   obtain⟨d0,d1,d2,d3⟩:=kcells4 bs;have HW9:=jH hw9;clear hw9 bs ks bs0;go_wp2;rw[←HW9.out];clear HW9 c0 c1 c2 c3 f0 f1 f2 f3
   (try simp only[Exit.inBlock,Exit.then])
   refine bodyPost_ret (by simp[results,Tryz.results74,go_sem,d0,d1,d2,d3];try rfl) rfl ?_;exact E9.out
 ·have HER:Hid (te=ae):=by show _=_;rw[HTE.out];simp[he]
  have HTL:Hid (tr=l2):=by show _=_;rw[HTR.out];simp[he]
  have d:(ae != 0)=true:=bne_iff_ne.2 he;have HF:=jH (HNO.out (by rw[HER.out];exact he));rw[HER.out] at HF
  have FINA:=jH fun e w'=>FINB.out e l2 w' HTL.out
  have bs0:=B1.out;obtain⟨c0,c1,c2,c3⟩:=kcells4 B1.out;obtain⟨f0,f1,f2,f3⟩:=kfree4 B1.out;obtain⟨w9,hw9⟩:∃w9,w9=(((w1.setCell ⟨gr,0,none⟩ (.int .i64 0)).setCell ⟨gr,1,none⟩ (.int .u8 0)).setCell ⟨gr,2,none⟩ (.string ⟨#[]⟩)).setCell ⟨gr,3,none⟩ (.int .i64 0):=⟨_,rfl⟩;obtain⟨bs,ks⟩:=key_store (k:=⟨0,0,⟨#[]⟩,0⟩) B1.out hw9
  have E9:Hid (RGkP Q w g q (.returned (.tuple #[.agg #[.int .i64 0,.int .u8 0,.string ⟨#[]⟩,.int .i64 0],.int .i64 ae])) w9):=by
   refine FINA.out _ _ (HF.out) ((R1.out.kept ks (by omega) fun _ e _ ht=>?_)) (K1.out.trans ks fun i hi e=>by have:=HGR.out;omega);subst e;exact ht.ne_of bs0.at_ (by decide) rfl
  obtain⟨d0,d1,d2,d3⟩:=kcells4 bs;have HW9:=jH hw9;clear hw9 bs ks bs0;go_wp2;rw[←HW9.out];clear HW9 c0 c1 c2 c3 f0 f1 f2 f3
  (try simp only[Exit.inBlock,Exit.then])
  refine bodyPost_ret (by simp[results,Tryz.results74,go_sem,d0,d1,d2,d3];try rfl) rfl ?_;exact E9.out
end
end Go.Proofs.YtbiihjdjbknibaaGreat
