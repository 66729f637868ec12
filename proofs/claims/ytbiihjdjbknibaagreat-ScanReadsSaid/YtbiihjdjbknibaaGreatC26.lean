/-
  Layer 7: contracts (Fj).
-/
import Derived.Test.YtbiihjdjbknibaaGreatC25
namespace Go.Proofs.YtbiihjdjbknibaaGreat
set_option maxRecDepth 100000
set_option maxHeartbeats 8000000
set_option linter.unusedSimpArgs false
set_option linter.unusedVariables false
section
set_option maxRecDepth 100000
open Go.RowKit
variable {Q:Nat→Prop}
def GkP (Q:Nat→Prop) (w:World) (g:Nat) (l:List Nat) (e:Ending) (w':World):Prop:=
 e=.returned (.tuple #[.agg #[.int .i64 (gkK l).i,.int .u8 ((gkK l).t:Nat),.string (gkK l).n,.int .i64 (gkK l).c],.int .i64 (gkE l)])∧Rdr Q w' g (tkR l)∧Kept (·=g) w w'
theorem gk_no {l:List Nat} (h:tkE l≠0):Ending.returned (.tuple #[.agg #[.int .i64 0,.int .u8 0,.string ⟨#[]⟩,.int .i64 0],.int .i64 (tkE l)]) =
  .returned (.tuple #[.agg #[.int .i64 (gkK l).i,.int .u8 ((gkK l).t:Nat),.string (gkK l).n,.int .i64 (gkK l).c],.int .i64 (gkE l)]):=by
 have e:gkE l=tkE l:=by unfold gkE;rw[if_pos h]
 have e2:gkK l=⟨0,0,⟨#[]⟩,0⟩:=by unfold gkK;rw[e,if_neg h]
 rw[e,e2]
 rfl
theorem gk_form {l:List Nat} (h:tkE l=0) (h2:mayK (tkK l)=false):Ending.returned (.tuple #[.agg #[.int .i64 0,.int .u8 0,.string ⟨#[]⟩,.int .i64 0],.int .i64 5]) =
  .returned (.tuple #[.agg #[.int .i64 (gkK l).i,.int .u8 ((gkK l).t:Nat),.string (gkK l).n,.int .i64 (gkK l).c],.int .i64 (gkE l)]):=by
 have e:gkE l=5:=by unfold gkE;rw[if_neg (by simpa using h),if_neg (by simp[h2])]
 have e2:gkK l=⟨0,0,⟨#[]⟩,0⟩:=by unfold gkK;rw[e,if_neg (by decide)]
 rw[e,e2]
 rfl
theorem gk_ok {l:List Nat} (h:tkE l=0) (h2:mayK (tkK l)=true) (k:KY) (hk:k=tkK l):Ending.returned (.tuple #[.agg #[.int .i64 k.i,.int .u8 (k.t:Nat),.string k.n,.int .i64 k.c],.int .i64 0]) =
  .returned (.tuple #[.agg #[.int .i64 (gkK l).i,.int .u8 ((gkK l).t:Nat),.string (gkK l).n,.int .i64 (gkK l).c],.int .i64 (gkE l)]):=by
 have e:gkE l=0:=by unfold gkE;rw[if_neg (by simpa using h),if_pos h2]
 have e2:gkK l=tkK l:=by unfold gkK;rw[if_pos e]
 rw[e,e2,hk]
theorem getKey_any (g:Nat) (l:List Nat) (w:World) (h:Rdr Q w g l):
  Calls Tryz.prog 150 #[.pointer (some ⟨g,0,none⟩)] w (GkP Q w g l):=by
 have HL:Hid (∀x∈l,x < 256):=by obtain⟨_,_,_,h2,_⟩:=h;exact h2.2.1
 have hg:=h.at_.lt;have HNM:=jH (tkK_name HL.out);have HNO:Hid (tkE l≠0→_):=gk_no (l:=l);have HFO:Hid (tkE l=0→mayK (tkK l)=false→_):=gk_form (l:=l);have HOK:Hid (tkE l=0→mayK (tkK l)=true→∀k:KY,k=tkK l→_):=gk_ok (l:=l);obtain⟨w0,hw0⟩:∃w0,w0=w.alloc (.cells #[.int .i64 0,.int .u8 0,.string ⟨#[]⟩,.int .i64 0] 92):=⟨_,rfl⟩
 have B0:Hid (Blk w0 w.heap.size 92 (kcells ⟨0,0,⟨#[]⟩,0⟩)):=by rw[hw0];exact Blk.made w _ _
 have K0:Hid (Kept (·=g) w w0):=by rw[hw0];exact kR.alloc _
 have R0:Hid (Rdr Q w0 g l):=by rw[hw0];exact h.new (kR.alloc _)
 have HW:=jH hw0;clear hw0 h;go_enter Tryz.func150,Tryz.ntmps150;go_wp2_with fail;rw[←HW.out];clear HW;generalize hgr:w.heap.size=gr at *;have HGR:=jH hgr;clear hgr;refine (takeKey_any g l _ R0.out).mono ?_;rintro e w1 ⟨k,rfl,hk,r1,k1⟩;have HK:=jH hk;obtain⟨w2,hw2⟩:∃w2,w2=w1.alloc (.cells #[.int .i64 k.i,.int .u8 (k.t:Nat),.string k.n,.int .i64 k.c] 92):=⟨_,rfl⟩
 have n2:New w1 w2:=by rw[hw2];exact kR.alloc _
 have R1:=jH r1;have R2:=jH (r1.new n2);have B1:=jH (B0.out.kept k1 (by omega));have B2:=jH (B1.out.kept n2 id);have K1:=jH (K0.out.trans k1 fun _ _ h=>h);have K2:=jH (K1.out.new n2)
 have C2:Hid (Blk w2 w1.heap.size 92 (kcells k)):=by rw[hw2];exact Blk.made w1 _ _
 have hlt:gr < w1.heap.size:=B1.out.lt;have HW2:=jH hw2;clear hw2 n2 r1 k1 hk R0 B0 K0
 by_cases he:tkE l=0
 ·have HE:=jH he;rw[he];have hkk:=HK.out he;have HKE:=jH hkk
  have hkn:k.n.size≤maxLen:=by rw[hkk];have:=HNM.out;unfold maxLen;omega
  clear HK hkk;cases hm:mayK (tkK l)
  ·have HF:=jH (HFO.out he hm)
   have HM:Hid (∀u,Calls Tryz.prog 155 #[.agg #[.int .i64 k.i,.int .u8 (k.t:Nat),.string k.n,.int .i64 k.c]] u (NewBool u false)):=fun u=>by
    have:=may_any k u hkn
    rwa [HKE.out,hm,←HKE.out] at this
   clear he hm HFO HOK HNO;go_wp2_with fail;rw[←HW2.out];clear HW2;refine (HM.out _).mono ?_;rintro e w3 ⟨rfl,k3⟩;have R3:=jH (R2.out.new k3);have B3:=jH (B2.out.kept k3 id);have K3:=jH (K2.out.new k3);clear k3 R2 B2 K2 C2 R1 B1 K1 HM;have bs0:=B3.out;obtain⟨c0,c1,c2,c3⟩:=kcells4 B3.out;obtain⟨f0,f1,f2,f3⟩:=kfree4 B3.out;obtain⟨w9,hw9⟩:∃w9,w9=(((w3.setCell ⟨gr,0,none⟩ (.int .i64 0)).setCell ⟨gr,1,none⟩ (.int .u8 0)).setCell ⟨gr,2,none⟩ (.string ⟨#[]⟩)).setCell ⟨gr,3,none⟩ (.int .i64 0):=⟨_,rfl⟩;obtain⟨bs,ks⟩:=key_store (k:=⟨0,0,⟨#[]⟩,0⟩) B3.out hw9
   have E9:Hid (GkP Q w g l (.returned (.tuple #[.agg #[.int .i64 0,.int .u8 0,.string ⟨#[]⟩,.int .i64 0],.int .i64 5])) w9):=by
    refine⟨HF.out,R3.out.kept ks (by omega) fun _ e _ ht=>?_,K3.out.trans ks fun i hi e=>by have:=HGR.out;omega⟩;subst e;exact ht.ne_of bs0.at_ (by decide) rfl
   obtain⟨d0,d1,d2,d3⟩:=kcells4 bs;have HW9:=jH hw9;clear hw9 bs ks bs0;go_wp2;rw[←HW9.out];clear HW9 c0 c1 c2 c3 f0 f1 f2 f3
   (try simp only[Exit.inBlock,Exit.then])
   refine bodyPost_ret (by simp[results,Tryz.results150,go_sem,d0,d1,d2,d3];try rfl) rfl ?_;exact E9.out
  ·have HF:=jH (HOK.out he hm k HKE.out)
   have HM:Hid (∀u,Calls Tryz.prog 155 #[.agg #[.int .i64 k.i,.int .u8 (k.t:Nat),.string k.n,.int .i64 k.c]] u (NewBool u true)):=fun u=>by
    have:=may_any k u hkn
    rwa [HKE.out,hm,←HKE.out] at this
   clear he hm HFO HOK HNO;go_wp2_with fail;rw[←HW2.out];clear HW2;refine (HM.out _).mono ?_;rintro e w3 ⟨rfl,k3⟩;have R3:=jH (R2.out.new k3);have B3:=jH (B2.out.kept k3 id);have C3:=jH (C2.out.kept k3 id);have K3:=jH (K2.out.new k3);clear k3 R2 B2 K2 C2 R1 B1 K1 HM;obtain⟨q0,q1,q2,q3⟩:=kcells4 C3.out;have bs0:=B3.out;obtain⟨c0,c1,c2,c3⟩:=kcells4 B3.out;obtain⟨f0,f1,f2,f3⟩:=kfree4 B3.out;obtain⟨w9,hw9⟩:∃w9,w9=(((w3.setCell ⟨gr,0,none⟩ (.int .i64 k.i)).setCell ⟨gr,1,none⟩ (.int .u8 (k.t:Nat))).setCell ⟨gr,2,none⟩ (.string k.n)).setCell ⟨gr,3,none⟩ (.int .i64 k.c):=⟨_,rfl⟩;obtain⟨bs,ks⟩:=key_store (k:=⟨k.i,k.t,k.n,k.c⟩) B3.out hw9
   have E9:Hid (GkP Q w g l (.returned (.tuple #[.agg #[.int .i64 k.i,.int .u8 (k.t:Nat),.string k.n,.int .i64 k.c],.int .i64 0])) w9):=by
    refine⟨HF.out,R3.out.kept ks (by omega) fun _ e _ ht=>?_,K3.out.trans ks fun i hi e=>by have:=HGR.out;omega⟩;subst e;exact ht.ne_of bs0.at_ (by decide) rfl
   obtain⟨d0,d1,d2,d3⟩:=kcells4 bs;have HW9:=jH hw9;clear hw9 bs ks bs0;go_wp2;rw[←HW9.out];clear HW9 c0 c1 c2 c3 f0 f1 f2 f3
   (try simp only[Exit.inBlock,Exit.then])
   refine bodyPost_ret (by simp[results,Tryz.results150,go_sem,d0,d1,d2,d3];try rfl) rfl ?_;exact E9.out
 ·have HF:=jH (HNO.out he);have d:(tkE l != 0)=true:=bne_iff_ne.2 he;clear HFO HOK HNO HK he;generalize tkE l=te at *;have bs0:=B1.out;obtain⟨c0,c1,c2,c3⟩:=kcells4 B1.out;obtain⟨f0,f1,f2,f3⟩:=kfree4 B1.out;obtain⟨w9,hw9⟩:∃w9,w9=(((w1.setCell ⟨gr,0,none⟩ (.int .i64 0)).setCell ⟨gr,1,none⟩ (.int .u8 0)).setCell ⟨gr,2,none⟩ (.string ⟨#[]⟩)).setCell ⟨gr,3,none⟩ (.int .i64 0):=⟨_,rfl⟩;obtain⟨bs,ks⟩:=key_store (k:=⟨0,0,⟨#[]⟩,0⟩) B1.out hw9
  have E9:Hid (GkP Q w g l (.returned (.tuple #[.agg #[.int .i64 0,.int .u8 0,.string ⟨#[]⟩,.int .i64 0],.int .i64 te])) (w9.alloc (.cells #[.int .i64 k.i,.int .u8 (k.t:Nat),.string k.n,.int .i64 k.c] 92))):=by
   refine⟨HF.out,(R1.out.kept ks (by omega) fun _ e _ ht=>?_).new (kR.alloc _),(K1.out.trans ks fun i hi e=>by have:=HGR.out;omega).alloc _⟩;subst e;exact ht.ne_of bs0.at_ (by decide) rfl
  obtain⟨d0,d1,d2,d3⟩:=kcells4 (bs.alloc (.cells #[.int .i64 k.i,.int .u8 (k.t:Nat),.string k.n,.int .i64 k.c] 92));have HW9:=jH hw9;clear hw9 bs ks bs0;go_wp2;rw[←HW9.out];clear HW9 c0 c1 c2 c3 f0 f1 f2 f3
  (try simp only[Exit.inBlock,Exit.then])
  refine bodyPost_ret (by simp[results,Tryz.results150,go_sem,d0,d1,d2,d3];try rfl) rfl ?_;exact E9.out
end
end Go.Proofs.YtbiihjdjbknibaaGreat
