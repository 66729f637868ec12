/-
  Layer 7: contracts (Gd Ge Nr).
-/
import Derived.Test.YtbiihjdjbknibaaGreatC13
namespace Go.Proofs.YtbiihjdjbknibaaGreat
set_option maxRecDepth 100000
set_option maxHeartbeats 8000000
set_option linter.unusedSimpArgs false
set_option linter.unusedVariables false
section
set_option maxRecDepth 100000
open Go.ChangeShapes Go.WideShapes Go.ChangeAt Go.RowKit
def bdK (b:List Nat):Nat:=leV (b.take 1)
def bdE (b:List Nat):Nat:=leV ((b.drop 1).take 4)
def bdS (b:List Nat):Nat:=leV (((b.drop 1).drop 4).take 8)
theorem bd_lt (b:List Nat) (hb:IsBytes b) (hl:b.length=13):bdK b < 256∧bdE b < 4294967296∧bdS b < 18446744073709551616:=by
 have h1:=leV_lt (b.take 1) fun x hx=>hb x (List.mem_of_mem_take hx)
 have h2:=leV_lt ((b.drop 1).take 4) fun x hx=>hb x (List.mem_of_mem_drop (List.mem_of_mem_take hx))
 have h3:=leV_lt (((b.drop 1).drop 4).take 8) fun x hx=>hb x (List.mem_of_mem_drop (List.mem_of_mem_drop (List.mem_of_mem_take hx)))
 rw[show (b.take 1).length=1 by simp;omega] at h1;rw[show ((b.drop 1).take 4).length=4 by simp;omega] at h2;rw[show (((b.drop 1).drop 4).take 8).length=8 by simp;omega] at h3;exact⟨h1,h2,h3⟩
def ghE (l:List Nat):Int:=if sGetE l≠0 then sGetE l else if (sGetK l=1∧(sGetL l).length=13)∧isHd (bdK (sGetL l)) (bdE (sGetL l)) (bdS (sGetL l)) then 0 else 5
def ghK (l:List Nat):Nat:=if ghE l=0 then bdK (sGetL l) else 0
def ghR (l:List Nat):Nat:=if ghE l=0 then bdE (sGetL l) else 0
def ghS (l:List Nat):Nat:=if ghE l=0 then bdS (sGetL l) else 0
def GetHP (w:World) (l:List Nat) (r:Ending) (w':World):Prop:=
 r=.returned (.tuple #[.agg #[.int .u8 (ghK l:Nat),.int .u32 (ghR l:Nat),.int .u64 (ghS l:Nat)],.int .i64 (ghE l)])∧New w w'
theorem head_store {w w':World} {b:Nat} {t:TypeId} {c0 c1 c2 v0 v1 v2:Value} (h:Blk w b t [c0,c1,c2]) (hw:w'=((w.setCell ⟨b,0,none⟩ v0).setCell ⟨b,1,none⟩ v1).setCell ⟨b,2,none⟩ v2):
  Blk w' b t [v0,v1,v2]∧Kept (·=b) w w':=by
 subst hw;exact⟨((h.put 0 v0).put 1 v1).put 2 v2,((Kept.set1 w b 0 v0).setCell (p:=⟨b,1,none⟩) (fun _=>rfl) _).setCell (p:=⟨b,2,none⟩) (fun _=>rfl) _⟩
theorem headOf_any (A:Option Addr) (c:Nat) (l:List Nat) (w:World) (hb:Bts w A 13 l):
  Calls Tryz.prog 132 #[.slice A 13 c] w fun r w'=>r=.returned (.agg #[.int .u8 (bdK l:Nat),.int .u32 (bdE l:Nat),.int .u64 (bdS l:Nat)])∧New w w':=by
 have hl:=hb.1;obtain⟨b1,b2,b3⟩:=bd_lt l hb.2.1 hl;obtain⟨g0,o0,rfl,_⟩:=hb.2.2 (by omega);have H5:=jH hb;have HL:=jH hl;have M1:Hid (leV (l.take 1)=bdK l):=rfl;have M2:Hid (leV ((l.drop 1).take 4)=bdE l):=rfl;have M3:Hid (leV (((l.drop 1).drop 4).take 8)=bdS l):=rfl;generalize bdK l=v0 at *;generalize bdE l=v1 at *;generalize bdS l=v2 at *;clear hb hl;go_enter Tryz.func132,Tryz.ntmps132;go_wp2_with fail;refine (new_any _ 13 c l _ (H5.out.new (kR.alloc _)) (by omega) (by intro h;cases h)).mono ?_;rintro e w1 ⟨gr,rfl,hr,hg,hk⟩
 have hg2:w.heap.size < gr:=by simp at hg;omega
 have R1:=jH hr.any;have K1:Hid (New w w1):=(kR.alloc _).new hk;have B1:Hid (Blk w1 w.heap.size 69 [.int .u8 0,.int .u32 0,.int .u64 0]):=(Blk.made w 69 #[.int .u8 0,.int .u32 0,.int .u64 0]).kept hk (fun f=>f);clear hr hk hg;go_wp2_with fail;refine (etake_ok gr _ 1 _ R1.out (.inl rfl) (by rw[HL.out];omega)).mono ?_;rintro e w2 ⟨rfl,hr,hk⟩;have R2:=jH hr;have K2:Hid (New w w2):=K1.out.trans hk (fun i hi h=>by omega);have B2:=jH (B1.out.kept hk (by omega));rw[M1.out];clear hr hk R1 K1 B1;go_wp2_with fail;refine (etake_ok gr _ 4 _ R2.out (.inr (.inr (.inl rfl))) (by rw[List.length_drop,HL.out];omega)).mono ?_
 rintro e w3 ⟨rfl,hr,hk⟩;have R3:=jH hr;have K3:Hid (New w w3):=K2.out.trans hk (fun i hi h=>by omega);have B3:=jH (B2.out.kept hk (by omega));rw[M2.out];clear hr hk R2 K2 B2;go_wp2_with fail;refine (etake_ok gr _ 8 _ R3.out (.inr (.inr (.inr rfl))) (by rw[List.length_drop,List.length_drop,HL.out];omega)).mono ?_;rintro e w4 ⟨rfl,hr,hk⟩;have K4:Hid (New w w4):=K3.out.trans hk (fun i hi h=>by omega);have B4:=jH (B3.out.kept hk (by omega));rw[M3.out];clear hr hk R3 K3 B3;have c0:=B4.out.cell 0;have c1:=B4.out.cell 1;have c2:=B4.out.cell 2;obtain⟨f0,f1,f2⟩:=B4.out.f3;simp only[List.getElem?_cons_zero,List.getElem?_cons_succ] at c0 c1 c2
 obtain⟨w5,hw5⟩:∃w5,w5=((w4.setCell ⟨w.heap.size,0,none⟩ (.int .u8 v0)).setCell ⟨w.heap.size,1,none⟩ (.int .u32 v1)).setCell ⟨w.heap.size,2,none⟩ (.int .u64 v2):=⟨_,rfl⟩;obtain⟨bs,ks⟩:=head_store B4.out hw5;have HW5:=jH hw5;have BS:=jH bs;have K5:Hid (New w w5):=K4.out.trans ks (fun i hi h=>by omega);clear hw5 bs ks;go_wp2;rw[←HW5.out];have d0:=BS.out.cell 0;have d1:=BS.out.cell 1;have d2:=BS.out.cell 2;simp only[List.getElem?_cons_zero,List.getElem?_cons_succ] at d0 d1 d2;clear HW5 c0 c1 c2 f0 f1 f2
 (try simp only[Exit.inBlock,Exit.then])
 refine bodyPost_ret (by simp[results,Tryz.results132,go_sem,d0,d1,d2];try rfl) rfl ?_;exact⟨rfl,K5.out⟩
theorem gh_no {l:List Nat} (h:sGetE l≠0):Ending.returned (.tuple #[.agg #[.int .u8 (ghK l:Nat),.int .u32 (ghR l:Nat),.int .u64 (ghS l:Nat)],.int .i64 (ghE l)])=.returned (.tuple #[.agg #[.int .u8 0,.int .u32 0,.int .u64 0],.int .i64 (sGetE l)]):=by
 have e:ghE l=sGetE l:=by unfold ghE;rw[if_pos h]
 have e1:ghK l=0:=by unfold ghK;rw[e,if_neg h]
 have e2:ghR l=0:=by unfold ghR;rw[e,if_neg h]
 have e3:ghS l=0:=by unfold ghS;rw[e,if_neg h]
 rw[e,e1,e2,e3]
 rfl
theorem gh_form {l:List Nat} (h:sGetE l=0) (h2:¬((sGetK l=1∧(sGetL l).length=13)∧isHd (bdK (sGetL l)) (bdE (sGetL l)) (bdS (sGetL l)))):Ending.returned (.tuple #[.agg #[.int .u8 (ghK l:Nat),.int .u32 (ghR l:Nat),.int .u64 (ghS l:Nat)],.int .i64 (ghE l)])=.returned (.tuple #[.agg #[.int .u8 0,.int .u32 0,.int .u64 0],.int .i64 5]):=by
 have e:ghE l=5:=by unfold ghE;rw[if_neg (by rw[h];decide),if_neg h2]
 have e1:ghK l=0:=by unfold ghK;rw[e,if_neg (by decide)]
 have e2:ghR l=0:=by unfold ghR;rw[e,if_neg (by decide)]
 have e3:ghS l=0:=by unfold ghS;rw[e,if_neg (by decide)]
 rw[e,e1,e2,e3]
 rfl
theorem gh_ok {l:List Nat} (h:sGetE l=0) (h2:(sGetK l=1∧(sGetL l).length=13)∧isHd (bdK (sGetL l)) (bdE (sGetL l)) (bdS (sGetL l))):Ending.returned (.tuple #[.agg #[.int .u8 (ghK l:Nat),.int .u32 (ghR l:Nat),.int .u64 (ghS l:Nat)],.int .i64 (ghE l)])=.returned (.tuple #[.agg #[.int .u8 (bdK (sGetL l):Nat),.int .u32 (bdE (sGetL l):Nat),.int .u64 (bdS (sGetL l):Nat)],.int .i64 0]):=by
 have e:ghE l=0:=by unfold ghE;rw[if_neg (by rw[h];decide),if_pos h2]
 have e1:ghK l=bdK (sGetL l):=by unfold ghK;rw[if_pos e]
 have e2:ghR l=bdE (sGetL l):=by unfold ghR;rw[if_pos e]
 have e3:ghS l=bdS (sGetL l):=by unfold ghS;rw[if_pos e]
 rw[e,e1,e2,e3]
theorem getHead_any (A:Option Addr) (n c:Nat) (l:List Nat) (w:World) (hb:Bts w A n l) (hc:n≤c) (hc2:c≤9223372036854775807):
  Calls Tryz.prog 109 #[.slice A n c] w (GetHP w l):=by
 have HB:=jH hb;clear hb;go_enter Tryz.func109,Tryz.ntmps109;go_wp2_with fail;have K0:Hid (New w (w.alloc (.cells #[.int .u8 0,.int .u32 0,.int .u64 0] 69))):=kR.alloc _;have B0:Hid (Blk (w.alloc (.cells #[.int .u8 0,.int .u32 0,.int .u64 0] 69)) w.heap.size 69 [.int .u8 0,.int .u32 0,.int .u64 0]):=Blk.made w _ _;refine (sGet_k A n c l K0 (HB.out.new K0.out) hc hc2 _ _ _ ⟨rfl,rfl,rfl⟩ _ rfl).mono ?_;rintro e w1 ⟨A1,c1,rfl,h1,h2,K1⟩;have B1:=jH (B0.out.new h2.out);have O1:Hid (OwnB w1 5 w.heap.size A1 c1 (sGetL l)):=h1;clear h1 h2 K0 B0
 by_cases hE:sGetE l=0
 ·rw[hE]
  by_cases hK:sGetK l=1
  ·rw[hK]
   by_cases hL:(sGetL l).length=13
   ·rw[hL];have LB:=jH (bd_lt (sGetL l) O1.out.1 hL)
    have BB:Hid (Bts w1 A1 13 (sGetL l)):=by have:=O1.out.bts;rw[hL] at this;exact this
    by_cases hH:isHd (bdK (sGetL l)) (bdE (sGetL l)) (bdS (sGetL l))
    ·have R:=jH (gh_ok hE ⟨⟨hK,hL⟩,hH⟩).symm;have HH:=jH (decide_eq_true hH);clear hE hK hL hH;go_wp2_with fail;refine (headOf_any A1 c1 (sGetL l) _ BB.out).mono ?_;rintro e w2 ⟨rfl,h2⟩;have K2:Hid (New w w2):=K1.out.new h2;have B2:=jH (B1.out.new h2);obtain⟨l0,l1,l2⟩:=LB.out;clear h2 O1 BB B1 K1;generalize bdK (sGetL l)=v0 at *;generalize bdE (sGetL l)=v1 at *;generalize bdS (sGetL l)=v2 at *;obtain⟨w3,hw3⟩:∃w3,w3=w2.alloc (.cells #[.int .u8 (v0:Nat),.int .u32 (v1:Nat),.int .u64 (v2:Nat)] 69):=⟨_,rfl⟩
     have H3:Hid (Blk w3 w2.heap.size 69 [.int .u8 (v0:Nat),.int .u32 (v1:Nat),.int .u64 (v2:Nat)]):=by rw[hw3];exact Blk.made w2 _ _
     have K3:Hid (New w2 w3):=by rw[hw3];exact kR.alloc _
     have HW3:=jH hw3;clear hw3;go_wp2_with fail;rw[←HW3.out];clear HW3;refine (isHead_any v0 v1 v2 _).mono ?_;rintro e w4 ⟨rfl,h4⟩;rw[HH.out];have K4:Hid (New w w4):=(K2.out.new K3.out).new h4;have B4:=jH ((B2.out.new K3.out).new h4);have H4:=jH (H3.out.new h4);clear h4 K2 K3 B2 H3;have h0:=H4.out.cell 0;have h1:=H4.out.cell 1;have h2:=H4.out.cell 2;simp only[List.getElem?_cons_zero,List.getElem?_cons_succ] at h0 h1 h2;have c0:=B4.out.cell 0;have c1:=B4.out.cell 1;have c2:=B4.out.cell 2;obtain⟨f0,f1,f2⟩:=B4.out.f3;simp only[List.getElem?_cons_zero,List.getElem?_cons_succ] at c0 c1 c2;obtain⟨w5,hw5⟩:∃w5,w5=((w4.setCell ⟨w.heap.size,0,none⟩ (.int .u8 (v0:Nat))).setCell ⟨w.heap.size,1,none⟩ (.int .u32 (v1:Nat))).setCell ⟨w.heap.size,2,none⟩ (.int .u64 (v2:Nat)):=⟨_,rfl⟩
     obtain⟨bs,ks⟩:=head_store B4.out hw5;have HW5:=jH hw5;have BS:=jH bs;have K5:Hid (New w w5):=K4.out.trans ks (fun i hi h=>by omega);clear hw5 bs ks;go_wp2;rw[←HW5.out];have d0:=BS.out.cell 0;have d1:=BS.out.cell 1;have d2:=BS.out.cell 2;simp only[List.getElem?_cons_zero,List.getElem?_cons_succ] at d0 d1 d2;clear HW5 c0 c1 c2 f0 f1 f2
     (try simp only[Exit.inBlock,Exit.then])
     refine bodyPost_ret (by simp[results,Tryz.results109,go_sem,d0,d1,d2];try rfl) rfl ?_;exact⟨R.out,K5.out⟩
    ·have R:=jH (gh_form hE fun h=>hH h.2).symm;have HH:=jH (decide_eq_false hH);clear hE hK hL hH;go_wp2_with fail;refine (headOf_any A1 c1 (sGetL l) _ BB.out).mono ?_;rintro e w2 ⟨rfl,h2⟩;have K2:Hid (New w w2):=K1.out.new h2;have B2:=jH (B1.out.new h2);obtain⟨l0,l1,l2⟩:=LB.out;clear h2 O1 BB B1 K1;generalize bdK (sGetL l)=v0 at *;generalize bdE (sGetL l)=v1 at *;generalize bdS (sGetL l)=v2 at *;obtain⟨w3,hw3⟩:∃w3,w3=w2.alloc (.cells #[.int .u8 (v0:Nat),.int .u32 (v1:Nat),.int .u64 (v2:Nat)] 69):=⟨_,rfl⟩
     have H3:Hid (Blk w3 w2.heap.size 69 [.int .u8 (v0:Nat),.int .u32 (v1:Nat),.int .u64 (v2:Nat)]):=by rw[hw3];exact Blk.made w2 _ _
     have K3:Hid (New w2 w3):=by rw[hw3];exact kR.alloc _
     have HW3:=jH hw3;clear hw3;go_wp2_with fail;rw[←HW3.out];clear HW3;refine (isHead_any v0 v1 v2 _).mono ?_;rintro e w4 ⟨rfl,h4⟩;rw[HH.out];have K4:Hid (New w w4):=(K2.out.new K3.out).new h4;have B4:=jH ((B2.out.new K3.out).new h4);have H4:=jH (H3.out.new h4);clear h4 K2 K3 B2 H3;have c0:=B4.out.cell 0;have c1:=B4.out.cell 1;have c2:=B4.out.cell 2;obtain⟨f0,f1,f2⟩:=B4.out.f3;simp only[List.getElem?_cons_zero,List.getElem?_cons_succ] at c0 c1 c2;obtain⟨w5,hw5⟩:∃w5,w5=((w4.setCell ⟨w.heap.size,0,none⟩ (.int .u8 0)).setCell ⟨w.heap.size,1,none⟩ (.int .u32 0)).setCell ⟨w.heap.size,2,none⟩ (.int .u64 0):=⟨_,rfl⟩
     obtain⟨bs,ks⟩:=head_store B4.out hw5;have HW5:=jH hw5;have BS:=jH bs;have K5:Hid (New w w5):=K4.out.trans ks (fun i hi h=>by omega);clear hw5 bs ks;go_wp2;rw[←HW5.out];have d0:=BS.out.cell 0;have d1:=BS.out.cell 1;have d2:=BS.out.cell 2;simp only[List.getElem?_cons_zero,List.getElem?_cons_succ] at d0 d1 d2;clear HW5 c0 c1 c2 f0 f1 f2
     (try simp only[Exit.inBlock,Exit.then])
     refine bodyPost_ret (by simp[results,Tryz.results109,go_sem,d0,d1,d2];try rfl) rfl ?_;exact⟨R.out,K5.out⟩
   ·have R:=jH (gh_form hE fun h=>hL h.1.2).symm;have hL2:(((sGetL l).length:Int) == 13)=false:=beq_eq_false_iff_ne.2 (by omega);have hL3:((sGetL l).length == 13)=false:=beq_eq_false_iff_ne.2 hL;clear hE hK O1;generalize (sGetL l).length=m at *;have c0:=B1.out.cell 0;have c1:=B1.out.cell 1;have c2:=B1.out.cell 2;obtain⟨f0,f1,f2⟩:=B1.out.f3;simp only[List.getElem?_cons_zero,List.getElem?_cons_succ] at c0 c1 c2;obtain⟨w5,hw5⟩:∃w5,w5=((w1.setCell ⟨w.heap.size,0,none⟩ (.int .u8 0)).setCell ⟨w.heap.size,1,none⟩ (.int .u32 0)).setCell ⟨w.heap.size,2,none⟩ (.int .u64 0):=⟨_,rfl⟩;obtain⟨bs,ks⟩:=head_store B1.out hw5
    have HW5:=jH hw5;have BS:=jH bs;have K5:Hid (New w w5):=K1.out.trans ks (fun i hi h=>by omega);clear hw5 bs ks;go_wp2;rw[←HW5.out];have d0:=BS.out.cell 0;have d1:=BS.out.cell 1;have d2:=BS.out.cell 2;simp only[List.getElem?_cons_zero,List.getElem?_cons_succ] at d0 d1 d2;clear HW5 c0 c1 c2 f0 f1 f2
    (try simp only[Exit.inBlock,Exit.then])
    refine bodyPost_ret (by simp[results,Tryz.results109,go_sem,d0,d1,d2];try rfl) rfl ?_;exact⟨R.out,K5.out⟩
  ·have R:=jH (gh_form hE fun h=>hK h.1.1).symm;have hK2:((sGetK l:Int) == 1)=false:=beq_eq_false_iff_ne.2 (by omega);have hK3:(sGetK l == 1)=false:=beq_eq_false_iff_ne.2 hK;clear hE O1;generalize sGetK l=kk at *;generalize (sGetL l).length=m at *;have c0:=B1.out.cell 0;have c1:=B1.out.cell 1;have c2:=B1.out.cell 2;obtain⟨f0,f1,f2⟩:=B1.out.f3;simp only[List.getElem?_cons_zero,List.getElem?_cons_succ] at c0 c1 c2;obtain⟨w5,hw5⟩:∃w5,w5=((w1.setCell ⟨w.heap.size,0,none⟩ (.int .u8 0)).setCell ⟨w.heap.size,1,none⟩ (.int .u32 0)).setCell ⟨w.heap.size,2,none⟩ (.int .u64 0):=⟨_,rfl⟩;obtain⟨bs,ks⟩:=head_store B1.out hw5
   have HW5:=jH hw5;have BS:=jH bs;have K5:Hid (New w w5):=K1.out.trans ks (fun i hi h=>by omega);clear hw5 bs ks;go_wp2;rw[←HW5.out];have d0:=BS.out.cell 0;have d1:=BS.out.cell 1;have d2:=BS.out.cell 2;simp only[List.getElem?_cons_zero,List.getElem?_cons_succ] at d0 d1 d2;clear HW5 c0 c1 c2 f0 f1 f2
   (try simp only[Exit.inBlock,Exit.then])
   refine bodyPost_ret (by simp[results,Tryz.results109,go_sem,d0,d1,d2];try rfl) rfl ?_;exact⟨R.out,K5.out⟩
 ·have R:=jH (gh_no hE).symm;have hE2:(sGetE l == 0)=false:=beq_eq_false_iff_ne.2 hE;clear O1;generalize sGetE l=EE at *;generalize sGetK l=kk at *;generalize (sGetL l).length=m at *;have c0:=B1.out.cell 0;have c1:=B1.out.cell 1;have c2:=B1.out.cell 2;obtain⟨f0,f1,f2⟩:=B1.out.f3;simp only[List.getElem?_cons_zero,List.getElem?_cons_succ] at c0 c1 c2;obtain⟨w5,hw5⟩:∃w5,w5=((w1.setCell ⟨w.heap.size,0,none⟩ (.int .u8 0)).setCell ⟨w.heap.size,1,none⟩ (.int .u32 0)).setCell ⟨w.heap.size,2,none⟩ (.int .u64 0):=⟨_,rfl⟩;obtain⟨bs,ks⟩:=head_store B1.out hw5;have HW5:=jH hw5;have BS:=jH bs;have K5:Hid (New w w5):=K1.out.trans ks (fun i hi h=>by omega)
  clear hw5 bs ks;go_wp2;rw[←HW5.out];have d0:=BS.out.cell 0;have d1:=BS.out.cell 1;have d2:=BS.out.cell 2;simp only[List.getElem?_cons_zero,List.getElem?_cons_succ] at d0 d1 d2;clear HW5 c0 c1 c2 f0 f1 f2
  (try simp only[Exit.inBlock,Exit.then])
  refine bodyPost_ret (by simp[results,Tryz.results109,go_sem,d0,d1,d2];try rfl) rfl ?_;exact⟨R.out,K5.out⟩
end
section
set_option maxRecDepth 100000
open Go.ChangeShapes Go.WideShapes Go.ChangeAt Go.RowKit
end
section
set_option maxRecDepth 100000
open Go.ChangeShapes Go.WideShapes Go.ChangeAt Go.RowKit
def NoneAt (w:World) (v:Value):Prop:=∀w',New w w'→Calls Tryz.prog 38 #[v] w' fun e w''=>e=.returned (.bool true)∧w'=w''
theorem NoneAt.nil (w:World):NoneAt w (.pointer none):=fun w' _=>cNone_nil w'
theorem NoneAt.zero (w:World) (g:Nat) (c8:w.cell? ⟨g,8,none⟩=some Value.nilFunc):NoneAt w (.pointer (some ⟨g,0,none⟩)):=fun w' h=>cNone_zero g w' (h.cell c8 fun f=>f)
theorem NoneAt.new {w w':World} {v:Value} (h:NoneAt w v) (hk:New w w'):NoneAt w' v:=fun w2 h2=>h w2 (hk.new h2)
theorem zRefuses (v:Value) (b p:Int) (w:World) (h:Hid (NoneAt w v)):
  Calls Tryz.prog 42 #[v,.int .i64 b,.int .i64 p] w fun e w'=>e=.returned (.int .i64 1)∧w=w':=by
 go_enter Tryz.func42,Tryz.ntmps42;go_wp2_with fail;refine (h.out _ kR).mono ?_;rintro e w' ⟨rfl,rfl⟩;go_wp2;go_ret;exact⟨rfl,rfl⟩
theorem zRead (v:Value) (b p:Int) (w:World) (h:Hid (NoneAt w v)):
  Calls Tryz.prog 32 #[v,.int .i64 b,.int .i64 p] w fun e w'=>e=.returned (.tuple #[.slice none 0 0,.int .i64 1])∧w=w':=by
 go_enter Tryz.func32,Tryz.ntmps32;go_wp2_with fail;refine (zRefuses v b p _ h).mono ?_;rintro e w' ⟨rfl,rfl⟩;go_wp2;go_ret2;exact⟨rfl,rfl⟩
end
end Go.Proofs.YtbiihjdjbknibaaGreat
