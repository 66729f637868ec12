/-
  Layer 7: contracts (Jd Jf Jw).
-/
import Derived.Test.YtbiihjdjbknibaaGreatC42
namespace Go.Proofs.YtbiihjdjbknibaaGreat
set_option maxRecDepth 100000
set_option maxHeartbeats 8000000
set_option linter.unusedSimpArgs false
set_option linter.unusedVariables false
section
set_option maxRecDepth 100000
open Go.RowKit
def pdL (n:Int) (q:Nat):List Nat:=if q=0 then [] else sPutL n 3 (leB q 8)
def pdE (n:Int) (q:Nat):Int:=if q=0 then 2 else sPutE n 3 (leB q 8)
def gdV (l:List Nat):Nat:=if l.length=8 then leV l else 0
def gdE (l:List Nat):Int:=if gdV l=0 then 5 else 0
theorem sz8:isSz 8:=.inr (.inr (.inr rfl))
theorem fit8 {q:Nat} (h:q < 18446744073709551616):fitB q 8=true:=decide_eq_true h
theorem leB8_len (q:Nat):(leB q 8).length=8:=leB_length q 8
theorem rputDrop_any (n:Int) (q:Nat) (w:World) (hq:q < 18446744073709551616):
  Calls Tryz.prog 49 #[.int .i64 n,.int .u64 q] w (RetB w (pdL n q) (pdE n q)):=by
 by_cases h0:q=0
 ·subst h0;have E:Hid (RetB w (pdL n 0) (pdE n 0) (Ending.returned (.tuple #[.slice none 0 0,.int .i64 2])) w):=RetB.nil _ _ _ kR;go_enter Tryz.func49,Tryz.ntmps49;go_wp2;go_ret2;exact E.out
 ·have HE:Hid (pdL n q=sPutL n 3 (leB q 8)∧pdE n q=sPutE n 3 (leB q 8)):=⟨by unfold pdL;rw[if_neg h0],by unfold pdE;rw[if_neg h0]⟩
  have HN:Hid (∀u,Calls Tryz.prog 47 #[.int .u64 q,.int .i64 8] u (RetB u (leB q 8) 0)):=fun u=>by
   have:=rput_any q 8 u hq
   rwa [show putL q 8=leB q 8 by unfold putL;rw[if_pos ⟨sz8,fit8 hq⟩];rfl,show putE q 8=0 by unfold putE;rw[if_pos ⟨sz8,fit8 hq⟩]] at this
  have HL:=jH (leB8_len q);have d:((q:Int) == 0)=false:=beq_eq_false_iff_ne.2 (by omega);rw[HE.out.1,HE.out.2];clear h0 HE;generalize leB q 8=b at *;go_enter Tryz.func49,Tryz.ntmps49;go_wp2_with fail;refine (HN.out _).mono ?_;rintro e w1 ⟨A1,c1,rfl,o1,k1⟩;rw[HL.out]
  have O1:Hid (Bts w1 A1 8 b):=by have:=o1.bts;rwa [HL.out] at this
  have K1:=jH k1;clear o1 k1 HN;go_wp2_with fail;refine (rPut_any n 3 A1 8 c1 b _ O1.out (by unfold maxLen;omega)).mono ?_;rintro e w2 ⟨A2,c2,rfl,o2,k2⟩;have E:Hid (RetB w (sPutL n 3 b) (sPutE n 3 b) (.returned (.tuple #[.slice A2 (sPutL n 3 b).length c2,.int .i64 (sPutE n 3 b)])) w2):=⟨A2,c2,rfl,o2.mono K1.out.size,K1.out.new k2⟩;clear o2 k2 O1;generalize sPutL n 3 b=pl at *;generalize sPutE n 3 b=pe at *;go_wp2;go_ret2;exact E.out
def NumP (w:World) (v:Nat) (E:Int) (e:Ending) (w':World):Prop:=e=.returned (.tuple #[.int .u64 (v:Nat),.int .i64 E])∧New w w'
theorem num_5 {w u:World} {gv:Nat} {ge:Int} (h1:gv=0) (h2:ge=5) (k:New w u):NumP w gv ge (.returned (.tuple #[.int .u64 0,.int .i64 5])) u:=by subst h1 h2;exact⟨rfl,k⟩
theorem num_0 {w u:World} {gv:Nat} {ge:Int} (h2:ge=0) (k:New w u):NumP w gv ge (.returned (.tuple #[.int .u64 (gv:Nat),.int .i64 0])) u:=by subst h2;exact⟨rfl,k⟩
theorem gd_take {l:List Nat} (h:l.length=8):takeV l 8=leV l∧takeE l 8=0∧takeL l 8=[]:=by
 have e:((8:Int)).toNat=8:=rfl;unfold takeV takeE takeL;rw[if_pos sz8,if_pos sz8,if_pos sz8,e,if_pos (by omega),if_pos (by omega),if_pos (by omega),List.take_of_length_le (by omega),List.drop_of_length_le (by omega)];exact⟨rfl,rfl,rfl⟩
theorem gd_more {l:List Nat} (h:8 < l.length):takeE l 8=0∧0 < (takeL l 8).length:=by
 have e:((8:Int)).toNat=8:=rfl;unfold takeE takeL;rw[if_pos sz8,if_pos sz8,e,if_pos (by omega),if_pos (by omega),List.length_drop];exact⟨rfl,by omega⟩
theorem gd_less {l:List Nat} (h:l.length < 8):takeE l 8=4:=by
 have e:((8:Int)).toNat=8:=rfl;unfold takeE;rw[if_pos sz8,e,if_neg (by omega)]
theorem gd_eq {l:List Nat} (h:l.length=8):gdV l=leV l:=by unfold gdV;rw[if_pos h]
theorem gd_ne {l:List Nat} (h:l.length≠8):gdV l=0∧gdE l=5:=by
 have:gdV l=0:=by unfold gdV;rw[if_neg h]
 exact⟨this,by unfold gdE;rw[if_pos this]⟩
theorem getDrop_any (A:Option Addr) (n c:Nat) (l:List Nat) (w:World) (ha:Bts w A n l) (hn:n≤140737488351232) (hA:A=none→c=0∧n=0):
  Calls Tryz.prog 102 #[.slice A n c] w (NumP w (gdV l) (gdE l)):=by
 have hl:l.length=n:=ha.1;have HT1:Hid (l.length=8→_):=gd_take (l:=l);have HT2:Hid (8 < l.length→_):=gd_more (l:=l);have HT3:Hid (l.length < 8→_):=gd_less (l:=l);have HV:Hid (l.length=8→gdV l=leV l):=gd_eq;have HX:Hid (l.length≠8→gdV l=0∧gdE l=5):=gd_ne;have HE:Hid (gdE l=if gdV l=0 then 5 else 0):=rfl
 have CN:=fun u hu=>jH (new_any A n c l u (ha.new hu) hn hA)
 have HLN:=jH hl;clear ha hA hl;generalize gdV l=gv at *;generalize gdE l=ge at *;go_enter Tryz.func102,Tryz.ntmps102;go_wp2_with fail;refine (CN _ kR).out.mono ?_;rintro e w1 ⟨g,rfl,r1,hg,k1⟩;have K1:=jH k1;have hlt1:=r1.at_.lt;obtain⟨w2,hw2⟩:∃w2,w2=w1.alloc (.cells #[.pointer (some ⟨g,0,none⟩)] 198):=⟨_,rfl⟩
 have n2:New w1 w2:=by rw[hw2];exact kR.alloc _
 have B2:Hid (Blk w2 w1.heap.size 198 [.pointer (some ⟨g,0,none⟩)]):=by rw[hw2];exact Blk.made w1 _ _
 have R2:=jH (r1.new n2);have K2:=jH (K1.out.new n2);have HG:=jH hg;have HW2:=jH hw2;clear r1 k1 CN n2 hw2 hg K1;have a0:=B2.out.q0;go_wp2_with fail;rw[←HW2.out];clear HW2
 have hgn:w1.heap.size≠g:=by omega
 refine (etake_any g l 8 _ R2.out).mono ?_;rintro e w3 ⟨rfl,r3,k3⟩;have B3:=jH (B2.out.kept k3 hgn)
 have K3:Hid (New w w3):=K2.out.trans k3 fun i hi e=>by have:=HG.out;omega
 have R3:=jH r3;clear r3 k3 R2 K2 B2 a0;have a0:=B3.out.q0;have CL:=jH (eleft_any g _ _ R3.out)
 rcases Nat.lt_trichotomy n 8 with h8|h8|h8
 ·have e3:=HT3.out (by have:=HLN.out;omega);obtain⟨v1,v2⟩:=HX.out (by have:=HLN.out;omega);rw[e3];have HZ:=jH (num_5 v1 v2 K3.out);clear v1 v2 HT1 HT2 HT3 HV HX HE CL;generalize takeV l 8=tv at *;go_wp2;go_ret2;exact HZ.out
 ·obtain⟨e1,e2,e3⟩:=HT1.out (by have:=HLN.out;omega);have hv:=HV.out (by have:=HLN.out;omega);have he:=HE.out;rw[e1,e2,←hv]
  have CL':Hid (Calls Tryz.prog 127 #[.pointer (some ⟨g,0,none⟩)] w3 fun e w'=>e=.returned (.int .i64 0)∧w3=w'):=by
   have:=CL.out
   rw[e3] at this;exact this
  clear HT1 HT2 HT3 HV HX HE CL hv e1 e2 e3
  by_cases h0:gv=0
  ·rw[if_pos h0] at he;have HZ:=jH (num_5 h0 he K3.out);clear he;rw[h0];go_wp2;go_ret2;exact HZ.out
  ·rw[if_neg h0] at he;have HZ:=jH (num_0 (gv:=gv) he K3.out);clear he;have d:((gv:Int) == 0)=false:=beq_eq_false_iff_ne.2 (by omega);clear h0
   go_wp2_with (go_at_call 127;refine CL'.out.mono ?_;rintro e w4 ⟨rfl,rfl⟩)
   go_ret2;exact HZ.out
 ·obtain⟨e1,e2⟩:=HT2.out (by have:=HLN.out;omega);obtain⟨v1,v2⟩:=HX.out (by have:=HLN.out;omega);rw[e1];have HZ:=jH (num_5 v1 v2 K3.out);clear v1 v2 HT1 HT2 HT3 HV HX HE;generalize (takeL l 8).length=tn at *;generalize takeV l 8=tv at *
  by_cases h0:tv=0
  ·subst h0;go_wp2;go_ret2;exact HZ.out
  ·have d:((tv:Int) == 0)=false:=beq_eq_false_iff_ne.2 (by omega);clear h0
   go_wp2_with (go_at_call 127;refine CL.out.mono ?_;rintro e w4 ⟨rfl,rfl⟩)
   go_ret2;exact HZ.out
theorem rtake_bare (g:Nat) (A:Option Addr) (c:Nat) (l:List Nat) (s:Nat) (w:World) (h1:Blk w g 145 [.slice A l.length c,.bool false]) (h2:Bts w A l.length l) (_h4:l.length≤c) (_h5:c≤maxLen) (hs:isSz s) (hl:s≤l.length):
  Calls Tryz.prog 73 #[.pointer (some ⟨g,0,none⟩),.int .i64 s] w
   fun e w'=>e=.returned (.tuple #[.int .u64 (leV (l.take s):Nat),.int .i64 0])∧Kept (·=g) w w':=by
 have h8:s≤8:=by unfold isSz at hs;omega
 have hs1:1≤s:=by unfold isSz at hs;omega
 have hs0:=jH hs;clear hs;have hc0:=h1.cell 0;have hc1:=h1.cell 1;have hf:=h1.free 0;simp only[List.getElem?_cons_succ,List.getElem?_cons_zero] at hc0 hc1;unfold maxLen at _h5;generalize hL:l.length=L at hc0 _h4 hl;have HL:=jH hL;clear hL;clear h1
 have h2':Bts w A L l:=by rw[←HL.out];exact h2
 clear h2;go_enter Tryz.func73,Tryz.ntmps73
 go_wp2_with (go_at_call 80;refine (size_yes _ _ hs0.out).mono ?_;rintro e w' ⟨rfl,rfl⟩)
 go_loop [6,7] (fun n i=>∃k m:Nat,k≤s∧i=.int .i64 ((k:Int) - 1)∧n=.int .u64 m∧Hid (m=leV ((l.take s).drop k))∧m < 256 ^ (s - k)) (fun _ i=>(intOf i+1).toNat)
 case atStart=>
  refine⟨s,0,Nat.le_refl _,rfl,rfl,?_,by simp⟩;rw[Hid,List.drop_eq_nil_of_le (by simp;omega)]
  rfl
 case round=>
  obtain⟨k,m,hk,rfl,rfl,HM,hm⟩:=hrel
  rcases k with _|j
  ·clear h2';go_wp2
   all_goals
    go_ret2;refine⟨?_,Kept.set1 _ _ _ _⟩;have e:=HM.out;simp only[List.drop_zero] at e;rw[←e]
    rfl
  ·obtain⟨ga,o,x,rfl,hx,hxb,hc⟩:=h2'.at_ (k:=j) (by omega)
   have HX:Hid ((l.take s)[j]?=some x):=by rw[Hid,List.getElem?_take,if_pos (by omega)];exact hx
   clear h2' hx
   have e:(((j+1:Nat)):Int) - 1=(j:Int):=by omega
   rw[e];clear e;have hp:256 ^ (s - (j+1))≤256 ^ 7:=Nat.pow_le_pow_right (by omega) (by omega)
   have hm7:m < 72057594037927936:=by
    have:(256:Nat) ^ 7=72057594037927936:=by decide
    omega
   have HMM:=jH hm;clear hp hm;go_wp2
   have h3':256*m+x < 256 ^ (s - j):=by
    have e2:s - j=(s - (j+1))+1:=by omega
    rw[e2,Nat.pow_succ]
    have:=HMM.out
    omega
   go_round
   case rel=>exact⟨j,256*m+x,by omega,by go_num,by go_num,by rw[Hid,leV_drop _ _ _ HX.out,←HM.out];omega,h3'⟩
   case measure=>simp[intOf]
theorem rgetDrop_any (A:Option Addr) (n c:Nat) (l:List Nat) (w:World) (ha:Bts w A n l) (hc:n≤c) (hc2:c≤maxLen):
  Calls Tryz.prog 37 #[.slice A n c] w (NumP w (gdV l) (gdE l)):=by
 have hl:l.length=n:=ha.1
 by_cases h8:n=8
 ·subst h8;have hv:=gd_eq hl;have HE:Hid (gdE l=if gdV l=0 then 5 else 0):=rfl;obtain⟨w1,hw1⟩:∃w1,w1=w.alloc (.cells #[.slice A 8 c,.bool false] 145):=⟨_,rfl⟩
  have n1:New w w1:=by rw[hw1];exact kR.alloc _
  have R1:=jH (rtake_bare w.heap.size A c l 8 w1 (by rw[hw1,hl];exact Blk.made w _ _) (by rw[hl];exact ha.new n1) (by omega) hc2 sz8 (by omega))
  have e4:leV (l.take 8)=gdV l:=by rw[hv,List.take_of_length_le (by omega)]
  rw[e4] at R1;have HW1:=jH hw1;have N1:=jH n1;clear hw1 n1 ha hv hl e4;generalize gdV l=gv at *;generalize gdE l=ge at *;go_enter Tryz.func37,Tryz.ntmps37;go_wp2_with fail;rw[←HW1.out];clear HW1;refine R1.out.mono ?_;rintro e w2 ⟨rfl,k2⟩
  have K2:Hid (New w w2):=N1.out.trans k2 fun i hi e=>by omega
  clear k2 R1 N1
  by_cases h0:gv=0
  ·have he:=HE.out.trans (if_pos h0);have HZ:=jH (num_5 h0 he K2.out);clear he HE;rw[h0];go_wp2;go_ret2;exact HZ.out
  ·have he:=HE.out.trans (if_neg h0);have HZ:=jH (num_0 (gv:=gv) he K2.out);clear he HE;have d:((gv:Int) == 0)=false:=beq_eq_false_iff_ne.2 (by omega);clear h0;go_wp2;go_ret2;exact HZ.out
 ·obtain⟨v1,v2⟩:=gd_ne (l:=l) (by omega);have d:((n:Int) == 8)=false:=beq_eq_false_iff_ne.2 (by omega);rw[v1,v2];unfold maxLen at hc2;clear ha hl v1 v2 h8;go_enter Tryz.func37,Tryz.ntmps37;go_wp2;go_ret2;exact⟨rfl,kR⟩
end
section
set_option maxRecDepth 100000
open Go.RowKit
def FarS (m n:Nat) (b:Nat):Prop:=b < m∨n≤b
def OutSt (w wv:World) (m:Nat) (wc:World) (A:Option Addr) (c:Nat) (l:List Nat):Prop:=
 OwnB wc 5 w.heap.size A c l∧New w wc∧Kept (FarS m wv.heap.size) wv wc∧(∀a,A=some a→FarS m wv.heap.size a.block)∧wv.heap.size≤wc.heap.size
section
variable {w wv wr wc w':World} {m c c2:Nat} {A A2:Option Addr} {l k:List Nat}
theorem OutSt.start (V:OwnB wr 5 w.heap.size A c l) (VN:New w wr) (K:New wr wv):OutSt w wv wr.heap.size wv A c l:=
 ⟨V.new K,VN.new K,kR,fun a ha=>.inl (V.at_ a ha).1.lt,Nat.le_refl _⟩
theorem OutSt.alloc (h:OutSt w wv m wc A c l) (o:Obj):OutSt w wv m (wc.alloc o) A c l:=
 ⟨h.1.new (kR.alloc _),h.2.1.alloc _,h.2.2.1.alloc _,h.2.2.2.1,by simp;have:=h.2.2.2.2;omega⟩
theorem OutSt.app (h:OutSt w wv m wc A c l) (o:OwnB w' 5 w.heap.size A2 c2 (l++k)) (g:wc.grownBy w' (A.map (·.block))) (d:A2=A∨A2=some ⟨wc.heap.size,0,none⟩):OutSt w wv m w' A2 c2 (l++k):=by
 have hK:Kept (FarS m wv.heap.size) wv w':=h.2.2.1.grown g fun q _ e=>by
  obtain⟨a,ha,rfl⟩:=Option.map_eq_some_iff.1 e;exact h.2.2.2.1 a ha
 refine⟨o,Kept.of_own h.2.1 h.1 g,hK,fun a ha=>?_,hK.size⟩
 rcases d with rfl|rfl
 ·exact h.2.2.2.1 a ha
 ·injection ha with ha;subst ha;exact .inr h.2.2.2.2
theorem OutSt.bts (h:OutSt w wv m wc A c l) {A5:Option Addr} {c5:Nat} (o:OwnB wv 5 m A5 c5 k):Bts wc A5 k.length k:=
 o.bts.kept h.2.2.1 fun a ha hf=>by
  obtain⟨h1,h2⟩:=o.at_ a ha
  have:=h1.lt
  rcases hf with hf|hf<;>omega
end
theorem rMay11_any (A:Option Addr) (n c:Nat) (es:List CE) (w:World) (h:CIn w A n es) (hn:n≤maxLen):
  Calls Tryz.prog 81 #[.slice A n c] w (NewBool w (tlOk (cts es))):=by
 have HL:Hid ((cts es).length=n):=by rw[Hid,cts_lenE,h.len]
 have H:=jH h;unfold maxLen at hn;have HNO:Hid ((¬(1≤(cts es).length∧(cts es).length≤255)∨∃f∈cts es,mayC f=false)→tlOk (cts es)=false):=tlOk_no;have HYES:Hid (1≤(cts es).length→(cts es).length≤255→(∀f∈cts es,mayC f=true)→tlOk (cts es)=true):=tlOk_of;clear h;generalize tlOk (cts es)=r at *
 by_cases hn1:1≤n
 ·by_cases hn2:n≤255
  ·have d0:decide ((n:Int) < 1)=false:=decide_eq_false (by omega);have d1:decide (255 < (n:Int))=false:=decide_eq_false (by omega);go_enter Tryz.func81,Tryz.ntmps81;go_wp2_with fail
   go_loopw [3] (fun i wr=>∃(k:Nat),k≤n∧i=.int .i64 k∧Hid (∀f∈(cts es).take k,mayC f=true)∧Hid (New w wr)) (fun i _=>n - (intOf i).toNat)
   case atStart=>exact⟨0,Nat.zero_le _,rfl,(fun f hf=>by simp at hf),kR⟩
   case round=>
    obtain⟨k,hk,rfl,VM,VN⟩:=hrel
    by_cases hlt:k < n
    ·obtain⟨g,o,x,eA,hx,x0,x1,x2,x3,x4,x5⟩:=(rowC_at (H.out.new VN.out).1 (i:=k) hlt);have hok:COk wr x:=(H.out.new VN.out).2 x (List.mem_of_getElem? hx);subst eA
     have hfx:(cts es)[k]?=some x.f:=by unfold cts;rw[List.getElem?_map,hx];rfl
     have CM:Hid (∀u,Calls Tryz.prog 106 #[.agg #[.int .i64 x.f.k.i,.int .u8 (x.f.k.t:Nat),.string x.f.k.n,.int .i64 x.f.k.c,.slice x.A x.f.v.length x.c,.bool x.f.g]] u (NewBool u (mayC x.f))):=fun u=>rcmay_any x.f x.A x.c u hok.2.2.2 (by have:=hok.2.2.1;unfold maxLen;omega)
     have HBX:Hid (mayC x.f=true→∀f∈(cts es).take (k+1),mayC f=true):=fun hm=>take_next hfx hm VM.out
     have HBN:Hid (mayC x.f=false→r=false):=fun hm=>HNO.out (.inr ⟨x.f,List.mem_of_getElem? hfx,hm⟩)
     clear hx hok hfx VM;obtain⟨fx,Ax,cx⟩:=x;obtain⟨kx,vx,gx⟩:=fx
     dsimp only at *
     generalize mayC ⟨kx,vx,gx⟩=b at *;obtain⟨ki,kt,kn,kc⟩:=kx
     dsimp only at *
     generalize vx.length=vn at *
     have s1:(0:Int)≤(k:Int):=by omega
     have s3:(k:Int) < (n:Int):=by omega
     go_wp2_with fail;refine (CM.out _).mono ?_;rintro e w3 ⟨rfl,k3⟩;have N3:=jH (VN.out.new k3);clear k3 CM x0 x1 x2 x3 x4 x5;cases b
     ·have E:=HBN.out rfl;clear HBX HBN VN;go_wp2;go_ret;exact⟨ret_bool E.symm,N3.out⟩
     ·have HALL:=jH (HBX.out rfl);clear HBX HBN VN;go_wp2;go_roundw
      case rel=>exact⟨k+1,by omega,by go_num,HALL,N3⟩
      case measure=>simp[intOf];omega
    ·have E9:Hid (r=true):=by
      have hm:=VM.out;rw[List.take_of_length_le (by rw[HL.out];omega)] at hm;exact HYES.out (by rw[HL.out];omega) (by rw[HL.out];omega) hm
     clear VM;go_wp2;go_ret;exact⟨ret_bool E9.out.symm,VN.out⟩
  ·have d0:decide ((n:Int) < 1)=false:=decide_eq_false (by omega);have d1:decide (255 < (n:Int))=true:=decide_eq_true (by omega);have E:=jH (HNO.out (.inl (by rw[HL.out];omega)));clear hn2;go_enter Tryz.func81,Tryz.ntmps81;go_wp2;go_ret;exact⟨ret_bool E.out.symm,kR⟩
 ·obtain rfl:n=0:=by omega
  have E:=jH (HNO.out (.inl (by rw[HL.out];omega)));clear hn1;go_enter Tryz.func81,Tryz.ntmps81;go_wp2;go_ret;exact⟨ret_bool E.out.symm,kR⟩
theorem chB_g {f:CT} (h:f.g=true) (b:List Nat):b++chB f=b++[0]++keyB f.k:=by unfold chB;rw[if_pos h];simp
theorem chB_v {f:CT} (h:f.g=false) (h2:f.v.length≤255) (b:List Nat):b++chB f=b++[1]++keyB f.k++(f.v.length::f.v):=by unfold chB rowL;rw[if_neg (by rw[h];decide),if_pos h2];simp
theorem rbody11_any (A:Option Addr) (n c:Nat) (es:List CE) (w:World) (h:CIn w A n es) (hok:tlOk (cts es)=true):
  Calls Tryz.prog 82 #[.slice A n c] w (RetL w (rbK (cts es) (cts es).length)):=by
 obtain⟨i0,hi,hz0,hz1,hz2⟩:=info_parts info_u8
 have HL:Hid ((cts es).length=n):=by rw[Hid,cts_lenE,h.len]
 have H:=jH h;obtain⟨hn1,hn2,hall⟩:=tlOk_all hok;rw[HL.out] at hn1 hn2;have HALL:=jH hall;clear h hok hall
 have u8n:IntKind.u8.wrap (n:Int)=(n:Int):=by rw[IntKind.wrap_u8];omega
 have O1:Hid (OwnB (w.alloc (.cells #[.int .u8 (n:Int)] 5)) 5 w.heap.size (some ⟨w.heap.size,0,none⟩) 1 (rbK (cts es) 0)):=by
  have:rbK (cts es) 0=[n]:=by unfold rbK;rw[HL.out];rfl
  rw[Hid,this];exact OwnB.of_blk (l:=[n]) (sp:=[]) (Blk.made w 5 _) (Nat.le_refl _) (by simp;omega) (by simp) (by unfold maxLen;omega)
 go_enter Tryz.func82,Tryz.ntmps82;go_wp2_with fail
 go_loopw [3,4] (fun o i wr=>∃(k:Nat) (A':Option Addr) (c':Nat),k≤n∧i=.int .i64 k∧o=.slice A' (rbK (cts es) k).length c'∧Hid (OwnB wr 5 w.heap.size A' c' (rbK (cts es) k))∧Hid (New w wr)) (fun _ i _=>n - (intOf i).toNat)
 case atStart=>exact⟨0,_,1,Nat.zero_le _,rfl,rfl,O1,kR.alloc _⟩
 case round=>
  obtain⟨k,A',c',hk,rfl,rfl,VO,VN⟩:=hrel;clear O1
  by_cases hlt:k < n
  ·obtain⟨g,o,x,eA,hx,_,_,_,_,_,_⟩:=(rowC_at (H.out.new VN.out).1 (i:=k) hlt);have hok:COk wr x:=(H.out.new VN.out).2 x (List.mem_of_getElem? hx);subst eA
   have S6:Hid (∀u,New w u→u.cell? ⟨g,o+k*6,none⟩=some (.int .i64 x.f.k.i)∧u.cell? ⟨g,o+k*6+1,none⟩=some (.int .u8 (x.f.k.t:Nat))∧u.cell? ⟨g,o+k*6+2,none⟩=some (.string x.f.k.n)∧u.cell? ⟨g,o+k*6+3,none⟩=some (.int .i64 x.f.k.c)∧u.cell? ⟨g,o+k*6+4,none⟩=some (.slice x.A x.f.v.length x.c)∧u.cell? ⟨g,o+k*6+5,none⟩=some (.bool x.f.g)):=fun u hu=>by
    obtain⟨g',o',y',eA',hy',z0,z1,z2,z3,z4,z5⟩:=rowC_at (H.out.new hu).1 (i:=k) hlt
    injection eA' with eA'
    injection eA' with e1 e2
    subst e1 e2;rw[hx] at hy'
    injection hy' with hy'
    subst hy';exact⟨z0,z1,z2,z3,z4,z5⟩
   have hfx:(cts es)[k]?=some x.f:=by unfold cts;rw[List.getElem?_map,hx];rfl
   have hmx:=HALL.out x.f (List.mem_of_getElem? hfx);obtain⟨hmk,hv5,_,_⟩:=mayC_parts hmx;have HBL:=jH (rbK_len (l:=cts es) (k:=k) (by omega) fun f hf=>HALL.out f (List.mem_of_mem_take hf))
   have HKL:Hid ((keyB x.f.k).length≤16):=by have:=pkL_len x.f.k;rwa [(pk_yes hmk).1] at this
   have CK:Hid (∀u,Calls Tryz.prog 107 #[.agg #[.int .i64 x.f.k.i,.int .u8 (x.f.k.t:Nat),.string x.f.k.n,.int .i64 x.f.k.c]] u (RetB u (keyB x.f.k) 0)):=fun u=>by
    have:=rputKey_any x.f.k u hok.2.2.2
    rwa [(pk_yes hmk).1,(pk_yes hmk).2] at this
   have CR:Hid (∀u,New wr u→Calls Tryz.prog 108 #[.slice x.A x.f.v.length x.c] u (RetB u (x.f.v.length::x.f.v) 0)):=fun u hu=>by
    have:=rrow_any x.A x.f.v.length x.c x.f.v u (hok.1.new hu) (by unfold maxLen;omega)
    rwa [show rowL x.f.v=x.f.v.length::x.f.v by unfold rowL;rw[if_pos hv5],show rowE x.f.v=0 by unfold rowE;rw[if_pos hv5]] at this
   have HG:Hid (x.f.g=true→rbK (cts es) (k+1)=rbK (cts es) k++[0]++keyB x.f.k):=fun hg=>(rbK_next hfx).trans (chB_g hg _)
   have HV:Hid (x.f.g=false→rbK (cts es) (k+1)=rbK (cts es) k++[1]++keyB x.f.k++(x.f.v.length::x.f.v)):=fun hg=>(rbK_next hfx).trans (chB_v hg hv5 _)
   have HVL:=jH hv5;clear hx hok hfx hmx hmk hv5;obtain⟨fx,Ax,cx⟩:=x;obtain⟨kx,vx,gx⟩:=fx
   dsimp only at *
   generalize keyB kx=kb at *;obtain⟨ki,kt,kn,kc⟩:=kx
   dsimp only at *
   generalize hvn:vx.length=vn at *;have HVN:=jH hvn;clear hvn
   have s1:(0:Int)≤(k:Int):=by omega
   have s3:(k:Int) < (n:Int):=by omega
   obtain⟨q0,q1,q2,q3,q4,q5⟩:=S6.out wr VN.out;go_wp2_with fail;refine (CK.out _).mono ?_;rintro e w2 ⟨A2,c2,rfl,o2,k2⟩;have K2:=jH k2;have O2:=jH o2;clear k2 o2 CK q0 q1 q2 q3 q4 q5;obtain⟨_,_,_,_,q4,q5⟩:=S6.out w2 (VN.out.new K2.out);have hbl:=HBL.out;have hkl:=HKL.out;have hvl:=HVL.out;cases gx
   ·have HV':=jH (HV.out rfl);clear HG HV;go_wp2_with fail;refine (CR.out _ K2.out).mono ?_;rintro e w3 ⟨A3,c3,rfl,o3,k3⟩
    have HL3:Hid ((vn::vx).length=vn+1):=by rw[Hid,List.length_cons,HVN.out]
    rw[HL3.out];have hl3:=HL3.out;have K3:Hid (New wr w3):=K2.out.new k3;have O3:Hid (OwnB w3 5 wr.heap.size A3 c3 (vn::vx)):=o3.mono K2.out.size;have O2':=jH (O2.out.new k3);have S0:=jH (OutSt.start VO.out VN.out K3.out);clear o3 k3 O2 K2 q4 q5 CR S6;have hsz:w.heap.size≤w3.heap.size:=S0.out.2.1.size
    go_wp2_with (at_builtin;refine wpList_append_bytes _ rfl _ _ _ rfl 5 i0 Tryz.underlying52 hi hz0 hz1 hz2 w.heap.size A' (rbK (cts es) k).length c' (rbK (cts es) k) rfl (S0.out.alloc _).1 rfl (some ⟨w3.heap.size,0,none⟩) 1 1 [1] rfl (Bts.one _ _ 1 _ (by decide) rfl) ?_ ?_ ?_)
    ·omega
    ·simp;omega
    intro A5 c5 w5 o5 g5 d5;have S1:Hid (OutSt w w3 wr.heap.size w5 A5 c5 (rbK (cts es) k++[1])):=(S0.out.alloc _).app o5 g5 (by rcases d5 with d|d;exact .inl d;exact .inr (d.trans (by simp)))
    have hl5:(rbK (cts es) k++[1]).length=(rbK (cts es) k).length+1:=by rw[List.length_append];rfl
    have HL5:=jH hl5;clear o5 g5 d5 S0
    go_wp2_with (at_builtin;refine wpList_append_bytes _ rfl _ _ _ rfl 5 i0 Tryz.underlying52 hi hz0 hz1 hz2 w.heap.size A5 ((rbK (cts es) k).length+1) c5 (rbK (cts es) k++[1]) rfl S1.out.1 HL5.out.symm A2 kb.length c2 kb rfl (S1.out.bts O2'.out) ?_ S1.out.2.1.size ?_)
    ·omega
    intro A6 c6 w6 o6 g6 d6
    have o6:OwnB w6 5 w.heap.size A6 c6 (rbK (cts es) k++[1]++kb):=by rw[List.append_assoc];exact o6
    have S2:=jH (S1.out.app o6 g6 d6)
    have hl6:(rbK (cts es) k++[1]++kb).length=(rbK (cts es) k).length+1+kb.length:=by rw[List.length_append,HL5.out]
    have HL6:=jH hl6
    have B3:Hid (Bts w6 A3 (vn+1) (vn::vx)):=by have:=S2.out.bts O3.out;rwa [HL3.out] at this
    clear o6 g6 d6 S1 hl5
    go_wp2_with (at_builtin;refine wpList_append_bytes _ rfl _ _ _ rfl 5 i0 Tryz.underlying52 hi hz0 hz1 hz2 w.heap.size A6 ((rbK (cts es) k).length+1+kb.length) c6 (rbK (cts es) k++[1]++kb) rfl S2.out.1 HL6.out.symm A3 (vn+1) c3 (vn::vx) rfl B3.out ?_ S2.out.2.1.size ?_)
    ·omega
    intro A7 c7 w7 o7 g7 d7
    have o7:OwnB w7 5 w.heap.size A7 c7 (rbK (cts es) k++[1]++kb++(vn::vx)):=by simpa using o7
    have S3:=jH (S2.out.app o7 g7 d7)
    have E1:Hid (OwnB w7 5 w.heap.size A7 c7 (rbK (cts es) (k+1))):=by rw[Hid,HV'.out];exact S3.out.1
    have E2:Hid (New w w7):=S3.out.2.1
    have E3:Hid ((rbK (cts es) k).length+1+kb.length+(vn+1)=(rbK (cts es) (k+1)).length):=by rw[Hid,HV'.out,List.length_append,HL6.out,HL3.out]
    clear o7 g7 d7 S2 S3 hl6 hl3 VO VN;go_wp2;go_roundw
    case rel=>exact⟨k+1,A7,c7,by omega,by go_num,by rw[E3.out],E1,E2⟩
    case measure=>simp[intOf];omega
   ·have HV':=jH (HG.out rfl);clear HG HV;have S0:=jH (OutSt.start VO.out VN.out K2.out);have hsz:w.heap.size≤w2.heap.size:=S0.out.2.1.size
    go_wp2_with (at_builtin;refine wpList_append_bytes _ rfl _ _ _ rfl 5 i0 Tryz.underlying52 hi hz0 hz1 hz2 w.heap.size A' (rbK (cts es) k).length c' (rbK (cts es) k) rfl (S0.out.alloc _).1 rfl (some ⟨w2.heap.size,0,none⟩) 1 1 [0] rfl (Bts.one _ _ 0 _ (by decide) rfl) ?_ ?_ ?_)
    ·omega
    ·simp;omega
    intro A5 c5 w5 o5 g5 d5;have S1:Hid (OutSt w w2 wr.heap.size w5 A5 c5 (rbK (cts es) k++[0])):=(S0.out.alloc _).app o5 g5 (by rcases d5 with d|d;exact .inl d;exact .inr (d.trans (by simp)))
    have hl5:(rbK (cts es) k++[0]).length=(rbK (cts es) k).length+1:=by rw[List.length_append];rfl
    have HL5:=jH hl5;clear o5 g5 d5 S0 q4 q5
    go_wp2_with (at_builtin;refine wpList_append_bytes _ rfl _ _ _ rfl 5 i0 Tryz.underlying52 hi hz0 hz1 hz2 w.heap.size A5 ((rbK (cts es) k).length+1) c5 (rbK (cts es) k++[0]) rfl S1.out.1 HL5.out.symm A2 kb.length c2 kb rfl (S1.out.bts O2.out) ?_ S1.out.2.1.size ?_)
    ·omega
    intro A6 c6 w6 o6 g6 d6
    have o6:OwnB w6 5 w.heap.size A6 c6 (rbK (cts es) k++[0]++kb):=by rw[List.append_assoc];exact o6
    have S2:=jH (S1.out.app o6 g6 d6)
    have E1:Hid (OwnB w6 5 w.heap.size A6 c6 (rbK (cts es) (k+1))):=by rw[Hid,HV'.out];exact S2.out.1
    have E2:Hid (New w w6):=S2.out.2.1
    have E3:Hid ((rbK (cts es) k).length+1+kb.length=(rbK (cts es) (k+1)).length):=by rw[Hid,HV'.out,List.length_append,HL5.out]
    clear o6 g6 d6 S1 S2 hl5 VO VN;go_wp2;go_roundw
    case rel=>exact⟨k+1,A6,c6,by omega,by go_num,by rw[E3.out],E1,E2⟩
    case measure=>simp[intOf];omega
  ·have hkn:k=n:=by omega
   have E9:Hid (RetL w (rbK (cts es) (cts es).length) (.returned (.slice A' (rbK (cts es) k).length c')) wr):=by
    rw[Hid,HL.out,←hkn];exact⟨A',c',rfl,VO.out,VN.out⟩
   clear VO VN;go_wp2;go_ret;exact E9.out
theorem tl_body {l:List CT} (h:tlOk l=true):(rbK l l.length).length≤69616:=by
 obtain⟨_,h2,h3⟩:=tlOk_all h
 exact rbK_len h2 fun f hf=>h3 f (List.mem_of_mem_take hf)
theorem pu_yes2 {z:Int} {l:List CT} (h:tlOk l=true):puL z l=sPutL z 2 (rbK l l.length)∧puE z l=sPutE z 2 (rbK l l.length):=by
 unfold puL puE;rw[if_pos h,if_pos h];exact⟨rfl,rfl⟩
theorem rrecPut_any (z:Int) (A:Option Addr) (n c:Nat) (es:List CE) (w:World) (h:CIn w A n es) (hn:n≤maxLen):
  Calls Tryz.prog 50 #[.int .i64 z,.slice A n c] w (RetB w (puL z (cts es)) (puE z (cts es))):=by
 have CM:=fun u hu=>jH (rMay11_any A n c es u (h.new hu) hn)
 have H:=jH h;have HN:Hid (tlOk (cts es)=false→puL z (cts es)=[]∧puE z (cts es)=2):=pu_no;have HY:Hid (tlOk (cts es)=true→puL z (cts es)=sPutL z 2 (rbK (cts es) (cts es).length)∧puE z (cts es)=sPutE z 2 (rbK (cts es) (cts es).length)):=pu_yes2;have HB:Hid (tlOk (cts es)=true→(rbK (cts es) (cts es).length).length≤69616):=tl_body;unfold maxLen at hn;clear h;generalize puL z (cts es)=pl at *;generalize puE z (cts es)=pe at *;go_enter Tryz.func50,Tryz.ntmps50;go_wp2_with fail;refine (CM _ kR).out.mono ?_;rintro e w1 ⟨rfl,k1⟩;have K1:=jH k1;clear k1 CM;cases hb:tlOk (cts es)
 ·have E:=jH (retB_2 (HN.out hb) K1.out);clear HN HY HB hb;go_wp2;go_ret2;exact E.out
 ·have CB:=jH (rbody11_any A n c es w1 (H.out.new K1.out) hb);have hbl:=HB.out hb;obtain⟨e1,e2⟩:=HY.out hb
  have E:Hid (∀e u w2,New w u→RPutP u z 2 (rbK (cts es) (cts es).length) e w2→RetB w pl pe e w2):=fun e u w2 hu ⟨A,c,h1,h2,h3⟩=>by rw[e1,e2];exact⟨A,c,h1,h2.mono hu.size,hu.new h3⟩
  clear HN HY HB hb e1 e2 H;generalize rbK (cts es) (cts es).length=bd at *;go_wp2_with fail;refine CB.out.mono ?_;rintro e w2 ⟨A2,c2,rfl,o2,k2⟩;have K2:=jH (K1.out.new k2);have O2:=jH o2.bts;clear o2 k2 CB K1;go_wp2_with fail;refine (rPut_any z 2 A2 bd.length c2 bd _ O2.out (by unfold maxLen;omega)).mono ?_;rintro e w3 hp;have E2:=jH (E.out e w2 w3 K2.out hp);obtain⟨A3,c3,rfl,_,_⟩:=hp;clear E O2;generalize sPutL z 2 bd=pl2 at *;generalize sPutE z 2 bd=pe2 at *;go_wp2;go_ret2;exact E2.out
end
section
set_option maxRecDepth 100000
open Go.RowKit
end
end Go.Proofs.YtbiihjdjbknibaaGreat
