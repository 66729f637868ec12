/-
  Layer 7: contracts (Sm Sb).
-/
import Derived.Test.YtbiihjdjbknibaaGreatC04
import Derived.Laws.BitsAllLaws
import Derived.Laws.BytesArg
namespace Go.Proofs.YtbiihjdjbknibaaGreat
set_option maxRecDepth 100000
set_option maxHeartbeats 8000000
set_option linter.unusedSimpArgs false
set_option linter.unusedVariables false
section
set_option maxRecDepth 100000
def nzk (x:Nat):Nat→Nat
 | 0=>0
 | k+1=>nzk x k+(1 - x / 2 ^ k % 2)
def nz (x:Nat):Nat:=nzk x 8
def noughts:List Nat→Nat
 | []=>0
 | x::r=>nz x+noughts r
def blank (l:List Nat):Bool:=l.all (· == 255)
theorem nzk_le (x k:Nat):nzk x k≤k:=by
 induction k with
 | zero=>simp[nzk]
 | succ k ih=>simp only[nzk];omega
theorem nz_le (x:Nat):nz x≤8:=nzk_le x 8
theorem noughts_append (a b:List Nat):noughts (a++b)=noughts a+noughts b:=by
 induction a with
 | nil=>simp[noughts]
 | cons x r ih=>simp[noughts,ih,Nat.add_assoc]
theorem noughts_le (l:List Nat):noughts l≤8*l.length:=by
 induction l with
 | nil=>simp[noughts]
 | cons x r ih=>have:=nz_le x;simp only[noughts,List.length_cons];omega
theorem noughts_take (l:List Nat) (k x:Nat) (hx:l[k]?=some x):noughts (l.take (k+1))=noughts (l.take k)+nz x:=by
 have hk:k < l.length:=(List.getElem?_eq_some_iff.1 hx).1;have e:l[k]=x:=(List.getElem?_eq_some_iff.1 hx).2;rw[List.take_succ_eq_append_getElem hk,noughts_append,e];simp[noughts]
theorem nz_zero_all:∀x:Fin 256,(nz x.val=0)=(x.val=255):=by decide +kernel
theorem nz_zero (x:Nat) (hx:x < 256):nz x=0↔x=255:=by have:=nz_zero_all ⟨x,hx⟩;simpa using this
theorem blank_iff (l:List Nat) (hl:∀x∈l,x < 256):blank l=true↔noughts l=0:=by
 induction l with
 | nil=>simp[blank,noughts]
 | cons x r ih=>
  have h1:=nz_zero x (hl x (by simp))
  have h2:=ih fun y hy=>hl y (by simp[hy])
  simp only[blank,noughts,List.all_cons,Bool.and_eq_true,beq_iff_eq] at *;rw[h2,←h1];omega
theorem blank_eq (l:List Nat) (hl:∀x∈l,x < 256):blank l=decide (noughts l=0):=by
 rw[Bool.eq_iff_iff,blank_iff l hl,decide_eq_true_iff]
theorem blank_take (l:List Nat) (k:Nat) (hx:l[k]?=some 255) (h:blank (l.take k)=true):blank (l.take (k+1))=true:=by
 have hk:k < l.length:=(List.getElem?_eq_some_iff.1 hx).1;have e:l[k]=255:=(List.getElem?_eq_some_iff.1 hx).2;rw[List.take_succ_eq_append_getElem hk,e];simp only[blank,List.all_append,List.all_cons,List.all_nil] at *;simp[h]
theorem blank_no (l:List Nat) (k x:Nat) (hx:l[k]?=some x) (h:x≠255):blank l=false:=by
 rw[blank,Bool.eq_false_iff];intro hb
 have:=List.all_eq_true.1 hb x (List.mem_of_getElem? hx)
 simp at this;exact h this
def under (x y:Nat):Bool:=y &&& (255 - x) == 0
theorem bit_test (x j:Nat):(x / 2 ^ j % 2=1)↔x.testBit j=true:=by
 rw[Nat.testBit_eq_decide_div_mod_eq,decide_eq_true_iff]
theorem bit_two (x j:Nat):x / 2 ^ j % 2=0∨x / 2 ^ j % 2=1:=by omega
theorem bit_zero (x j:Nat):(x / 2 ^ j % 2=0)↔x.testBit j=false:=by
 have h:=bit_test x j
 rcases bit_two x j with h0|h1
 ·simp only[h0,true_iff];rw[Bool.eq_false_iff];intro ht
  have:=h.2 ht
  omega
 ·rw[h.1 h1];simp[h1]
theorem eq_of_bits (x y:Nat) (hx:x < 256) (hy:y < 256) (h:∀j,j < 8→x.testBit j=y.testBit j):x=y:=by
 apply Nat.eq_of_testBit_eq
 intro i
 rcases Nat.lt_or_ge i 8 with hi|hi
 ·exact h i hi
 ·have hp:256≤2 ^ i:=Nat.pow_le_pow_right (n:=2) (by omega) hi;rw[Nat.testBit_lt_two_pow (by omega),Nat.testBit_lt_two_pow (by omega)]
theorem under_iff (x y:Nat) (hx:x < 256):under x y=true↔∀j,j < 8→¬(y.testBit j=true∧x.testBit j=false):=by
 have e:255 - x=2 ^ 8 - (x+1):=by omega
 unfold under;rw[beq_iff_eq,e]
 constructor
 ·intro h j hj ⟨h1,h2⟩
  have:=congrArg (fun z=>z.testBit j) h
  simp only[Nat.testBit_and,Nat.testBit_two_pow_sub_succ (show x < 2 ^ 8 from hx),Nat.zero_testBit,h1,h2] at this;simp[hj] at this
 ·intro h
  apply Nat.eq_of_testBit_eq
  intro j;rw[Nat.testBit_and,Nat.testBit_two_pow_sub_succ (show x < 2 ^ 8 from hx),Nat.zero_testBit]
  rcases Nat.lt_or_ge j 8 with hj|hj
  ·have:=h j hj
   cases hb:y.testBit j<;>cases hc:x.testBit j<;>simp_all
  ·simp[Nat.not_lt.2 hj]
theorem under_or (x y:Nat) (hx:x < 256) (hy:y < 256):under x y=true↔x ||| y=x:=by
 rw[under_iff x y hx]
 constructor
 ·intro h
  apply eq_of_bits _ _ (Nat.or_lt_two_pow (n:=8) hx hy) hx
  intro j hj;rw[Nat.testBit_or]
  have:=h j hj
  cases hb:y.testBit j<;>cases hc:x.testBit j<;>simp_all
 ·intro h j hj ⟨h1,h2⟩
  have:=congrArg (fun z=>z.testBit j) h
  simp only[Nat.testBit_or,h1,h2] at this;cases this
theorem nzk_or (x y:Nat):∀k,nzk (x ||| y) k≤nzk x k∧(nzk (x ||| y) k=nzk x k→∀j,j < k→(x ||| y).testBit j=x.testBit j)
 | 0=>⟨Nat.le_refl _,fun _ j hj=>absurd hj (by omega)⟩
 | k+1=>by
  obtain⟨h1,h2⟩:=nzk_or x y k
  have hb:x / 2 ^ k % 2=1→(x ||| y) / 2 ^ k % 2=1:=fun h=>by
   rw[bit_test] at h ⊢;rw[Nat.testBit_or,h]
   rfl
  have t1:=bit_two x k;have t2:=bit_two (x ||| y) k;simp only[nzk];refine⟨by omega,fun he j hj=>?_⟩
  rcases Nat.lt_or_ge j k with h|h
  ·exact h2 (by omega) j h
  ·obtain rfl:j=k:=by omega
   rcases t1 with t|t
   ·have:(x ||| y) / 2 ^ j % 2=0:=by omega
    rw[(bit_zero _ _).1 this,(bit_zero _ _).1 t]
   ·rw[(bit_test _ _).1 t,(bit_test _ _).1 (hb t)]
theorem nz_or (x y:Nat) (hx:x < 256) (hy:y < 256):nz (x ||| y)≤nz x∧(nz (x ||| y)=nz x→x ||| y=x):=by
 obtain⟨h1,h2⟩:=nzk_or x y 8;exact⟨h1,fun h=>eq_of_bits _ _ (Nat.or_lt_two_pow (n:=8) hx hy) hx (h2 h)⟩
def unders:List Nat→List Nat→Bool
 | [],[]=>true
 | x::a,y::b=>under x y && unders a b
 | _,_=>false
theorem unders_length:∀(a b:List Nat),unders a b=true→a.length=b.length
 | [],[],_=>rfl
 | x::a,y::b,h=>by simp only[unders,Bool.and_eq_true] at h;simp[unders_length a b h.2]
 | [],_::_,h=>by simp[unders] at h
 | _::_,[],h=>by simp[unders] at h
def IsBytes (l:List Nat):Prop:=∀x∈l,x < 256
theorem IsBytes.cons {x:Nat} {l:List Nat} (h:IsBytes (x::l)):x < 256∧IsBytes l:=⟨h x (by simp),fun y hy=>h y (by simp[hy])⟩
theorem unders_noughts:∀(a b:List Nat),IsBytes a→IsBytes b→unders a b=true→noughts a≤noughts b∧(noughts a=noughts b→a=b)
 | [],[],_,_,_=>by simp
 | x::a,y::b,ha,hb,h=>by
  simp only[unders,Bool.and_eq_true] at h;have ih:=unders_noughts a b ha.cons.2 hb.cons.2 h.2;have e:=(under_or x y ha.cons.1 hb.cons.1).1 h.1;have n:=nz_or y x hb.cons.1 ha.cons.1;rw[Nat.or_comm,e] at n;simp only[noughts];refine⟨by omega,fun he=>?_⟩;rw[n.2 (by omega),ih.2 (by omega)]
 | [],_::_,_,_,h=>by simp[unders] at h
 | _::_,[],_,_,h=>by simp[unders] at h
def isPg (n:Int):Prop:=128≤n∧n≤256
instance (n:Int):Decidable (isPg n):=by unfold isPg;infer_instance
def isKd (k:Nat):Prop:=1≤k∧k≤7
instance (k:Nat):Decidable (isKd k):=by unfold isKd;infer_instance
def pgBody (n:Int):Int:=if isPg n then n - 5 else 0
def rest (n k:Nat) (b:List Nat):List Nat:=k::leB b.length 2++b++List.replicate (n - 5 - b.length) 255
def page (n k:Nat) (b:List Nat):List Nat:=leB (noughts (rest n k b)) 2++rest n k b
def sPutL (n:Int) (k:Nat) (b:List Nat):List Nat:=if isPg n∧isKd k∧(b.length:Int)≤n - 5 then page n.toNat k b else []
def sPutE (n:Int) (k:Nat) (b:List Nat):Int:=if isPg n∧isKd k then (if (b.length:Int)≤n - 5 then 0 else 3) else 2
def lenF (b:List Nat):Nat:=leV ((b.drop 3).take 2)
def isForm (b:List Nat):Prop:=isKd (b.getD 2 0)∧5+lenF b≤b.length∧blank (b.drop (5+lenF b))=true
instance (b:List Nat):Decidable (isForm b):=by unfold isForm;infer_instance
def sGetE (b:List Nat):Int:=
 if isPg b.length then (if blank b=true then 6 else if leV (b.take 2)=noughts (b.drop 2) then (if isForm b then 0 else 5) else 7) else 2
def sGetK (b:List Nat):Nat:=if sGetE b=0 then b.getD 2 0 else 0
def sGetL (b:List Nat):List Nat:=if sGetE b=0 then (b.drop 5).take (lenF b) else []
theorem sGetE_ok {b:List Nat} (h:sGetE b=0):isPg b.length∧blank b=false∧leV (b.take 2)=noughts (b.drop 2)∧isForm b:=by
 unfold sGetE at h
 split at h<;>rename_i h1
 ·split at h<;>rename_i h2
  ·cases h
  ·split at h<;>rename_i h3
   ·split at h<;>rename_i h4
    ·exact⟨h1,by simpa using h2,h3,h4⟩
    ·cases h
   ·cases h
 ·cases h
theorem leB_two (n:Nat):leB n 2=[n % 256,n / 256 % 256]:=by simp[leB,List.range,List.range.loop]
theorem leV_leB (n:Nat) (h:n < 65536):leV (leB n 2)=n:=by rw[leB_two];simp[leV];omega
theorem rest_length (n k:Nat) (b:List Nat) (h:b.length+5≤n):(rest n k b).length=n - 2:=by simp[rest,leB_length];omega
theorem page_length (n k:Nat) (b:List Nat) (h:b.length+5≤n):(page n k b).length=n:=by rw[page,List.length_append,rest_length n k b h,leB_length];omega
theorem rest_bytes (n k:Nat) (b:List Nat) (hk:k < 256) (hb:IsBytes b):IsBytes (rest n k b):=by
 intro x hx;simp only[rest,List.mem_append,List.cons_append,List.mem_cons] at hx
 rcases hx with rfl|(hx|hx)|hx
 ·exact hk
 ·exact leB_lt _ _ x hx
 ·exact hb x hx
 ·have:=List.eq_of_mem_replicate hx;omega
theorem page_bytes (n k:Nat) (b:List Nat) (hk:k < 256) (hb:IsBytes b):IsBytes (page n k b):=by
 intro x hx
 rcases List.mem_append.1 hx with h|h
 ·exact leB_lt _ _ x h
 ·exact rest_bytes n k b hk hb x h
theorem page_noughts (n k:Nat) (b:List Nat) (hn:n≤256) (h:b.length+5≤n):leV ((page n k b).take 2)=noughts ((page n k b).drop 2):=by
 have e1:(page n k b).take 2=leB (noughts (rest n k b)) 2:=by unfold page;rw[List.take_left' (leB_length _ _)]
 have e2:(page n k b).drop 2=rest n k b:=by unfold page;rw[List.drop_left' (leB_length _ _)]
 rw[e1,e2]
 apply leV_leB
 have:=noughts_le (rest n k b)
 rw[rest_length n k b h] at this;omega
theorem page_shape (n k:Nat) (b:List Nat):∃p0 p1:Nat,page n k b=p0::p1::k::(b.length % 256)::(b.length / 256 % 256)::(b++List.replicate (n - 5 - b.length) 255):=by
 refine⟨noughts (rest n k b) % 256,noughts (rest n k b) / 256 % 256,?_⟩;unfold page;rw[leB_two];generalize noughts (rest n k b)=m;unfold rest;rw[leB_two];simp
theorem page_form (n k:Nat) (b:List Nat) (hn:n≤256) (hk:isKd k) (h:b.length+5≤n):isForm (page n k b)∧lenF (page n k b)=b.length∧(page n k b).getD 2 0=k∧((page n k b).drop 5).take b.length=b:=by
 have hl:=page_length n k b h;obtain⟨p0,p1,e⟩:=page_shape n k b
 have e1:lenF (page n k b)=b.length:=by
  rw[lenF,e];simp[leV];omega
 refine⟨⟨?_,by rw[e1,hl];omega,?_⟩,e1,by rw[e];rfl,by rw[e];simp⟩
 ·rw[e];exact hk
 ·rw[e1,e];rw[show 5+b.length=b.length+5 from by omega];simp only[List.drop_succ_cons];rw[List.drop_left' rfl];simp[blank]
theorem page_not_blank (n k:Nat) (b:List Nat) (hk:isKd k):blank (page n k b)=false:=by
 obtain⟨p0,p1,e⟩:=page_shape n k b;rw[e];exact blank_no _ 2 k rfl (by unfold isKd at hk;omega)
theorem get_page (n k:Nat) (b:List Nat) (hn:isPg n) (hk:isKd k) (h:b.length+5≤n):sGetE (page n k b)=0∧sGetK (page n k b)=k∧sGetL (page n k b)=b:=by
 have hn':n≤256:=by unfold isPg at hn;omega
 obtain⟨f1,f2,f3,f4⟩:=page_form n k b hn' hk h
 have e:sGetE (page n k b)=0:=by
  unfold sGetE;rw[page_length n k b h,if_pos hn,page_not_blank n k b hk,if_neg (by simp),if_pos (page_noughts n k b hn' h),if_pos f1]
 refine⟨e,?_,?_⟩
 ·unfold sGetK;rw[if_pos e,f3]
 ·unfold sGetL;rw[if_pos e,f2,f4]
theorem leV2_mono (a b c d:Nat) (ha:a≤c) (hb:b≤d):leV [a,b]≤leV [c,d]∧(leV [a,b]=leV [c,d]→a=c∧b=d):=by
 simp only[leV];omega
theorem under_le (x y:Nat) (hx:x < 256) (hy:y < 256) (h:under x y=true):y≤x:=by
 rw[←(under_or x y hx hy).1 h];exact Nat.right_le_or
theorem sure_ (q p:List Nat) (hq:IsBytes q) (hp:IsBytes p) (h2:2≤p.length) (hu:unders q p=true) (h:leV (p.take 2)=noughts (p.drop 2)) (k:leV (q.take 2)=noughts (q.drop 2)):q=p:=by
 have hlen:2≤q.length:=by have:=unders_length q p hu;omega
 match q,p,h2,hlen with
 | x::y::q,a::b::p,_,_=>
  simp only[unders,Bool.and_eq_true] at hu;obtain⟨u1,u2,u3⟩:=hu;have l1:=under_le x a hq.cons.1 hp.cons.1 u1;have l2:=under_le y b hq.cons.2.cons.1 hp.cons.2.cons.1 u2;obtain⟨m1,m2⟩:=leV2_mono a b x y l1 l2;obtain⟨n1,n2⟩:=unders_noughts q p hq.cons.2.cons.2 hp.cons.2.cons.2 u3;simp only[List.take_succ_cons,List.take_zero,List.drop_succ_cons,List.drop_zero] at h k;obtain⟨rfl,rfl⟩:=m2 (by omega);rw[n2 (by omega)]
theorem get_torn (q:List Nat) (n k:Nat) (b:List Nat) (hn:isPg n) (hk:isKd k) (h:b.length+5≤n) (hq:IsBytes q) (hb:IsBytes b) (hu:unders q (page n k b)=true) (hne:q≠page n k b):
  (sGetE q=7∨sGetE q=6∧blank q=true)∧sGetL q=[]:=by
 have hn':n≤256:=by unfold isPg at hn;omega
 have hk':k < 256:=by unfold isKd at hk;omega
 have hlen:=unders_length _ _ hu;rw[page_length n k b h] at hlen
 have ht:¬leV (q.take 2)=noughts (q.drop 2):=fun ht=>hne (sure_ q _ hq (page_bytes n k b hk' hb) (by rw[page_length n k b h];omega) hu (page_noughts n k b hn' h) ht)
 have e:sGetE q=7∨sGetE q=6∧blank q=true:=by
  unfold sGetE;rw[hlen,if_pos hn]
  by_cases hbl:blank q=true
  ·rw[if_pos hbl];exact .inr ⟨rfl,hbl⟩
  ·rw[if_neg hbl,if_neg ht];exact .inl rfl
 refine⟨e,?_⟩;unfold sGetL;rw[if_neg]
 rcases e with e|⟨e,_⟩<;>rw[e]<;>decide
end
section
set_option maxRecDepth 100000
open Go.ChangeShapes Go.WideShapes Go.ChangeAt Go.RowKit
def RetV (w:World) (v:Value) (e:Ending) (w':World):Prop:=∃d,e=.returned v∧w'=w.drewN d
theorem pg_ge (s:Int):∀b,decide (isPg s)=b→(s < 128∨256 < s→b=false)∧(128≤s∧s≤256→b=true):=by
 rintro b rfl
 constructor
 ·intro h;exact decide_eq_false (by unfold isPg;omega)
 ·intro h;exact decide_eq_true (by unfold isPg;omega)
theorem sIsSize_any (s:Int) (w:World):
  Calls Tryz.prog 120 #[.int .i64 s] w fun e w'=>e=.returned (.bool (decide (isPg s)))∧w=w':=by
 generalize hb:decide (isPg s)=b;have H:=jH (pg_ge s b hb);clear hb
 rcases Int.lt_or_le s 128 with h|h
 ·obtain rfl:=H.out.1 (.inl h);clear H;go_enter Tryz.func120,Tryz.ntmps120;go_wp2;go_ret
  first|exact⟨rfl,rfl⟩|exact⟨ret_bool (by simp;omega),rfl⟩
 ·rcases Int.lt_or_le 256 s with h'|h'
  ·obtain rfl:=H.out.1 (.inr h');clear H;go_enter Tryz.func120,Tryz.ntmps120;go_wp2;go_ret
   first|exact⟨rfl,rfl⟩|exact⟨ret_bool (by simp;omega),rfl⟩
  ·obtain rfl:=H.out.2 ⟨h,h'⟩;clear H;go_enter Tryz.func120,Tryz.ntmps120;go_wp2;go_ret
   first|exact⟨rfl,rfl⟩|exact⟨ret_bool (by simp;omega),rfl⟩
theorem rSize_any (s:Int) (w:World):
  Calls Tryz.prog 70 #[.int .i64 s] w fun e w'=>e=.returned (.bool (decide (isPg s)))∧w=w':=by
 generalize hb:decide (isPg s)=b;have H:=jH (pg_ge s b hb);clear hb
 rcases Int.lt_or_le s 128 with h|h
 ·obtain rfl:=H.out.1 (.inl h);clear H;go_enter Tryz.func70,Tryz.ntmps70;go_wp2;go_ret
  first|exact⟨rfl,rfl⟩|exact⟨ret_bool (by simp;omega),rfl⟩
 ·rcases Int.lt_or_le 256 s with h'|h'
  ·obtain rfl:=H.out.1 (.inr h');clear H;go_enter Tryz.func70,Tryz.ntmps70;go_wp2;go_ret
   first|exact⟨rfl,rfl⟩|exact⟨ret_bool (by simp;omega),rfl⟩
  ·obtain rfl:=H.out.2 ⟨h,h'⟩;clear H;go_enter Tryz.func70,Tryz.ntmps70;go_wp2;go_ret
   first|exact⟨rfl,rfl⟩|exact⟨ret_bool (by simp;omega),rfl⟩
theorem kd_ge (k:Nat):∀b,decide (isKd k)=b→(k < 1∨7 < k→b=false)∧(1≤k∧k≤7→b=true):=by
 rintro b rfl
 constructor
 ·intro h;exact decide_eq_false (by unfold isKd;omega)
 ·intro h;exact decide_eq_true (by unfold isKd;omega)
theorem sIsKind_any (k:Nat) (w:World):
  Calls Tryz.prog 123 #[.int .u8 k] w fun e w'=>e=.returned (.bool (decide (isKd k)))∧w=w':=by
 generalize hb:decide (isKd k)=b;have H:=jH (kd_ge k b hb);clear hb
 rcases Nat.lt_or_ge k 1 with h|h
 ·obtain rfl:=H.out.1 (.inl h);clear H;go_enter Tryz.func123,Tryz.ntmps123;go_wp2;go_ret
  first|exact⟨rfl,rfl⟩|exact⟨ret_bool (by simp;omega),rfl⟩
 ·rcases Nat.lt_or_ge 7 k with h'|h'
  ·obtain rfl:=H.out.1 (.inr h');clear H;go_enter Tryz.func123,Tryz.ntmps123;go_wp2;go_ret
   first|exact⟨rfl,rfl⟩|exact⟨ret_bool (by simp;omega),rfl⟩
  ·obtain rfl:=H.out.2 ⟨h,h'⟩;clear H;go_enter Tryz.func123,Tryz.ntmps123;go_wp2;go_ret
   first|exact⟨rfl,rfl⟩|exact⟨ret_bool (by simp;omega),rfl⟩
theorem sBody_any (s:Int) (w:World):
  Calls Tryz.prog 124 #[.int .i64 s] w fun e w'=>e=.returned (.int .i64 (pgBody s))∧w=w':=by
 by_cases h:isPg s
 ·have e1:pgBody s=s - 5:=by unfold pgBody;rw[if_pos h]
  have e2:decide (isPg s)=true:=by simpa using h
  rw[e1];clear e1;unfold isPg at h;go_enter Tryz.func124,Tryz.ntmps124
  go_wp2_with (go_at_call 120;refine (sIsSize_any _ _).mono ?_;rintro e w' ⟨rfl,rfl⟩;rw[e2])
  go_ret;exact⟨rfl,rfl⟩
 ·have e1:pgBody s=0:=by unfold pgBody;rw[if_neg h]
  have e2:decide (isPg s)=false:=by simpa using h
  rw[e1];clear e1 h;go_enter Tryz.func124,Tryz.ntmps124
  go_wp2_with (go_at_call 120;refine (sIsSize_any _ _).mono ?_;rintro e w' ⟨rfl,rfl⟩;rw[e2])
  go_ret;exact⟨rfl,rfl⟩
theorem sBlank_any (A:Option Addr) (n c:Nat) (l:List Nat) (w:World) (ha:Bts w A n l) (hn:n≤maxLen):
  Calls Tryz.prog 96 #[.slice A n c] w fun e w'=>e=.returned (.bool (blank l))∧w=w':=by
 unfold maxLen at hn;have Ha:=jH ha;clear ha;generalize hb:blank l=bl;have Hb:=jH hb;clear hb;go_enter Tryz.func96,Tryz.ntmps96;go_wp2
 go_loop [7] (fun i=>∃k:Nat,k≤n∧i=.int .i64 k∧Hid (blank (l.take k)=true)) (fun i=>n - (intOf i).toNat)
 case atStart=>exact⟨0,Nat.zero_le _,rfl,by simp[Hid,blank]⟩
 case round=>
  obtain⟨k,hk,rfl,HB⟩:=hrel
  by_cases hlt:k < n
  ·obtain⟨g,o,x,rfl,hx,hxb,hc⟩:=Ha.out.at_ hlt;have HX:=jH hx;clear hx
   by_cases h5:x=255
   ·subst h5;go_wp2
    go_round
    case rel=>exact⟨k+1,by omega,by go_num,blank_take l k HX.out HB.out⟩
    case measure=>simp[intOf];omega
   ·go_wp2;go_ret;exact⟨ret_bool (by rw[←Hb.out,blank_no l k x HX.out h5]),rfl⟩
  ·go_wp2;go_ret;refine⟨ret_bool ?_,rfl⟩
   obtain rfl:k=n:=by omega
   have:=HB.out
   rw[List.take_of_length_le (by rw[Ha.out.1];exact Nat.le_refl _)] at this;rw[←Hb.out,this]
theorem wrap64_of {x:Int} (h1:-9223372036854775808≤x) (h2:x≤9223372036854775807):wrap64 x=x:=by
 simp only[wrap64];omega
theorem bit_value_all:∀(x:Fin 256) (j:Fin 8),bits BinOp.and IntKind.u8 (bits BinOp.xor IntKind.u8 (if IntKind.u8.signed=true then -1 else IntKind.u8.max) (x.val:Int) / 2 ^ j.val) 1=((1 - x.val / 2 ^ j.val % 2:Nat):Int):=by decide +kernel
theorem bit_value (x j:Nat) (hx:x < 256) (hj:j < 8):bits BinOp.and IntKind.u8 (bits BinOp.xor IntKind.u8 (if IntKind.u8.signed=true then -1 else IntKind.u8.max) (x:Int) / 2 ^ j) 1=((1 - x / 2 ^ j % 2:Nat):Int):=
 bit_value_all ⟨x,hx⟩ ⟨j,hj⟩
theorem sNoughts_any (A:Option Addr) (n c:Nat) (l:List Nat) (w:World) (ha:Bts w A n l) (hn:n≤140737488355328):
  Calls Tryz.prog 122 #[.slice A n c] w fun e w'=>e=.returned (.int .i64 (noughts l:Nat))∧w=w':=by
 have Ha:=jH ha;clear ha;go_enter Tryz.func122,Tryz.ntmps122;go_wp2
 go_loop [3,9] (fun v i=>∃k m:Nat,k≤n∧i=.int .i64 k∧v=.int .i64 m∧m≤8*k∧Hid (m=noughts (l.take k))) (fun _ i=>n - (intOf i).toNat)
 case atStart=>exact⟨0,0,Nat.zero_le _,rfl,rfl,by omega,by simp[Hid,noughts]⟩
 case round=>
  obtain⟨k,m,hk,rfl,rfl,hm,HM⟩:=hrel
  by_cases hlt:k < n
  ·obtain⟨g,o,x,rfl,hx,hxb,hc⟩:=Ha.out.at_ hlt;have HX:=jH hx;clear hx;go_wp2
   go_loop [3,13] (fun v b=>∃j:Nat,j≤8∧b=.int .i64 j∧v=.int .i64 ((m:Int)+(nzk x j:Nat))) (fun _ b=>8 - (intOf b).toNat)
   case atStart=>exact⟨0,by omega,rfl,by simp[nzk]⟩
   case round=>
    obtain⟨j,hj,rfl,rfl⟩:=hrel;have hz:=nzk_le x j
    by_cases hj8:j < 8
    ·go_wp2;have e:nzk x (j+1)=nzk x j+(1 - x / 2 ^ j % 2):=rfl
     have hb1:1 - x / 2 ^ j % 2≤1:=by omega
     rw[bit_value x j hxb hj8];refine⟨⟨j+1,by omega,by go_num,?_⟩,by simp[intOf];omega⟩;rw[e];generalize 1 - x / 2 ^ j % 2=bb at *;generalize nzk x j=s at *;rw[wrap64_of (x:=(bb:Int)) (by omega) (by omega),wrap64_of (by omega) (by omega)]
     congr 1
     omega
    ·obtain rfl:j=8:=by omega
     go_wp2
     go_round
     case rel=>exact⟨k+1,m+nz x,by omega,by go_num,by rw[nz];rfl,by have:=nz_le x;omega,by rw[Hid,noughts_take l k x HX.out,HM.out]⟩
     case measure=>simp[intOf];omega
  ·go_wp2;go_ret;refine⟨?_,rfl⟩
   obtain rfl:k=n:=by omega
   have:=HM.out
   rw[List.take_of_length_le (by rw[Ha.out.1];exact Nat.le_refl _)] at this;rw[←this]
   rfl
theorem rNoughts_any (A:Option Addr) (n c:Nat) (l:List Nat) (w:World) (ha:Bts w A n l) (hn:n≤140737488355328):
  Calls Tryz.prog 72 #[.slice A n c] w fun e w'=>e=.returned (.int .i64 (noughts l:Nat))∧w=w':=by
 have Ha:=jH ha;clear ha;go_enter Tryz.func72,Tryz.ntmps72;go_wp2
 go_loop [3,4] (fun v i=>∃k m:Nat,k≤n∧i=.int .i64 k∧v=.int .i64 m∧m≤8*k∧Hid (m=noughts (l.take k))) (fun _ i=>n - (intOf i).toNat)
 case atStart=>exact⟨0,0,Nat.zero_le _,rfl,rfl,by omega,by simp[Hid,noughts]⟩
 case round=>
  obtain⟨k,m,hk,rfl,rfl,hm,HM⟩:=hrel
  by_cases hlt:k < n
  ·obtain⟨g,o,x,rfl,hx,hxb,hc⟩:=Ha.out.at_ hlt;have HX:=jH hx;clear hx;go_wp2
   go_loop [3,5] (fun v b=>∃j kk s:Nat,j≤8∧b=.int .i64 kk∧Hid (kk=2 ^ j∧s=nzk x j)∧s≤j∧v=.int .i64 ((m:Int)+s)) (fun _ b=>256 - (intOf b).toNat)
   case atStart=>exact⟨0,1,0,by omega,rfl,⟨rfl,rfl⟩,by omega,by simp⟩
   case round=>
    obtain⟨j,kk,s,hj,rfl,HJ,hs,rfl⟩:=hrel
    by_cases hj8:j < 8
    ·have hjj:j=0∨j=1∨j=2∨j=3∨j=4∨j=5∨j=6∨j=7:=by omega
     have he:nzk x (j+1)=s+(1 - x / 2 ^ j % 2):=by rw[HJ.out.2];rfl
     obtain⟨s2,hs2⟩:∃s2,s2=nzk x (j+1):=⟨_,rfl⟩;have HS2:=jH hs2;rw[←hs2] at he;have hkk:=HJ.out.1;clear hs2 HJ hj hj8
     rcases hjj with hq|hq|hq|hq|hq|hq|hq|hq
     all_goals
      rw[hq] at hkk he;simp only[Nat.reducePow,Nat.div_one] at hkk he;subst hkk;go_wp2
     all_goals
      rename_i hbit
      refine⟨⟨j+1,2 ^ (j+1),s2,by omega,by rw[hq];rfl,⟨rfl,HS2.out⟩,by omega,?_⟩,by simp[intOf]⟩
      first
       | (have hb2:=eq_of_beq hbit;congr 1;omega)
       | (have hb2:=ne_of_beq_false hbit;congr 1;omega)
    ·obtain rfl:j=8:=by omega
     obtain⟨rfl,rfl⟩:=HJ.out;clear HJ;go_wp2
     go_round
     case rel=>exact⟨k+1,m+nz x,by omega,by go_num,by rw[nz];rfl,by have:=nz_le x;omega,by rw[Hid,noughts_take l k x HX.out,HM.out]⟩
     case measure=>simp[intOf];omega
  ·go_wp2;go_ret;refine⟨?_,rfl⟩
   obtain rfl:k=n:=by omega
   have:=HM.out
   rw[List.take_of_length_le (by rw[Ha.out.1];exact Nat.le_refl _)] at this;rw[←this]
   rfl
theorem rBlank_any (A:Option Addr) (n c:Nat) (l:List Nat) (w:World) (ha:Bts w A n l) (hn:n≤140737488355328):
  Calls Tryz.prog 71 #[.slice A n c] w fun e w'=>e=.returned (.bool (blank l))∧w=w':=by
 have hb:=blank_eq l ha.2.1;generalize blank l=b at hb ⊢;have Hb:=jH hb;have Ha:=jH ha;clear ha hb;go_enter Tryz.func71,Tryz.ntmps71;go_wp2_with fail;refine (rNoughts_any A n c l _ Ha.out hn).mono ?_;rintro e w' ⟨rfl,rfl⟩;go_wp2;go_ret;exact⟨ret_bool (by rw[Hb.out,Bool.eq_iff_iff];simp),rfl⟩
theorem same_no (A B:Option Addr) (n m c d:Nat) (l k:List Nat) (w:World) (ha:Bts w A n l) (hb:Bts w B m k) (hn:n≤maxLen) (hne:l≠k):
  Calls Tryz.prog 30 #[.slice A n c,.slice B m d] w (Quiet w false):=by
 unfold maxLen at hn
 by_cases hnm:n=m
 ·subst hnm;have Ha:=jH ha;have Hb:=jH hb;have Hne:=jH hne;clear ha hb hne;go_enter Tryz.func30,Tryz.ntmps30;go_wp2
  go_loopw [5] (fun i wr=>∃j q:Nat,j≤n∧i=.int .i64 j∧wr=w.drewN q∧Hid (l.take j=k.take j)) (fun i _=>n - (intOf i).toNat)
  case atStart=>exact⟨0,0,Nat.zero_le _,rfl,rfl,rfl⟩
  case round=>
   obtain⟨j,q,hj,rfl,rfl,HT⟩:=hrel
   by_cases hlt:j < n
   ·obtain⟨g,o,x,rfl,hx,hxb,hc⟩:=Ha.out.at_ hlt;obtain⟨g',o',y,rfl,hy,hyb,hc'⟩:=Hb.out.at_ hlt;have HX:=jH hx;have HY:=jH hy;clear hx hy
    by_cases hxy:x=y
    ·subst hxy;go_wp2;go_quiet (fail);go_wp2;go_roundw
     case rel=>
      refine⟨j+1,_,by omega,by go_num,rfl,?_⟩;have hl:j < l.length:=(List.getElem?_eq_some_iff.1 HX.out).1;have hk:j < k.length:=(List.getElem?_eq_some_iff.1 HY.out).1;rw[Hid,List.take_succ_eq_append_getElem hl,List.take_succ_eq_append_getElem hk,HT.out,(List.getElem?_eq_some_iff.1 HX.out).2,(List.getElem?_eq_some_iff.1 HY.out).2]
     case measure=>simp[intOf];omega
    ·have hxy2:((x:Int) == (y:Int))=false:=beq_eq_false_iff_ne.2 (by omega);go_wp2;go_quiet (fail);go_wp2;go_ret;exact⟨q+nq,rfl,by simp[World.drewN,Nat.add_assoc]⟩
   ·exfalso
    obtain rfl:j=n:=by omega
    have:=HT.out
    rw[List.take_of_length_le (by rw[Ha.out.1];exact Nat.le_refl _),List.take_of_length_le (by rw[Hb.out.1];exact Nat.le_refl _)] at this;exact Hne.out this
 ·clear ha hb hne;go_enter Tryz.func30,Tryz.ntmps30;go_wp2;go_ret;exact⟨0,rfl,rfl⟩
theorem same_any (A B:Option Addr) (n m c d:Nat) (l k:List Nat) (w:World) (ha:Bts w A n l) (hb:Bts w B m k) (hn:n≤maxLen):
  Calls Tryz.prog 30 #[.slice A n c,.slice B m d] w (Quiet w (decide (l=k))):=by
 by_cases h:l=k
 ·subst h
  obtain rfl:n=m:=by rw[←ha.1,←hb.1]
  rw[decide_eq_true rfl];exact same_eq A B n c d l w ha hb hn
 ·rw[decide_eq_false h];exact same_no A B n m c d l k w ha hb hn h
end
end Go.Proofs.YtbiihjdjbknibaaGreat
