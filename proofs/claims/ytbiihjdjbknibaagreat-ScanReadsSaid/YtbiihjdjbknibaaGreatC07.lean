/-
  Layer 7: contracts (Sc Sj Sl Sn So).
-/
import Derived.Lib.Bytes
import Derived.Test.YtbiihjdjbknibaaGreatC06
namespace Go.Proofs.YtbiihjdjbknibaaGreat
set_option maxRecDepth 100000
set_option maxHeartbeats 8000000
set_option linter.unusedSimpArgs false
set_option linter.unusedVariables false
section
set_option maxRecDepth 100000
open Go.ChangeShapes Go.WideShapes Go.ChangeAt Go.RowKit
end
section
set_option maxRecDepth 100000
open Go.ChangeShapes Go.WideShapes Go.ChangeAt Go.RowKit
theorem sGet_k {w0 wc:World} (A:Option Addr) (n c:Nat) (l:List Nat) (K:Hid (New w0 wc)) (hb:Hid (Bts wc A n l)) (hc:n≤c) (hc2:c≤9223372036854775807) (k:Nat) (x:List Nat) (E:Int) (h:sGetK l=k∧sGetL l=x∧sGetE l=E) (m:Nat) (hm:x.length=m):
  Calls Tryz.prog 100 #[.slice A n c] wc fun e w'=>∃A' c',e=.returned (.tuple #[.int .u8 k,.slice A' m c',.int .i64 E])∧Hid (OwnB w' 5 w0.heap.size A' c' x)∧Hid (New wc w')∧Hid (New w0 w'):=by
 obtain⟨rfl,rfl,rfl⟩:=h;subst hm;refine (sGet_any A n c l wc hb.out hc hc2).mono ?_;rintro e w' ⟨A',c',rfl,ho,hk⟩;exact⟨A',c',rfl,ho.mono K.out.size,hk,K.out.new hk⟩
theorem put_yes {n:Int} {k:Nat} {b:List Nat} (h:sPutE n k b=0):∃N:Nat,n=N∧isPg (N:Int)∧isKd k∧b.length+5≤N∧sPutL n k b=page N k b:=by
 unfold sPutE at h
 split at h
 ·rename_i h1
  split at h
  ·rename_i h2
   have h3:=h1.1;unfold isPg at h3;refine⟨n.toNat,by omega,by rw[Int.toNat_of_nonneg (by omega)];exact h1.1,h1.2,by omega,?_⟩;unfold sPutL;rw[if_pos ⟨h1.1,h1.2,h2⟩]
  ·cases h
 ·cases h
end
section
set_option maxRecDepth 100000
open Go.ChangeShapes Go.WideShapes Go.ChangeAt Go.RowKit
theorem rNoughts_v (A:Option Addr) (n c:Nat) (l:List Nat) (w:World) (ha:Bts w A n l) (hn:n≤140737488355328) (no:Nat) (h:noughts l=no):
  Calls Tryz.prog 72 #[.slice A n c] w fun e w'=>e=.returned (.int .i64 no)∧w=w':=by subst h;exact rNoughts_any A n c l w ha hn
theorem rBlank_v (A:Option Addr) (n c:Nat) (l:List Nat) (w:World) (ha:Bts w A n l) (hn:n≤140737488355328) (b:Bool) (h:blank l=b):
  Calls Tryz.prog 71 #[.slice A n c] w fun e w'=>e=.returned (.bool b)∧w=w':=by subst h;exact rBlank_any A n c l w ha hn
end
section
set_option maxRecDepth 100000
open Go.ChangeShapes Go.WideShapes Go.ChangeAt Go.RowKit
def RPutP (w:World) (n:Int) (k:Nat) (b:List Nat) (e:Ending) (w':World):Prop:=
 ∃A c,e=.returned (.tuple #[.slice A (sPutL n k b).length c,.int .i64 (sPutE n k b)])∧OwnB w' 5 w.heap.size A c (sPutL n k b)∧New w w'
theorem rPut_arg (n:Int) (k:Nat) (v:Value) (w:World) (h:¬(isPg n∧isKd k)):
  Calls Tryz.prog 48 #[.int .i64 n,.int .u8 k,v] w fun e w'=>e=.returned (.tuple #[.slice none 0 0,.int .i64 2])∧w=w':=by
 by_cases hp:isPg n
 ·have e1:decide (isPg n)=true:=decide_eq_true hp
  have hk:¬isKd k:=fun hk=>h ⟨hp,hk⟩
  unfold isKd at hk;clear h hp
  rcases Nat.lt_or_ge k 1 with h1|h1
  ·go_enter Tryz.func48,Tryz.ntmps48
   go_wp2_with (go_at_call 70;refine (rSize_any _ _).mono ?_;rintro e w' ⟨rfl,rfl⟩;rw[e1])
   go_ret2;exact⟨rfl,rfl⟩
  ·have h7:7 < k:=by omega
   go_enter Tryz.func48,Tryz.ntmps48
   go_wp2_with (go_at_call 70;refine (rSize_any _ _).mono ?_;rintro e w' ⟨rfl,rfl⟩;rw[e1])
   go_ret2;exact⟨rfl,rfl⟩
 ·have e1:decide (isPg n)=false:=decide_eq_false hp;clear h hp;go_enter Tryz.func48,Tryz.ntmps48
  go_wp2_with (go_at_call 70;refine (rSize_any _ _).mono ?_;rintro e w' ⟨rfl,rfl⟩;rw[e1])
  go_ret2;exact⟨rfl,rfl⟩
theorem rPut_limit (n:Int) (k:Nat) (A:Option Addr) (m c:Nat) (w:World) (hp:isPg n) (hk:isKd k) (hm:n - 5 < m) (_hmm:m≤maxLen):
  Calls Tryz.prog 48 #[.int .i64 n,.int .u8 k,.slice A m c] w fun e w'=>e=.returned (.tuple #[.slice none 0 0,.int .i64 3])∧w=w':=by
 have e1:decide (isPg n)=true:=decide_eq_true hp;unfold maxLen at _hmm;unfold isPg at hp;unfold isKd at hk;obtain⟨hk1,hk2⟩:=hk;go_enter Tryz.func48,Tryz.ntmps48
 go_wp2_with (go_at_call 70;refine (rSize_any _ _).mono ?_;rintro e w' ⟨rfl,rfl⟩;rw[e1])
 go_ret2;exact⟨rfl,rfl⟩
def slLen:Value→Nat
 | .slice _ n _=>n
 | _=>0
def fill (k:Nat) (b:List Nat) (j:Nat):List Nat:=0::0::k::(b.length % 256)::(b.length / 256)::(b++List.replicate j 255)
theorem fill_length (k:Nat) (b:List Nat) (j:Nat):(fill k b j).length=b.length+j+5:=by simp[fill]
theorem fill_next (k:Nat) (b:List Nat) (j:Nat):fill k b j++[255]=fill k b (j+1):=by
 simp[fill,List.replicate_succ']
theorem fill_rest (n k:Nat) (b:List Nat) (h:b.length+5≤n) (hn:n≤256):(fill k b (n - 5 - b.length)).drop 2=rest n k b:=by
 unfold rest fill;rw[leB_two]
 have:b.length / 256 % 256=b.length / 256:=Nat.mod_eq_of_lt (by omega)
 simp[this]
theorem fill_page (n k m:Nat) (b:List Nat) (h:b.length+5≤n) (hn:n≤256) (hm:m=noughts (rest n k b)):((fill k b (n - 5 - b.length)).set 0 (m % 256)).set 1 (m / 256 % 256)=page n k b:=by
 subst hm;have e:=fill_rest n k b h hn;unfold page;rw[leB_two,←e];simp[fill]
theorem fill_bytes (k:Nat) (b:List Nat) (j:Nat) (hk:k < 256) (hb:IsBytes b) (hl:b.length≤251):IsBytes (fill k b j):=by
 intro x hx;simp only[fill,List.mem_cons,List.mem_append] at hx
 rcases hx with rfl|rfl|rfl|rfl|rfl|hx|hx
 ·omega
 ·omega
 ·exact hk
 ·omega
 ·omega
 ·exact hb x hx
 ·have:=List.eq_of_mem_replicate hx;omega
theorem rPut_ok (n k:Nat) (A:Option Addr) (m c:Nat) (b:List Nat) (w:World) (hn1:128≤n) (hn2:n≤256) (hk:isKd k) (hb:Bts w A m b) (hm:m+5≤n):
  Calls Tryz.prog 48 #[.int .i64 n,.int .u8 k,.slice A m c] w fun e w'=>∃A c,e=.returned (.tuple #[.slice A n c,.int .i64 0])∧OwnB w' 5 w.heap.size A c (page n k b)∧New w w':=by
 have e1:decide (isPg (n:Int))=true:=decide_eq_true (by unfold isPg;omega);obtain⟨i0,hi,hz0,hz1,hz2⟩:=info_parts info_u8;unfold isKd at hk;obtain⟨hk1,hk2⟩:=hk;have Hb:=jH hb;have Hbl:=jH hb.1;have HBB:=jH hb.2.1;clear hb;go_enter Tryz.func48,Tryz.ntmps48
 go_wp2_with (first
  | (go_at_call 70;refine (rSize_any _ _).mono ?_;rintro e w' ⟨rfl,rfl⟩;rw[e1])
  | (at_builtin;refine wpList_append_bytes _ rfl _ _ _ rfl 5 i0 Tryz.underlying52 hi hz0 hz1 hz2 w.heap.size (some ⟨w.heap.size,0,none⟩) 5 5 [0,0,k,m % 256,m / 256] rfl ?_ rfl A m c b rfl ?_ ?_ ?_ ?_))
 ·exact OwnB.of_blk (l:=[0,0,k,m % 256,m / 256]) (sp:=[]) (Blk.made w 5 _) (Nat.le_refl _) (by intro x hx;simp at hx;omega) rfl (by unfold maxLen;omega)
 ·exact Hb.out.new (kR.alloc _)
 ·simp;omega
 ·simp
 intro A2 c2 w2 hown hg _
 have O2:Hid (OwnB w2 5 w.heap.size A2 c2 (fill k b 0)):=by
  unfold fill;rw[Hbl.out];simpa [Hid] using hown
 have K2:Hid (New w w2):=(kR.alloc _).grown hg (by simp;omega);clear hown hg Hb;go_wp2
 go_loopw [8] (fun v wr=>∃(j L:Nat) (A:Option Addr) (c:Nat),L=5+m+j∧j≤n - 5 - m∧v=.slice A L c∧Hid (OwnB wr 5 w.heap.size A c (fill k b j))∧Hid (New w wr)) (fun v _=>n - slLen v)
 case atStart=>exact⟨0,5+m,A2,c2,rfl,by omega,rfl,O2,K2⟩
 case round=>
  obtain⟨j,L,A3,c3,hL,hj,rfl,O3,K3⟩:=hrel;clear O2 K2
  have HFl:Hid ((fill k b j).length=L):=by show _=_;rw[fill_length,Hbl.out];omega
  by_cases hlt:L < n
  ·go_wp2_with (at_builtin;refine wpList_append_bytes _ rfl _ _ _ rfl 5 i0 Tryz.underlying52 hi hz0 hz1 hz2 w.heap.size A3 L c3 (fill k b j) rfl ?_ ?_ (some ⟨wr.heap.size,0,none⟩) 1 1 [255] rfl ?_ ?_ ?_ ?_)
   ·exact O3.out.new (kR.alloc _)
   ·exact HFl.out.symm
   ·exact Bts.one _ _ 255 _ (by omega) rfl
   ·rw[HFl.out];omega
   ·have:=K3.out.size;simp;omega
   intro A4 c4 w4 hown4 hg4 _;have K4:Hid (New w w4):=Kept.of_own (K3.out.alloc _) (O3.out.new (kR.alloc _)) hg4
   have O4:Hid (OwnB w4 5 w.heap.size A4 c4 (fill k b (j+1))):=by rw[←fill_next];exact hown4
   clear hown4 hg4 O3 K3;go_wp2;go_roundw
   case rel=>exact⟨j+1,L+1,A4,c4,by omega,by omega,by rw[hL],O4,K4⟩
   case measure=>simp[slLen];omega
  ·obtain rfl:L=n:=by omega
   have hjj:j=L - 5 - b.length:=by rw[Hbl.out];omega
   have hbl5:Hid (b.length+5≤L):=by show _≤_;rw[Hbl.out];omega
   have hle:=O3.out.le;have hFB:=jH (fill_bytes k b j (by omega) HBB.out (by rw[Hbl.out];omega))
   have hR:Hid ((fill k b j).drop 2=rest L k b):=by rw[hjj];exact fill_rest L k b hbl5.out hn2
   have hNf:=noughts_fit L k b hn2 hbl5.out;generalize hno:noughts (rest L k b)=no at hNf;have HNo:=jH hno
   have hPg:Hid (((fill k b j).set 0 (no % 256)).set 1 (no / 256)=page L k b):=by
    have:=fill_page L k no b hbl5.out hn2 hno.symm
    rw[Nat.mod_eq_of_lt (show no / 256 < 256 from by omega)] at this;rw[hjj];exact this
   have HPB:=jH (page_bytes L k b (by omega) HBB.out);have HPL:=jH (page_length L k b hbl5.out);obtain⟨hob,⟨rfl,rfl,hf⟩|⟨g,sp,rfl,hB,hblk,hsp,hc,hcm⟩⟩:=O3.out
   ·simp[fill] at hf
   rw[HFl.out] at hle hc;have B3:=jH hblk;have HSP:=jH hsp;have HBg:=jH hB;have HCC:=jH hc
   have hc2:¬c3=2:=by omega
   have hcm2:c3≤9223372036854775807:=by unfold maxLen at hcm;omega
   obtain⟨hle1,_⟩:=hle;clear hjj hno hob hblk hsp hB hc hcm O3 hL hj hlt;go_wp2_with fail;refine (rNoughts_v _ (L - 2) _ (rest L k b) _ ?_ (by omega) no HNo.out).mono ?_
   ·have h4:Blk wr g 5 ((fill k b j).map byt++sp.map byt):=by rw[←List.map_append];exact B3.out
    have:=Bts.of_blk (off:=2) h4 hFB.out HFl.out
    rw[hR.out] at this;exact this
   rintro e w' ⟨rfl,rfl⟩
   have c0:wr.cell? ⟨g,0,none⟩=some (.int .u8 0):=by rw[B3.out.cell];simp[fill,byt]
   have c1:wr.cell? ⟨g,1,none⟩=some (.int .u8 0):=by rw[B3.out.cell];simp[fill,byt]
   obtain⟨f0,f1⟩:=B3.out.f2;go_wp2;go_ret2;have hb2:=(B3.out.put 0 (.int .u8 (no % 256:Nat))).put 1 (.int .u8 (no / 256:Nat));rw[set_any _ 0 (no % 256) (.int .u8 (no % 256:Nat)) rfl,set_any _ 1 (no / 256) (.int .u8 (no / 256:Nat)) rfl,List.set_append_left _ _ (by rw[HFl.out];omega),List.set_append_left _ _ (by rw[List.length_set,HFl.out];omega),hPg.out] at hb2;rw[List.map_append] at hb2;refine⟨_,c3,rfl,⟨HPB.out,.inr ⟨g,sp,rfl,HBg.out,?_,HSP.out,by rw[HPL.out];exact HCC.out,by unfold maxLen;omega⟩⟩,(K3.out.setCell (fun h=>by have:=HBg.out;simp at h;omega) _).setCell (fun h=>by have:=HBg.out;simp at h;omega) _⟩
   rw[List.map_append];exact hb2
theorem rPut_any (n:Int) (k:Nat) (A:Option Addr) (m c:Nat) (b:List Nat) (w:World) (hb:Bts w A m b) (hm:m≤maxLen):
  Calls Tryz.prog 48 #[.int .i64 n,.int .u8 k,.slice A m c] w (RPutP w n k b):=by
 have hbl:=hb.1
 by_cases h:isPg n∧isKd k
 ·by_cases hl:(m:Int)≤n - 5
  ·obtain⟨N,rfl⟩:∃N:Nat,n=N:=⟨n.toNat,by have:=h.1;unfold isPg at this;omega⟩;have hp:=h.1;unfold isPg at hp
   have eL:sPutL N k b=page N k b:=by unfold sPutL;rw[if_pos ⟨h.1,h.2,by rw[hbl];exact hl⟩,Int.toNat_natCast]
   have eE:sPutE N k b=0:=by unfold sPutE;rw[if_pos h,if_pos (by rw[hbl];exact hl)]
   refine (rPut_ok N k A m c b w (by omega) (by omega) h.2 hb (by omega)).mono ?_;rintro e w' ⟨A',c',rfl,h1,h2⟩;unfold RPutP;rw[eL,eE,page_length N k b (by omega)];exact⟨A',c',rfl,h1,h2⟩
  ·have eL:sPutL n k b=[]:=by unfold sPutL;rw[if_neg (fun x=>hl (by have:=x.2.2;rw[hbl] at this;exact this))]
   have eE:sPutE n k b=3:=by unfold sPutE;rw[if_pos h,if_neg (by rw[hbl];exact hl)]
   refine (rPut_limit n k A m c w h.1 h.2 (by omega) hm).mono ?_;rintro e w' ⟨rfl,rfl⟩;unfold RPutP;rw[eL,eE];exact⟨none,0,rfl,OwnB.nil _ _ _,kR⟩
 ·have eL:sPutL n k b=[]:=by unfold sPutL;rw[if_neg (fun x=>h ⟨x.1,x.2.1⟩)]
  have eE:sPutE n k b=2:=by unfold sPutE;rw[if_neg h]
  refine (rPut_arg n k _ w h).mono ?_;rintro e w' ⟨rfl,rfl⟩;unfold RPutP;rw[eL,eE];exact⟨none,0,rfl,OwnB.nil _ _ _,kR⟩
end
section
set_option maxRecDepth 100000
open Go.ChangeShapes Go.WideShapes Go.ChangeAt Go.RowKit
theorem rGet_arg (A:Option Addr) (n c:Nat) (l:List Nat) (w:World) (hl:l.length=n) (_hn:n≤maxLen) (h:¬isPg (n:Int)):
  Calls Tryz.prog 35 #[.slice A n c] w (GetP w l):=by
 have e1:decide (isPg (n:Int))=false:=decide_eq_false h;have HE:=jH (show sGetE l=2 from by unfold sGetE;rw[hl,if_neg h]);unfold maxLen at _hn;clear h hl;go_enter Tryz.func35,Tryz.ntmps35
 go_wp2_with (go_at_call 70;refine (rSize_any _ _).mono ?_;rintro e w' ⟨rfl,rfl⟩;rw[e1])
 go_ret3;exact GetP.no HE.out (by omega) kR
theorem rGet_blank (A:Option Addr) (n c:Nat) (l:List Nat) (w:World) (hb:Bts w A n l) (h:isPg (n:Int)) (hbl:blank l=true):
  Calls Tryz.prog 35 #[.slice A n c] w (GetP w l):=by
 have e1:decide (isPg (n:Int))=true:=decide_eq_true h;have HE:=jH (show sGetE l=6 from by unfold sGetE;rw[hb.1,if_pos h,if_pos hbl]);have Hb:=jH hb
 have hn:n≤256:=by unfold isPg at h;omega
 clear h hb;go_enter Tryz.func35,Tryz.ntmps35
 go_wp2_with (first
  | (go_at_call 70;refine (rSize_any _ _).mono ?_;rintro e w' ⟨rfl,rfl⟩;rw[e1])
  | (go_at_call 71;refine (rBlank_any _ _ _ _ _ Hb.out (by omega)).mono ?_;rintro e w' ⟨rfl,rfl⟩;rw[hbl]))
 go_ret3;exact GetP.no HE.out (by omega) kR
theorem five (l:List Nat) (h:5≤l.length) (hb:IsBytes l):∃a0 a1 a2 a3 a4:Nat,(l[0]?=some a0∧l[1]?=some a1∧l[2]?=some a2∧l[3]?=some a3∧l[4]?=some a4)∧(a0 < 256∧a1 < 256∧a2 < 256∧a3 < 256∧a4 < 256) ∧
  leV (l.take 2)=a0+256*a1∧l.getD 2 0=a2∧lenF l=a3+256*a4:=by
 match l,h with
 | a::b::c::d::e::r,_=>
  refine⟨a,b,c,d,e,⟨rfl,rfl,rfl,rfl,rfl⟩,⟨hb a (by simp),hb b (by simp),hb c (by simp),hb d (by simp),hb e (by simp)⟩,?_,rfl,?_⟩
  ·simp[leV]
  ·simp[leV,lenF]
theorem step_append_bytes {P:Program} {w:World} {ops:Array Oper} {o:Oper} {a:Act} {K:Act→World→Prop} {Q:Exit→Act→World→Prop} {E:Prop} (hgd:o.guard=none) (s x:Operand) (t:TypeId)
  (ho:o.op=.call { callee:=.builtin .append,args:=#[s,x],argTypes:=#[t,t] })
  (e:TypeId) (i:TypeInfo) (ht:P.underlying t=some (.slice e)) (hi:P.info? e=some i) (hz:i.zero=some (.int .u8 0)) (hs:i.size=1) (hby:i.bytes=1)
  (B:Nat) (A:Option Addr) (n c:Nat) (l:List Nat) (hsv:a.eval s=.slice A n c) (hown:OwnB w e B A c l) (hn:n=l.length)
  (A':Option Addr) (m c':Nat) (k:List Nat) (hx:a.eval x=.slice A' m c') (hr:Bts w A' m k)
  (hbytes:l.length+m≤140737488355328) (hbase:B≤w.heap.size)
  (h:∀A2 c2 w',OwnB w' e B A2 c2 (l++k)→w.grownBy w' (A.map (·.block))→K (a.put o.dst (.slice A2 (n+m) c2)) w'):
  if Region.wanted o (yielded ops a.tmps)=true then Oper.wp P o a w K Q else E:=by
 have hw:Region.wanted o (yielded ops a.tmps)=true:=by simp[Region.wanted,hgd]
 rw[if_pos hw];obtain⟨A2,c2,w',hrun,h2,h3,h4⟩:=run_append_bytes (P:=P) w t o.type e i ht hi hz hs hby B A c l hown A' m c' k hr hbytes hbase n hn;unfold Oper.wp;simp[execOp,ho,resolve,invoke,builtin,hsv,hx,hrun,Result.andThen];exact h A2 c2 w' h2 h3
theorem rSize_v (s:Int) (w:World) (b:Bool) (h:decide (isPg s)=b):
  Calls Tryz.prog 70 #[.int .i64 s] w fun e w'=>e=.returned (.bool b)∧w=w':=by subst h;exact rSize_any s w
theorem rGet_rest (A:Option Addr) (n c:Nat) (l:List Nat) (w:World) (hb:Bts w A n l) (h:isPg (n:Int)) (hbl:blank l=false) (hc:n≤c) (_hc2:c≤9223372036854775807):
  Calls Tryz.prog 35 #[.slice A n c] w (GetP w l):=by
 have e1:decide (isPg (n:Int))=true:=decide_eq_true h
 have hE:sGetE l=if leV (l.take 2)=noughts (l.drop 2) then (if isForm l then 0 else 5) else 7:=by unfold sGetE;rw[hb.1,if_pos h,hbl];simp
 have hn:n≤256:=by unfold isPg at h;omega
 have hn1:128≤n:=by unfold isPg at h;omega
 obtain⟨i0,hi,hz0,hz1,hz2⟩:=info_parts info_u8
 have hF:isForm l↔isKd (l.getD 2 0)∧5+lenF l≤n∧blank (l.drop (5+lenF l))=true:=by unfold isForm;rw[hb.1]
 obtain⟨a0,a1,a2,a3,a4,⟨g0,g1,g2,g3,g4⟩,⟨q0,q1,q2,q3,q4⟩,v0,v1,v2⟩:=five l (by rw[hb.1];omega) hb.2.1;rw[v0] at hE;obtain⟨z,hz⟩:∃z,z=a3+256*a4:=⟨_,rfl⟩;rw[←hz] at v2;have HV:=jH (And.intro v1 v2);rw[v1,v2] at hF
 have hzi:(a3:Int)+256*(a4:Int)=(z:Int):=by omega
 have hzb:z < 65536:=by omega
 generalize hno:noughts (l.drop 2)=no at hE;have HNo:=jH hno;have HE:=jH hE;have HF:=jH hF;have Hb:=jH hb;obtain⟨gb,ob,rfl,hcell⟩:=hb.2.2 (by omega)
 have c0:w.cell? ⟨gb,ob,none⟩=some (.int .u8 (a0:Int)):=by simpa using hcell 0 a0 g0
 have c1:=hcell 1 a1 g1;have c2:=hcell 2 a2 g2;have c3:=hcell 3 a3 g3;have c4:=hcell 4 a4 g4
 have hd2:Bts w (some ⟨gb,ob+2,none⟩) (n - 2) (l.drop 2):=by
  have:=hb.cut (k:=2) (c:=c) (by omega) hc
  rw[if_neg (by omega)] at this;simpa [Addr.add_lit] using this
 have HD2:=jH hd2
 have hc3:¬c=2:=by omega
 have i1:(2:Int)≤(n:Int):=by omega
 have i2:(n:Int)≤(c:Int):=by omega
 have j0:(0:Int) < (n:Int):=by omega
 have j1:(1:Int) < (n:Int):=by omega
 have j2:(2:Int) < (n:Int):=by omega
 have j3:(3:Int) < (n:Int):=by omega
 have j4:(4:Int) < (n:Int):=by omega
 clear h hb hE hd2 hF hno v0 v1 v2 g0 g1 g2 g3 g4 hcell hz;go_enter Tryz.func35,Tryz.ntmps35;go_wp2_with fail;refine (rSize_v _ _ true e1).mono ?_;rintro e w' ⟨rfl,rfl⟩;go_wp2_with fail;refine (rBlank_v _ _ _ l _ Hb.out (by omega) false hbl).mono ?_;rintro e w' ⟨rfl,rfl⟩;go_wp2
 go_quiet ((go_at_call 72;exact quietS (rNoughts_v _ (n - 2) _ (l.drop 2) _ (HD2.out.drewN _) (by omega) no HNo.out)))
 have K3:Hid (New w (w.drewN nq)):=kR.drewN nq;have L3:Hid (Bts (w.drewN nq) (some ⟨gb,ob,none⟩) n l):=Hb.out.drewN nq;have d2:(w.drewN nq).cell? ⟨gb,ob+2,none⟩=some (.int .u8 a2):=c2;have d3:(w.drewN nq).cell? ⟨gb,ob+3,none⟩=some (.int .u8 a3):=c3;have d4:(w.drewN nq).cell? ⟨gb,ob+4,none⟩=some (.int .u8 a4):=c4;generalize w.drewN nq=w3 at *;clear c0 c1 c2 c3 c4 HD2 Hb HNo
 by_cases ht:a0+256*a1=no
 ·have HE5:Hid (¬isForm l→sGetE l=5):=fun h=>by rw[HE.out,if_pos ht,if_neg h]
  have HE0:Hid (isForm l→sGetE l=0):=fun h=>by rw[HE.out,if_pos ht,if_pos h]
  have ht2:((a0:Int)+256*(a1:Int) == (no:Int))=true:=beq_iff_eq.2 (by omega);clear HE ht;go_wp2;clear ht2;go_quiet (fail);have K4:Hid (New w (w3.drewN nq)):=K3.out.drewN nq;have L4:Hid (Bts (w3.drewN nq) (some ⟨gb,ob,none⟩) n l):=L3.out.drewN nq;have d2':(w3.drewN nq).cell? ⟨gb,ob+2,none⟩=some (.int .u8 a2):=d2;generalize w3.drewN nq=w4 at *;clear d2 d3 d4 K3 L3
  by_cases hk1:a2 < 1
  ·go_wp2;go_ret3;exact GetP.no (HE5.out fun h=>by have:=(HF.out.1 h).1;unfold isKd at this;omega) (by omega) K4.out
  ·by_cases hk7:7 < a2
   ·go_wp2;go_ret3;exact GetP.no (HE5.out fun h=>by have:=(HF.out.1 h).1;unfold isKd at this;omega) (by omega) K4.out
   ·have hkd:isKd a2:=by unfold isKd;omega
    by_cases hle:5+z≤n
    ·have B5:Hid (Bts w4 (some ⟨gb,ob+5,none⟩) z ((l.drop 5).take z)):=by
      have:=(L4.out.cut (k:=5) (c:=c) (by omega) hc).take (k:=z) (by omega)
      rw[if_neg (by omega)] at this;simpa [Addr.add_lit,Hid] using this
     have HCut:=jH (L4.out.cut (k:=5+z) (c:=c) hle hc);generalize hbb:blank (l.drop (5+z))=bb;have HBB:=jH hbb
     have hc5:¬c=5:=by omega
     clear L4 hbb;cases bb
     ·go_wp2_with fail
      all_goals refine (rBlank_v _ (n - (5+z)) _ (l.drop (5+z)) _ (by first|(have:=HCut.out;rw[if_pos (by omega)] at this;exact this)|(have:=HCut.out;rw[if_neg (by omega)] at this;simpa [Addr.add_lit] using this)) (by omega) false HBB.out).mono ?_
      all_goals rintro e w' ⟨rfl,rfl⟩
      all_goals go_wp2
      all_goals go_ret3
      all_goals exact GetP.no (HE5.out fun h=>by have:=(HF.out.1 h).2.2;rw[HBB.out] at this;cases this) (by omega) K4.out
     ·have HLN:Hid (((l.drop 5).take z).length=z):=B5.out.1
      have HNB:Hid (([]:List Nat).length+z≤140737488355328):=by show _≤_;simp;omega
      have D2:Hid (w4.drew.cell? ⟨gb,ob+2,none⟩=some (.int .u8 (a2:Int))):=d2';have HWB:Hid (w4.heap.size≤w4.drew.heap.size):=Nat.le_refl _;have HOk:=jH (HE0.out (HF.out.2 ⟨hkd,hle,HBB.out⟩))
      have hwr:IntKind.i64.wrap (5+(z:Int))=5+(z:Int):=by rw[IntKind.wrap_i64];omega
      have htn:(5+(z:Int)).toNat=5+z:=by omega
      have r1:(5:Int)≤5+(z:Int):=by omega
      have r2:5+(z:Int)≤(c:Int):=by omega
      go_wp2_with fail
      all_goals refine (rBlank_v _ (n - (5+z)) _ (l.drop (5+z)) _ (by first|(have:=HCut.out;rw[if_pos (by omega)] at this;exact this)|(have:=HCut.out;rw[if_neg (by omega)] at this;simpa [Addr.add_lit] using this)) (by omega) true HBB.out).mono ?_
      all_goals rintro e w' ⟨rfl,rfl⟩
      all_goals clear HCut
      all_goals go_wp2
      ·have hz9:¬z=0:=by omega
       go_region_law (with_reducible refine step_append_bytes (o:=⟨some 70,_,_,_,_,_⟩) rfl (.tmp 65) (.tmp 69) 52 rfl 5 i0 Tryz.underlying52 hi hz0 hz1 hz2 w4.heap.size none 0 0 [] ?_ (OwnB.nil _ _ _) rfl (some ⟨gb,ob+5,none⟩) z z ((l.drop 5).take z) ?_ B5.out.drew HNB.out HWB.out ?_;(next=>go_simp);(next=>go_simp);intro A5 c5 w5 hown hg;have hk5:New w4.drew w5:=kR.grown hg (by simp);have d2w:w5.cell? ⟨gb,ob+2,none⟩=some (.int .u8 (a2:Int)):=hk5.cell (p:=⟨gb,ob+2,none⟩) D2.out (fun f=>f);have HO5:=jH hown;have HK5:=jH hk5;clear hown hk5 hg)
       all_goals go_simp
       all_goals go_wp2
       all_goals go_ret3
       all_goals exact GetP.ok HOk.out HV.out K4.out.drew HO5.out HK5.out HLN.out
      ·go_region_law (with_reducible refine step_append_bytes (o:=⟨some 70,_,_,_,_,_⟩) rfl (.tmp 65) (.tmp 69) 52 rfl 5 i0 Tryz.underlying52 hi hz0 hz1 hz2 w4.heap.size none 0 0 [] ?_ (OwnB.nil _ _ _) rfl (some ⟨gb,ob+5,none⟩) z (c - 5) ((l.drop 5).take z) ?_ B5.out.drew HNB.out HWB.out ?_;(next=>go_simp);(next=>go_simp);intro A5 c5 w5 hown hg;have hk5:New w4.drew w5:=kR.grown hg (by simp);have d2w:w5.cell? ⟨gb,ob+2,none⟩=some (.int .u8 (a2:Int)):=hk5.cell (p:=⟨gb,ob+2,none⟩) D2.out (fun f=>f);have HO5:=jH hown;have HK5:=jH hk5;clear hown hk5 hg)
       all_goals go_simp
       all_goals go_wp2
       all_goals go_ret3
       all_goals exact GetP.ok HOk.out HV.out K4.out.drew HO5.out HK5.out HLN.out
    ·go_wp2;go_ret3;exact GetP.no (HE5.out fun h=>hle (HF.out.1 h).2.1) (by omega) K4.out
 ·have ht2:((a0:Int)+256*(a1:Int) == (no:Int))=false:=beq_eq_false_iff_ne.2 (by omega);go_wp2;go_ret3;exact GetP.no (by rw[HE.out,if_neg ht]) (by omega) K3.out
theorem rGet_any (A:Option Addr) (n c:Nat) (l:List Nat) (w:World) (hb:Bts w A n l) (hc:n≤c) (hc2:c≤9223372036854775807):
  Calls Tryz.prog 35 #[.slice A n c] w (GetP w l):=by
 by_cases h:isPg (n:Int)
 ·by_cases hbl:blank l=true
  ·exact rGet_blank A n c l w hb h hbl
  ·exact rGet_rest A n c l w hb h (by simpa using hbl) hc (by omega)
 ·exact rGet_arg A n c l w hb.1 (by unfold maxLen;omega) h
end
end Go.Proofs.YtbiihjdjbknibaaGreat
