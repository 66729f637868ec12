/-
  Layer 7: contracts (Ph).
-/
import Derived.Test.YtjjamoemheljdaaGreatC09
import Derived.Lib.QuietBelow
import Derived.Laws.Cover1
namespace Go.Proofs.YtjjamoemheljdaaGreat
set_option maxRecDepth 100000
set_option maxHeartbeats 8000000
set_option linter.unusedSimpArgs false
set_option linter.unusedVariables false
section
open Go.RowKit
theorem less_cb:∀(a b:List UInt8),Op.bytesLess a b=decide (Lib.compareBytes a b < 0)
 | [],[]=>by simp[Op.bytesLess,Lib.compareBytes]
 | [],_::_=>by simp[Op.bytesLess,Lib.compareBytes]
 | _::_,[]=>by simp[Op.bytesLess,Lib.compareBytes]
 | x::a,y::b=>by
  have ih:=less_cb a b;unfold Op.bytesLess Lib.compareBytes
  by_cases h1:x < y
  ·simp[h1]
  ·by_cases h2:y < x
   ·have:x≠y:=fun e=>by subst e;exact absurd h2 (UInt8.lt_irrefl x)
    simp[h1,h2,this]
   ·have:x=y:=UInt8.le_antisymm (UInt8.not_lt.1 h2) (UInt8.not_lt.1 h1)
    subst this;simp[h1,ih]
theorem less_cmp (a b:ByteArray):Op.bytesLess a.toList b.toList=decide (cmpS a b < 0):=by
 rw[Lib.toList_data,Lib.toList_data];exact less_cb _ _
theorem ordS_at {ns:List (ByteArray×Nat)} (h:OrdS ns) {i j:Nat} {x y:ByteArray×Nat} (hij:i < j) (hx:ns[i]?=some x) (hy:ns[j]?=some y):cmpS x.1 y.1 < 0:=by
 obtain⟨h1,rfl⟩:=List.getElem?_eq_some_iff.1 hx;obtain⟨h2,rfl⟩:=List.getElem?_eq_some_iff.1 hy;exact List.pairwise_iff_getElem.1 h i j h1 h2 hij
theorem ordN_at {L:List ND} (h:OrdN L) {i j:Nat} {x y:ND} (hij:i < j) (hx:L[i]?=some x) (hy:L[j]?=some y):x.i < y.i:=by
 obtain⟨h1,rfl⟩:=List.getElem?_eq_some_iff.1 hx;obtain⟨h2,rfl⟩:=List.getElem?_eq_some_iff.1 hy;exact List.pairwise_iff_getElem.1 h i j h1 h2 hij
theorem zan {w wr:World} (h:New w wr) (d:Nat) (os:Array Obj):New w (Go.Sort.grow (redrawn wr d) os):=h.new (New.of_below (below_regrown wr d os))
theorem name_le {s:ByteArray} (h:nameB s=true):s.size≤maxLen:=by
 have:=(name_ne h).2.1
 unfold maxLen
 have e:s.data.toList.length=s.size:=by rw[Array.length_toList];rfl
 omega
theorem rname_yes (s:ByteArray) (h:nameB s=true) (u:World):Calls Tryz.prog 48 #[.string s] u fun e w'=>e=.returned (.bool true)∧w'=u:=
 (rname_any s u (name_le h)).mono fun e w' hh=>⟨by rw[hh.1];exact congrArg (fun b=>Ending.returned (.bool b)) h,hh.2⟩
theorem box25 {w w1:World} {a b c d e f g:Value} {t t':TypeId} (hw:w1=(w.alloc (.cells #[a,b] t)).alloc (.cells #[c,d,e,f,g] t')):New w w1∧∀u,New w1 u→(u.cell? ⟨w.heap.size,0,none⟩=some a∧u.cell? ⟨w.heap.size,1,none⟩=some b) ∧
  u.cell? ⟨w.heap.size+1,0,none⟩=some c∧u.cell? ⟨w.heap.size+1,1,none⟩=some d∧u.cell? ⟨w.heap.size+1,2,none⟩=some e∧u.cell? ⟨w.heap.size+1,3,none⟩=some f∧u.cell? ⟨w.heap.size+1,4,none⟩=some g:=by
 obtain⟨n1,h1⟩:=box2 (w:=w) (a:=a) (b:=b) (t:=t) rfl;obtain⟨n2,h2⟩:=box5 hw;rw[World.size_alloc] at h2;exact⟨n1.new n2,fun u hu=>⟨h1 u (n2.new hu),h2 u hu⟩⟩
theorem rfine_any (p:Nat) (A0:Option Addr) (n0 c0:Nat) (i k l:Nat) (ns:List (ByteArray×Nat)) (b:List Nat) (A:Option Addr) (c:Nat) (B:Option Addr) (d:Nat) (w:World)
  (hA:NmIn w A ns) (hf:Fine p ⟨i,k,l,ns,b⟩) (h1:1≤i) (h2:i≤65535) (hm:ns.length≤1000000) (hp:p≤255) (hb:b.length≤1000000):
  Calls Tryz.prog 65 #[.agg #[.int .i64 p,.slice A0 n0 c0],.agg #[.int .i64 i,.int .u8 k,.int .i64 l,.slice A ns.length c,.slice B b.length d]] w (zbt w true):=by
 obtain⟨w1,hw1⟩:∃w1,w1=(w.alloc (.cells #[.int .i64 p,.slice A0 n0 c0] 25)).alloc (.cells #[.int .i64 i,.int .u8 k,.int .i64 l,.slice A ns.length c,.slice B b.length d] 53):=⟨_,rfl⟩;obtain⟨n1,hbx⟩:=box25 hw1;have BX:=jH hbx;have H:Hid (NmIn w1 A ns):=RowV.new hA n1;have N1:=jH n1;have HW:=jH hw1;have FI:=jH hf;clear hA n1 hw1 hbx hf;generalize hm2:ns.length=m at *;generalize hb2:b.length=bl at *;have HM:=jH hm2;have HB:=jH hb2;clear hm2 hb2;go_enter Tryz.func65,Tryz.ntmps65;go_wp2_with fail;rw[←HW.out];clear HW;generalize w.heap.size=gk at *
 go_loopw [5] (fun q wr=>∃t:Nat,t≤m∧q=.int .i64 t∧Hid (New w1 wr)) (fun q _=>m - (intOf q).toNat)
 case atStart=>exact⟨0,Nat.zero_le _,rfl,kR⟩
 case round=>
  obtain⟨t,ht,rfl,HN⟩:=hrel;obtain⟨⟨b0,b1⟩,c0,c1,c2,c3,c4⟩:=BX.out wr HN.out
  by_cases hlt:t < m
  ·obtain⟨g,o,e,eA,he⟩:=NmIn.pos (RowV.new H.out HN.out) (i:=t) (by rw[HM.out];exact hlt);subst eA;obtain⟨y0,y1⟩:=NmIn.get (RowV.new H.out HN.out) he;have hnm:=FI.out.2.1 e (List.mem_of_getElem? he);have cB:=jH (fun (u:World)=>rname_yes e.1 hnm u)
   rcases Nat.eq_zero_or_pos t with h0|h0
   ·have s1:(t:Int) < (m:Int):=by omega
    have s2:decide (0 < t)=false:=decide_eq_false (by omega);clear h0 he hnm b0 b1 c0 c1 c2 c4 y1;go_wp2_with fail
    go_quiet ((go_at_call 48;exact Calls.quiet_of_same (cB.out _)))
    have K9:Hid (New w1 (wr.drewN nq)):=HN.out.drewN nq;clear cB y0 c3;go_wp2;go_roundw
    case rel=>exact⟨t+1,by omega,by go_num,K9⟩
    case measure=>simp[intOf];omega
   ·obtain⟨s,rfl⟩:∃s,t=s+1:=⟨t - 1,by omega⟩;obtain⟨f,hf⟩:∃f,ns[s]?=some f:=⟨_,List.getElem?_eq_getElem (by rw[HM.out];omega)⟩;obtain⟨z0,_⟩:=NmIn.get (RowV.new H.out HN.out) hf
    have hlt3:Op.bytesLess f.1.toList e.1.toList=true:=by rw[less_cmp];exact decide_eq_true (ordS_at FI.out.1 (Nat.lt_succ_self s) hf he)
    have s0:IntKind.i64.wrap (s:Int)=(s:Int):=by rw[IntKind.wrap_i64];omega
    have s1:(0:Int)≤(s:Int)+1:=by omega
    have s2:((s:Int)+1).toNat=s+1:=by omega
    have s3:(s:Int) < (m:Int):=by omega
    have s4:(s:Int)+1 < (m:Int):=by omega
    have s5:(0:Int) < (s:Int)+1:=by omega
    clear he hnm hf b0 b1 c0 c1 c2 c4 y1;go_wp2_with fail
    go_quiet ((go_at_call 48;exact Calls.quiet_of_same (cB.out _)))
    have K9:Hid (New w1 (wr.drewN nq)):=HN.out.drewN nq;clear cB y0 z0 c3;go_wp2;go_roundw
    case rel=>exact⟨s+2,by omega,by go_num,K9⟩
    case measure=>simp[intOf];omega
  ·obtain rfl:t=m:=by omega
   have d1:decide (((i:Nat):Int) < 1)=false:=decide_eq_false (by omega);have d2:decide ((65535:Int) < ((i:Nat):Int))=false:=decide_eq_false (by omega)
   rcases FI.out.2.2.2 with ⟨hk,hl,hbb⟩|⟨hk,hl1,hl6,hns,hbb⟩
   ·have hk:k=1:=hk;have hl:l=1:=hl;have hbb:b=[]:=hbb
    have hbl:bl=0:=by rw[←HB.out,hbb];rfl
    subst hk hl hbl;go_wp2;go_ret;exact⟨rfl,N1.out.new HN.out⟩
   ·have hk:k=2:=hk;have hl1:1≤l:=hl1;have hl6:l≤6:=hl6;have hns:ns=[]:=hns;have hbb:b.length≤8*p:=hbb
    have hbl:(bl:Int)≤8*(p:Int):=by rw[HB.out] at hbb;omega
    have hml:t=0:=by rw[←HM.out,hns];rfl
    have d3:decide ((1:Int)≤((l:Nat):Int))=true:=decide_eq_true (by omega);have d4:decide (((l:Nat):Int)≤6)=true:=decide_eq_true (by omega);have d5:decide ((bl:Int)≤8*(p:Int))=true:=decide_eq_true hbl;subst hk hml;go_wp2;go_ret;exact⟨rfl,N1.out.new HN.out⟩
end
end Go.Proofs.YtjjamoemheljdaaGreat
