/-
  Layer 7: contracts (Pf Pg).
-/
import Derived.Test.YtjjamoemheljdaaGreatC08
import Derived.Test.YtjjamoemheljdaaGreatC04
namespace Go.Proofs.YtjjamoemheljdaaGreat
set_option maxRecDepth 100000
set_option maxHeartbeats 8000000
set_option linter.unusedSimpArgs false
set_option linter.unusedVariables false
section
open Go.RowKit
def zaw (w:World) (z:Int) (e:Ending) (w':World):Prop:=e=.returned (.int .i64 z)∧New w w'
def zbt (w:World) (b:Bool) (e:Ending) (w':World):Prop:=e=.returned (.bool b)∧New w w'
def noI (L:List ND) (j:Nat):Int:=match ndI L j with
 | none=>-1
 | some _=>((posI L j:Nat):Int)
theorem box2 {w w1:World} {a b:Value} {t:TypeId} (hw:w1=w.alloc (.cells #[a,b] t)):New w w1∧∀u,New w1 u→u.cell? ⟨w.heap.size,0,none⟩=some a∧u.cell? ⟨w.heap.size,1,none⟩=some b:=by
 have n1:New w w1:=by rw[hw];exact kR.alloc _
 refine⟨n1,fun u hu=>?_⟩
 have:=(Blk.made w t #[a,b])
 rw[←hw] at this
 have:=this.kept hu id
 exact⟨this.cell 0,this.cell 1⟩
theorem box5 {w w1:World} {a b c d e:Value} {t:TypeId} (hw:w1=w.alloc (.cells #[a,b,c,d,e] t)):New w w1∧∀u,New w1 u →
  u.cell? ⟨w.heap.size,0,none⟩=some a∧u.cell? ⟨w.heap.size,1,none⟩=some b∧u.cell? ⟨w.heap.size,2,none⟩=some c∧u.cell? ⟨w.heap.size,3,none⟩=some d∧u.cell? ⟨w.heap.size,4,none⟩=some e:=by
 have n1:New w w1:=by rw[hw];exact kR.alloc _
 refine⟨n1,fun u hu=>?_⟩
 have:=(Blk.made w t #[a,b,c,d,e])
 rw[←hw] at this
 have:=this.kept hu id
 exact⟨this.cell 0,this.cell 1,this.cell 2,this.cell 3,this.cell 4⟩
theorem zam (p:Int) (A:Option Addr) (n c:Nat) (es:List NE) (j:Nat) (w:World) (h:TIn w A es) (hn:es.length=n) (hm:n≤1000000):
  Calls Tryz.prog 25 #[.agg #[.int .i64 p,.slice A n c],.int .i64 j] w (zaw w (noI (nds es) j)):=by
 have HL:Hid (posI (nds es) j≤n):=by have:=pos_le (nds es) j;rw[zab,hn] at this;exact this
 have HA:Hid (∀(k:Nat) (x:ND),(nds es)[k]?=some x→k≤posI (nds es) j→(x.i=j→noI (nds es) j=(k:Int))∧(x.i≠j→k+1≤posI (nds es) j)):=by
  intro k x hx hk
  have hlt:k=posI (nds es) j→x.i=j∨ndI (nds es) j=none:=fun e=>by
   cases hnd:ndI (nds es) j with
   | none=>exact .inr rfl
   | some y=>
    have h2:=pos_some hnd;rw[←e,hx] at h2
    injection h2 with h2
    subst h2;exact .inl (zaa hnd).2
  constructor
  ·intro hxj;have hin:j∈inos (nds es):=zav.2 ⟨x,List.mem_of_getElem? hx,hxj⟩;obtain⟨y,hy⟩:=ndI_of hin
   have hkp:k=posI (nds es) j:=by
    rcases Nat.lt_or_ge k (posI (nds es) j) with h1|h1
    ·exact absurd hxj (pos_lt h1 hx)
    ·omega
   unfold noI;rw[hy,hkp]
  ·intro hxj
   rcases Nat.lt_or_ge k (posI (nds es) j) with h1|h1
   ·omega
   ·rcases hlt (by omega) with h2|h2
    ·exact absurd h2 hxj
    ·have:=pos_none h2
     have:=(List.getElem?_eq_some_iff.1 hx).1
     omega
 have HZ:Hid (n≤posI (nds es) j→noI (nds es) j=-1):=by
  intro hh;unfold noI
  cases hnd:ndI (nds es) j with
  | none=>rfl
  | some y=>
   have h2:=(List.getElem?_eq_some_iff.1 (pos_some hnd)).1;rw[zab,hn] at h2;omega
 obtain⟨w1,hw1⟩:∃w1,w1=w.alloc (.cells #[.int .i64 p,.slice A n c] 25):=⟨_,rfl⟩;obtain⟨n1,hb⟩:=box2 hw1;have B:=jH hb;have H:=jH (h.new n1);have N1:=jH n1;have HW:=jH hw1;have LN:=jH hn;clear h n1 hw1 hb hn;go_enter Tryz.func25,Tryz.ntmps25;go_wp2_with fail;rw[←HW.out];clear HW;generalize w.heap.size=gk at *
 go_loopw [5] (fun i wr=>∃k:Nat,k≤n∧i=.int .i64 k∧Hid (k≤posI (nds es) j)∧Hid (New w1 wr)) (fun i _=>n - (intOf i).toNat)
 case atStart=>exact⟨0,Nat.zero_le _,rfl,Nat.zero_le _,kR⟩
 case round=>
  obtain⟨k,hk,rfl,HK,HN⟩:=hrel;obtain⟨b0,b1⟩:=B.out wr HN.out
  by_cases hlt:k < n
  ·obtain⟨g,o,x,eA,hx,_,x0,_,_,_,_⟩:=(H.out.new HN.out).at_ (i:=k) (by rw[LN.out];exact hlt);subst eA;obtain⟨ha1,ha2⟩:=HA.out k x.n (zbc hx) HK.out;clear hx
   by_cases hxj:x.n.i=j
   ·have E:=jH (ha1 hxj)
    have hxj':((x.n.i:Nat):Int)=((j:Nat):Int):=by omega
    clear ha1 ha2 HA;rw[hxj'] at x0;clear hxj hxj';go_wp2;go_ret;exact⟨by rw[E.out];rfl,N1.out.new HN.out⟩
   ·have E:=jH (ha2 hxj);have hxj':(((x.n.i:Nat):Int) == ((j:Nat):Int))=false:=beq_eq_false_iff_ne.2 (by omega);clear ha1 ha2 hxj;go_wp2;go_roundw
    case rel=>exact⟨k+1,by omega,by go_num,E.out,HN⟩
    case measure=>simp[intOf];omega
  ·obtain rfl:k=n:=by omega
   have E:=jH (HZ.out HK.out);clear HA HZ;go_wp2;go_ret;exact⟨by rw[E.out];rfl,N1.out.new HN.out⟩
theorem bs_eq (s t:ByteArray):(s.toList == t.toList)=decide (s=t):=by
 rw[Lib.toList_data,Lib.toList_data,Bool.eq_iff_iff];simp only[beq_iff_eq,decide_eq_true_iff];exact⟨ba_ext,fun h=>by rw[h]⟩
theorem entF_at:∀{ns:List (ByteArray×Nat)} {k:Nat} {e:ByteArray×Nat} {nm:ByteArray},ns[k]?=some e→(∀(j:Nat) (f:ByteArray×Nat),j < k→ns[j]?=some f→f.1≠nm)→e.1=nm→entF ns nm=e.2
 | [],_,_,_,h,_,_=>by simp at h
 | x::r,0,e,nm,h,_,he=>by
  simp at h;subst h;unfold entF;rw[if_pos he]
 | x::r,k+1,e,nm,h,hn,he=>by
  unfold entF;rw[if_neg (hn 0 x (by omega) rfl)];exact entF_at (k:=k) (by simpa using h) (fun j f hj hf=>hn (j+1) f (by omega) (by simpa using hf)) he
theorem entF_all {ns:List (ByteArray×Nat)} {nm:ByteArray} (h:∀(j:Nat) (f:ByteArray×Nat),ns[j]?=some f→f.1≠nm):entF ns nm=0:=
 entF_none fun ⟨e,he,hh⟩=>by
  obtain⟨j,hj⟩:=List.mem_iff_getElem?.1 he;exact h j e hj hh
theorem rentry_any (i k l:Int) (A Bb:Option Addr) (m c bl d:Nat) (ns:List (ByteArray×Nat)) (nm:ByteArray) (w:World) (h:NmIn w A ns) (hn:ns.length=m) (hm:m≤1000000):
  Calls Tryz.prog 68 #[.agg #[.int .i64 i,.int .u8 k,.int .i64 l,.slice A m c,.slice Bb bl d],.string nm] w (zaw w ((entF ns nm:Nat):Int)):=by
 obtain⟨w1,hw1⟩:∃w1,w1=w.alloc (.cells #[.int .i64 i,.int .u8 k,.int .i64 l,.slice A m c,.slice Bb bl d] 53):=⟨_,rfl⟩;obtain⟨n1,hb⟩:=box5 hw1;have B:=jH hb;have H:Hid (NmIn w1 A ns):=h.new n1;have N1:=jH n1;have HW:=jH hw1;have LN:=jH hn;clear h n1 hw1 hb hn;go_enter Tryz.func68,Tryz.ntmps68;go_wp2_with fail;rw[←HW.out];clear HW;generalize w.heap.size=gk at *
 go_loopw [5] (fun i wr=>∃k:Nat,k≤m∧i=.int .i64 k∧Hid (∀(j:Nat) (f:ByteArray×Nat),j < k→ns[j]?=some f→f.1≠nm)∧Hid (New w1 wr)) (fun i _=>m - (intOf i).toNat)
 case atStart=>exact⟨0,Nat.zero_le _,rfl,fun j f hj _=>by omega,kR⟩
 case round=>
  obtain⟨k,hk,rfl,HK,HN⟩:=hrel;obtain⟨_,_,_,b3,_⟩:=B.out wr HN.out
  by_cases hlt:k < m
  ·obtain⟨g,o,x,eA,hx,x0,x1⟩:=NmIn.at_ (i:=k) (RowV.new H.out HN.out) (by rw[LN.out];exact hlt);subst eA;have hd:=bs_eq x.1 nm
   by_cases hxn:x.1=nm
   ·have E:=jH (entF_at hx HK.out hxn);rw[decide_eq_true hxn] at hd;clear hx hxn HK;go_wp2;go_ret;exact⟨by rw[E.out];rfl,N1.out.new HN.out⟩
   ·have E:Hid (∀(j:Nat) (f:ByteArray×Nat),j < k+1→ns[j]?=some f→f.1≠nm):=fun j f hj hf=>by
     rcases Nat.lt_or_ge j k with h1|h1
     ·exact HK.out j f h1 hf
     ·obtain rfl:j=k:=by omega
      rw[hx] at hf
      injection hf with hf
      subst hf;exact hxn
    rw[decide_eq_false hxn] at hd;clear hx hxn HK;go_wp2;go_roundw
    case rel=>exact⟨k+1,by omega,by go_num,E,HN⟩
    case measure=>simp[intOf];omega
  ·obtain rfl:k=m:=by omega
   have E:Hid (entF ns nm=0):=entF_all fun j f hf=>HK.out j f (by have:=(List.getElem?_eq_some_iff.1 hf).1;rw[LN.out] at this;exact this) hf
   clear HK;go_wp2;go_ret;exact⟨by rw[E.out];rfl,N1.out.new HN.out⟩
theorem cntL_take {L:List ND} {k:Nat} {n:ND} (h:L[k]?=some n) (j:Nat):cntL (L.take (k+1)) j=cntL (L.take k) j+cntN n.ns j:=by
 induction L generalizing k with
 | nil=>simp at h
 | cons m r ih=>
  cases k with
  | zero=>simp at h;subst h;simp[cntL]
  | succ k=>
   rw[List.take_succ_cons,cntL,ih (k:=k) (by simpa using h),List.take_succ_cons,cntL];omega
theorem cntN_take {ns:List (ByteArray×Nat)} {k:Nat} {e:ByteArray×Nat} (h:ns[k]?=some e) (j:Nat):cntN (ns.take (k+1)) j=cntN (ns.take k) j+if e.2=j then 1 else 0:=by
 unfold cntN;rw[List.take_add_one,h,Option.toList_some,List.countP_append,List.countP_singleton];simp only[beq_iff_eq]
theorem rcount_any (p:Int) (A:Option Addr) (n c:Nat) (es:List NE) (j:Nat) (w:World) (h:TIn w A es) (hn:es.length=n) (hm:n≤1000) (hs:∀e∈es,e.n.ns.length≤1000000):
  Calls Tryz.prog 66 #[.agg #[.int .i64 p,.slice A n c],.int .i64 j] w (zaw w ((cntL (nds es) j:Nat):Int)):=by
 obtain⟨w1,hw1⟩:∃w1,w1=w.alloc (.cells #[.int .i64 p,.slice A n c] 25):=⟨_,rfl⟩;obtain⟨n1,hb⟩:=box2 hw1;have B:=jH hb;have H:=jH (h.new n1);have N1:=jH n1;have HW:=jH hw1;have LN:=jH hn;have HS:=jH hs;clear h n1 hw1 hb hn hs;go_enter Tryz.func66,Tryz.ntmps66;go_wp2_with fail;rw[←HW.out];clear HW;generalize w.heap.size=gk at *
 go_loopw [5,6] (fun q i wr=>∃k s:Nat,k≤n∧i=.int .i64 k∧q=.int .i64 s∧s≤k*1000000∧Hid (s=cntL ((nds es).take k) j)∧Hid (New w1 wr)) (fun _ i _=>n - (intOf i).toNat)
 case atStart=>exact⟨0,0,Nat.zero_le _,rfl,rfl,by omega,rfl,kR⟩
 case round=>
  obtain⟨k,s,hk,rfl,rfl,hs,HK,HN⟩:=hrel
  by_cases hlt:k < n
  ·obtain⟨g,o,x,eA,hx⟩:=H.out.pos (i:=k) (by rw[LN.out];exact hlt);subst eA;have hxl:x.n.ns.length≤1000000:=HS.out x (List.mem_of_getElem? hx);have HT:Hid (cntL ((nds es).take (k+1)) j=cntL ((nds es).take k) j+cntN x.n.ns j):=cntL_take (zbc hx) j
   have C:Hid (∀u,New w1 u→NOk u x∧u.cell? ⟨gk,1,none⟩=some (.slice (some ⟨g,o,none⟩) n c)∧u.cell? ⟨g,o+k*5+3,none⟩=some (.slice x.A x.n.ns.length x.c)):=fun u hu=>by
    obtain⟨q0,_,_,_,q3,_⟩:=(H.out.new hu).get hx;exact⟨q0,(B.out u hu).2,q3⟩
   clear hx;obtain⟨xn,xA,xc,xB,xd⟩:=x;simp only at hxl HT
   have C:Hid (∀u,New w1 u→NmIn u xA xn.ns∧u.cell? ⟨gk,1,none⟩=some (.slice (some ⟨g,o,none⟩) n c)∧u.cell? ⟨g,o+k*5+3,none⟩=some (.slice xA xn.ns.length xc)):=fun u hu=>⟨(C.out u hu).1.1,(C.out u hu).2⟩
   generalize hm2:xn.ns.length=m at *;have HM:=jH hm2;clear hm2;obtain⟨_,b1,x3⟩:=C.out wr HN.out;go_wp2_with fail
   go_loopw [5,7] (fun q i wx=>∃t z:Nat,t≤m∧i=.int .i64 t∧q=.int .i64 z∧z≤k*1000000+t∧Hid (z=cntL ((nds es).take k) j+cntN (xn.ns.take t) j)∧Hid (New w1 wx)) (fun _ i _=>m - (intOf i).toNat)
   case atStart=>exact⟨0,s,Nat.zero_le _,rfl,rfl,Nat.le_trans hs (Nat.le_add_right _ _),by rw[Hid,List.take_zero];exact HK.out,HN⟩
   case round=>
    obtain⟨t,z,ht,rfl,rfl,hz,HZ,HN2⟩:=hrel;clear HN HK b1 x3;obtain⟨hok,b1,x3⟩:=C.out wr HN2.out
    by_cases hlt2:t < m
    ·obtain⟨g2,o2,e,eA2,he⟩:=NmIn.pos hok (i:=t) (by rw[HM.out];exact hlt2);subst eA2;obtain⟨y0,y1⟩:=NmIn.get hok he;have HE:=jH (cntN_take he j);clear hok he
     by_cases hej:e.2=j
     ·have hej':((e.2:Nat):Int)=((j:Nat):Int):=by omega
      rw[hej'] at y1
      have HZ2:Hid (z+1=cntL ((nds es).take k) j+cntN (xn.ns.take (t+1)) j):=by rw[Hid,HE.out,if_pos hej];have:=HZ.out;omega
      clear hej hej' HZ HE;go_wp2;go_roundw
      case rel=>exact⟨t+1,z+1,by omega,by go_num,by go_num,by omega,HZ2,HN2⟩
      case measure=>simp[intOf];omega
     ·have hej':(((e.2:Nat):Int) == ((j:Nat):Int))=false:=beq_eq_false_iff_ne.2 (by omega)
      have HZ2:Hid (z=cntL ((nds es).take k) j+cntN (xn.ns.take (t+1)) j):=by rw[Hid,HE.out,if_neg hej];have:=HZ.out;omega
      clear hej HZ HE;go_wp2;go_roundw
      case rel=>exact⟨t+1,z,by omega,by go_num,rfl,by omega,HZ2,HN2⟩
      case measure=>simp[intOf];omega
    ·obtain rfl:t=m:=by omega
     have HZ2:Hid (z=cntL ((nds es).take (k+1)) j):=by rw[Hid,HT.out,HZ.out,List.take_of_length_le (l:=xn.ns) (by rw[HM.out];exact Nat.le_refl _)]
     clear HZ hok;go_wp2;go_roundw
     case rel=>exact⟨k+1,z,by omega,by go_num,rfl,by omega,HZ2,HN2⟩
     case measure=>simp[intOf];omega
  ·obtain rfl:k=n:=by omega
   have E:Hid (s=cntL (nds es) j):=by have:=HK.out;rwa [List.take_of_length_le (by rw[zab,LN.out];exact Nat.le_refl _)] at this
   obtain⟨b0,b1⟩:=B.out wr HN.out;clear HK;go_wp2;go_ret;exact⟨by rw[←E.out];rfl,N1.out.new HN.out⟩
end
section
open Go.RowKit
def parI:List ND→Nat→Int
 | [],_=>-1
 | n::r,j=>if cntN n.ns j=0 then parI r j else ((n.i:Nat):Int)
theorem parI_at:∀{L:List ND} {k:Nat} {n:ND} {j:Nat},L[k]?=some n→cntL (L.take k) j=0→cntN n.ns j≠0→parI L j=((n.i:Nat):Int)
 | [],_,_,_,h,_,_=>by simp at h
 | m::r,0,n,j,h,_,hc=>by
  simp at h;subst h;unfold parI;rw[if_neg hc]
 | m::r,k+1,n,j,h,h0,hc=>by
  rw[List.take_succ_cons,cntL] at h0;unfold parI;rw[if_pos (by omega)];exact parI_at (k:=k) (by simpa using h) (by omega) hc
theorem parI_none:∀{L:List ND} {j:Nat},cntL L j=0→parI L j=-1
 | [],_,_=>rfl
 | m::r,j,h=>by
  rw[cntL] at h;unfold parI;rw[if_pos (by omega)];exact parI_none (by omega)
theorem parI_some {L:List ND} {j:Nat} (h:cntL L j≠0):∃n∈L,∃e∈n.ns,e.2=j∧parI L j=((n.i:Nat):Int):=by
 induction L with
 | nil=>exact absurd rfl h
 | cons m r ih=>
  unfold parI
  by_cases hc:cntN m.ns j=0
  ·rw[if_pos hc];rw[cntL] at h;obtain⟨n,hn,e,he,h1,h2⟩:=ih (by omega);exact⟨n,List.mem_cons_of_mem _ hn,e,he,h1,h2⟩
  ·rw[if_neg hc];unfold cntN at hc;obtain⟨e,he,h1⟩:=List.countP_pos_iff.1 (Nat.pos_of_ne_zero hc);exact⟨m,List.mem_cons_self ..,e,he,by simpa using h1,rfl⟩
theorem rparent_any (p:Int) (A:Option Addr) (n c:Nat) (es:List NE) (j:Nat) (w:World) (h:TIn w A es) (hn:es.length=n) (hm:n≤1000) (hs:∀e∈es,e.n.ns.length≤1000000):
  Calls Tryz.prog 96 #[.agg #[.int .i64 p,.slice A n c],.int .i64 j] w (zaw w (parI (nds es) j)):=by
 obtain⟨w1,hw1⟩:∃w1,w1=w.alloc (.cells #[.int .i64 p,.slice A n c] 25):=⟨_,rfl⟩;obtain⟨n1,hb⟩:=box2 hw1;have B:=jH hb;have H:=jH (h.new n1);have N1:=jH n1;have HW:=jH hw1;have LN:=jH hn;have HS:=jH hs;clear h n1 hw1 hb hn hs;go_enter Tryz.func96,Tryz.ntmps96;go_wp2_with fail;rw[←HW.out];clear HW;generalize w.heap.size=gk at *
 go_loopw [5] (fun i wr=>∃k:Nat,k≤n∧i=.int .i64 k∧Hid (cntL ((nds es).take k) j=0)∧Hid (New w1 wr)) (fun i _=>n - (intOf i).toNat)
 case atStart=>exact⟨0,Nat.zero_le _,rfl,rfl,kR⟩
 case round=>
  obtain⟨k,hk,rfl,HK,HN⟩:=hrel
  by_cases hlt:k < n
  ·obtain⟨g,o,x,eA,hx⟩:=H.out.pos (i:=k) (by rw[LN.out];exact hlt);subst eA;have hxl:x.n.ns.length≤1000000:=HS.out x (List.mem_of_getElem? hx);have HT:Hid (cntL ((nds es).take (k+1)) j=cntL ((nds es).take k) j+cntN x.n.ns j):=cntL_take (zbc hx) j
   have HF:Hid (cntN x.n.ns j≠0→parI (nds es) j=((x.n.i:Nat):Int)):=fun hh=>parI_at (zbc hx) HK.out hh
   have C:Hid (∀u,New w1 u→NmIn u x.A x.n.ns∧u.cell? ⟨gk,1,none⟩=some (.slice (some ⟨g,o,none⟩) n c)∧u.cell? ⟨g,o+k*5,none⟩=some (.int .i64 x.n.i)∧u.cell? ⟨g,o+k*5+3,none⟩=some (.slice x.A x.n.ns.length x.c)):=fun u hu=>by
    obtain⟨q0,q1,_,_,q3,_⟩:=(H.out.new hu).get hx;exact⟨q0.1,(B.out u hu).2,q1,q3⟩
   clear hx;obtain⟨⟨xi,xk,xl,xns,xb⟩,xA,xc,xB,xd⟩:=x;simp only at hxl HT;have C:Hid (∀u,New w1 u→NmIn u xA xns∧u.cell? ⟨gk,1,none⟩=some (.slice (some ⟨g,o,none⟩) n c)∧u.cell? ⟨g,o+k*5,none⟩=some (.int .i64 xi)∧u.cell? ⟨g,o+k*5+3,none⟩=some (.slice xA xns.length xc)):=C;have HF:Hid (cntN xns j≠0→parI (nds es) j=((xi:Nat):Int)):=HF;generalize hm2:xns.length=m at *;have HM:=jH hm2;clear hm2;obtain⟨_,b1,_,x3⟩:=C.out wr HN.out;go_wp2_with fail
   go_loopw [6] (fun i wx=>∃t:Nat,t≤m∧i=.int .i64 t∧Hid (cntN (xns.take t) j=0)∧Hid (New w1 wx)) (fun i _=>m - (intOf i).toNat)
   case atStart=>exact⟨0,Nat.zero_le _,rfl,rfl,HN⟩
   case round=>
    obtain⟨t,ht,rfl,HZ,HN2⟩:=hrel;clear HN b1 x3;obtain⟨hok,b1,x0,x3⟩:=C.out wr HN2.out
    by_cases hlt2:t < m
    ·obtain⟨g2,o2,e,eA2,he⟩:=NmIn.pos hok (i:=t) (by rw[HM.out];exact hlt2);subst eA2;obtain⟨y0,y1⟩:=NmIn.get hok he;have HE:=jH (cntN_take he j);have hem:=List.mem_of_getElem? he;clear hok he
     by_cases hej:e.2=j
     ·have hej':((e.2:Nat):Int)=((j:Nat):Int):=by omega
      rw[hej'] at y1;have E9:=jH (HF.out (by have:=zcu hem;rw[hej] at this;omega));clear hej hej' HZ HE hem HF;go_wp2;go_ret;exact⟨by rw[E9.out];rfl,N1.out.new HN2.out⟩
     ·have hej':(((e.2:Nat):Int) == ((j:Nat):Int))=false:=beq_eq_false_iff_ne.2 (by omega)
      have HZ2:Hid (cntN (xns.take (t+1)) j=0):=by rw[Hid,HE.out,if_neg hej];exact HZ.out
      clear hej HZ HE hem;go_wp2;go_roundw
      case rel=>exact⟨t+1,by omega,by go_num,HZ2,HN2⟩
      case measure=>simp[intOf];omega
    ·obtain rfl:t=m:=by omega
     have HZ2:Hid (cntL ((nds es).take (k+1)) j=0):=by
      have h1:=HZ.out;rw[List.take_of_length_le (l:=xns) (by rw[HM.out];exact Nat.le_refl _)] at h1;rw[Hid,HT.out,HK.out,h1]
     clear HZ hok;go_wp2;go_roundw
     case rel=>exact⟨k+1,by omega,by go_num,HZ2,HN2⟩
     case measure=>simp[intOf];omega
  ·obtain rfl:k=n:=by omega
   have E:Hid (parI (nds es) j=-1):=parI_none (by have:=HK.out;rwa [List.take_of_length_le (by rw[zab,LN.out];exact Nat.le_refl _)] at this);obtain⟨b0,b1⟩:=B.out wr HN.out;clear HK;go_wp2;go_ret;exact⟨by rw[E.out];rfl,N1.out.new HN.out⟩
theorem par_dep {T:TT} (h:Rt T) {d:Nat→Nat} (hd:Deep T.l d) {n:ND} (hn:n∈T.l) (hk:n.k=1) (h1:n.i≠1):∃m∈T.l,m.k=1∧parI T.l n.i=((m.i:Nat):Int)∧d n.i=d m.i+1∧d n.i≤6:=by
 have hc:cntL T.l n.i≠0:=by rw[h.cnt,want_of h.ord hn,if_neg h1,(zcs (h.fin n hn) hk).1];omega
 obtain⟨m,hm,e,he,h2,h3⟩:=parI_some hc;obtain⟨a,b⟩:=hd.2 m hm e he
 have:=b n hn h2.symm hk
 rw[h2] at this;exact⟨m,hm,fine_ns (h.fin m hm) he,h3,this,by omega⟩
theorem root_dep {T:TT} (h:Rt T) {d:Nat→Nat} (hd:Deep T.l d) {n:ND} (hn:n∈T.l) (hk:n.k=1):d n.i≤6∧(d n.i=0↔n.i=1):=by
 by_cases h1:n.i=1
 ·rw[h1];exact⟨by rw[hd.1];omega,⟨fun _=>rfl,fun _=>hd.1⟩⟩
 ·obtain⟨m,_,_,_,h2,h3⟩:=par_dep h hd hn hk h1;exact⟨h3,⟨fun h=>by omega,fun h=>absurd h h1⟩⟩
theorem rdepth_any (p:Nat) (A:Option Addr) (n c:Nat) (es:List NE) (x:ND) (w:World) (h:TIn w A es) (hn:es.length=n) (hR:Rt ⟨p,nds es⟩) (hs:∀e∈es,e.n.ns.length≤1000000) (d:Nat→Nat) (hd:Deep (nds es) d) (hx:x∈nds es) (hk:x.k=1):
  Calls Tryz.prog 67 #[.agg #[.int .i64 p,.slice A n c],.int .i64 x.i] w (zaw w ((d x.i:Nat):Int)):=by
 have hm:n≤1000:=by have:=hR.len;rw[zab,hn] at this;omega
 obtain⟨w1,hw1⟩:∃w1,w1=w.alloc (.cells #[.int .i64 p,.slice A n c] 25):=⟨_,rfl⟩;obtain⟨n1,hb⟩:=box2 hw1;have B:=jH hb;have H:=jH (h.new n1);have N1:=jH n1;have HW:=jH hw1
 have CP:Hid (∀(y:Nat) u,New w1 u→Calls Tryz.prog 96 #[.agg #[.int .i64 p,.slice A n c],.int .i64 (y:Nat)] u (zaw u (parI (nds es) y))):=fun y u hu=>
  rparent_any p A n c es y u (H.out.new hu) hn hm hs
 have PD:Hid (∀y∈nds es,y.k=1→y.i≠1→∃m∈nds es,m.k=1∧parI (nds es) y.i=((m.i:Nat):Int)∧d y.i=d m.i+1∧d y.i≤6):=fun y hy hk h1=>par_dep hR hd hy hk h1
 have RD:Hid (∀y∈nds es,y.k=1→d y.i≤6∧(d y.i=0↔y.i=1)):=fun y hy hk=>root_dep hR hd hy hk
 have HX:=jH (And.intro hx hk);clear h n1 hw1 hb hn hs hR hx hk hd;go_enter Tryz.func67,Tryz.ntmps67;go_wp2_with fail;rw[←HW.out];clear HW;generalize w.heap.size=gk at *
 go_loopw [1,5] (fun q i wr=>∃y:ND,∃z:Nat,q=.int .i64 y.i∧i=.int .i64 z∧z≤6∧Hid (y∈nds es∧y.k=1)∧Hid (d x.i=z+d y.i)∧Hid (New w1 wr)) (fun _ i _=>7 - (intOf i).toNat)
 case atStart=>exact⟨x,0,rfl,rfl,by omega,HX,by rw[Hid];omega,kR⟩
 case round=>
  obtain⟨y,z,rfl,rfl,hz,HY,HD,HN⟩:=hrel;obtain⟨b0,b1⟩:=B.out wr HN.out
  by_cases h1:y.i=1
  ·have E:Hid (d x.i=z):=by rw[Hid,HD.out,(RD.out y HY.out.1 HY.out.2).2.2 h1];rfl
   have h1':((y.i:Nat):Int)=1:=by omega
   rw[h1'];clear h1 h1' HD HY;go_wp2;go_ret;exact⟨by rw[E.out];rfl,N1.out.new HN.out⟩
  ·obtain⟨m,hm1,hm2,hm3,hm4,hm5⟩:=PD.out y HY.out.1 HY.out.2 h1;have d1:(((y.i:Nat):Int) != 1)=true:=bne_iff_ne.2 (by omega);have hx6:d x.i≤6:=(RD.out x HX.out.1 HX.out.2).1;have HD0:=HD.out
   have hz6:z+1≤6:=by omega
   have HD2:Hid (d x.i=z+1+d m.i):=by rw[Hid];omega
   have HM:Hid (m∈nds es∧m.k=1):=⟨hm1,hm2⟩;have HC:Hid (parI (nds es) y.i=((m.i:Nat):Int)):=hm3;have d2:decide (((z:Nat):Int) < 7)=true:=decide_eq_true (by omega);have d3:decide (((m.i:Nat):Int) < 0)=false:=decide_eq_false (by omega);clear h1 hm1 hm2 hm3 hm4 hm5 hx6 HD0 HD;go_wp2_with fail;refine (CP.out y.i _ HN.out).mono ?_;rintro e w2 ⟨rfl,k2⟩;rw[HC.out];have K2:=jH (HN.out.new k2);clear k2;obtain⟨b0,b1⟩:=B.out w2 K2.out;go_wp2;go_roundw
   case rel=>exact⟨m,z+1,rfl,by go_num,hz6,HM,HD2,K2⟩
   case measure=>simp[intOf];omega
end
end Go.Proofs.YtjjamoemheljdaaGreat
