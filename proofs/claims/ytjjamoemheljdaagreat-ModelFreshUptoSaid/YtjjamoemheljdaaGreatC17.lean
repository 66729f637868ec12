/-
  Layer 7: contracts (Yd).
-/
import Derived.Test.YtjjamoemheljdaaGreatC16
import Derived.Shelf.Small.Strs
namespace Go.Proofs.YtjjamoemheljdaaGreat
set_option maxRecDepth 100000
set_option maxHeartbeats 8000000
set_option linter.unusedSimpArgs false
set_option linter.unusedVariables false
section
open Go.RowKit
def MNum (w:World) (z:Int) (e:Ending) (w':World):Prop:=e=.returned (.int .i64 z)∧w'=w
def MNew (w:World) (z:Int) (e:Ending) (w':World):Prop:=e=.returned (.int .i64 z)∧New w w'
theorem mnan_any (x:Int) (w:World):Calls Tryz.prog 120 #[.int .i64 x] w fun e w'=>e=.returned (.bool false)∧w'=w:=by
 go_enter Tryz.func120,Tryz.ntmps120;go_wp2;go_ret;exact⟨by simp,rfl⟩
theorem mcmpI_any (x y:Int) (w:World):Calls Tryz.prog 109 #[.int .i64 x,.int .i64 y] w (MNum w (cmpI x y)):=by
 rcases Int.lt_trichotomy x y with h|h|h
 ·have E:cmpI x y=-1:=by unfold cmpI;rw[if_pos h]
  rw[E];have j1:decide (x < y)=true:=decide_eq_true h;go_enter Tryz.func109,Tryz.ntmps109
  go_wp2_with (first|(go_at_call 120;refine (mnan_any _ _).mono ?_;rintro e w' ⟨rfl,rfl⟩))
  go_ret;exact⟨rfl,rfl⟩
 ·have E:cmpI x y=0:=by unfold cmpI;rw[if_neg (by omega),if_neg (by omega)]
  rw[E];subst h;go_enter Tryz.func109,Tryz.ntmps109
  go_wp2_with (first|(go_at_call 120;refine (mnan_any _ _).mono ?_;rintro e w' ⟨rfl,rfl⟩))
  go_ret;exact⟨rfl,rfl⟩
 ·have E:cmpI x y=1:=by unfold cmpI;rw[if_neg (by omega),if_pos h]
  rw[E];have j1:decide (x < y)=false:=decide_eq_false (by omega);have j2:decide (y < x)=true:=decide_eq_true h;go_enter Tryz.func109,Tryz.ntmps109
  go_wp2_with (first|(go_at_call 120;refine (mnan_any _ _).mono ?_;rintro e w' ⟨rfl,rfl⟩))
  go_ret;exact⟨rfl,rfl⟩
theorem mcmpStr_any (a b:ByteArray) (w:World):Calls Tryz.prog 123 #[.string a,.string b] w (MNum w (cmpS a b)):=by
 go_enter Tryz.func123,Tryz.ntmps123;go_wp2;rw[run_callFunc_extern Tryz.func128 (by kernel_rfl) (by kernel_rfl) (by kernel_rfl) (e:=Extern.BytealgCompare.compare) (by kernel_rfl),Lib.run_compareString];simp only[Result.andThen];rw[Oper.upon_value];go_wp2;go_ret;exact⟨rfl,rfl⟩
theorem mcmpS_any (a b:ByteArray) (w:World):Calls Tryz.prog 114 #[.string a,.string b] w (MNum w (cmpS a b)):=by
 go_enter Tryz.func114,Tryz.ntmps114
 go_wp2_with (go_at_call 123;refine (mcmpStr_any _ _ _).mono ?_;rintro e w' ⟨rfl,rfl⟩)
 go_ret;exact⟨rfl,rfl⟩
def plcI (L:List ND) (j:Nat):Nat:=(L.takeWhile fun m=>decide (m.i < j)).length
def fndI (L:List ND) (j:Nat):Bool:=match L[plcI L j]? with|some x=>decide (x.i=j)|none=>false
def fndN (nm:ByteArray) (ns:List (ByteArray×Nat)):Bool:=match ns[plcN nm ns]? with|some x=>decide (x.1=nm)|none=>false
theorem plcI_le (L:List ND) (j:Nat):plcI L j≤L.length:=by
 unfold plcI
 induction L with
 | nil=>simp
 | cons e r ih=>rw[List.takeWhile_cons];split<;>simp<;>omega
theorem plcI_lt {L:List ND} {j:Nat} (ho:OrdN L) {t:Nat} {e:ND} (he:L[t]?=some e):e.i < j↔t < plcI L j:=by
 induction L generalizing t with
 | nil=>simp at he
 | cons x r ih=>
  have hc:=zcd.1 ho;unfold plcI;rw[List.takeWhile_cons]
  by_cases hx:x.i < j
  ·rw[if_pos (by simpa using hx)]
   cases t with
   | zero=>simp at he;subst he;simp[hx]
   | succ t=>
    have:=ih hc.2 (t:=t) (by simpa using he)
    unfold plcI at this;rw[this];simp
  ·rw[if_neg (by simpa using hx)]
   cases t with
   | zero=>simp at he;subst he;simp;omega
   | succ t=>
    have hm:e∈r:=List.mem_of_getElem? (by simpa using he);simp only[List.length_nil,Nat.not_lt_zero,iff_false]
    have:=hc.1 e hm
    omega
theorem fndI_some {L:List ND} {j:Nat} {n:ND} (ho:OrdN L) (h:ndI L j=some n):fndI L j=true∧plcI L j=posI L j∧L[plcI L j]?=some n:=by
 obtain⟨_,hi⟩:=zaa h;have hp:=pos_some h
 have h1:¬posI L j < plcI L j:=fun hh=>by have:=(plcI_lt ho hp).2 hh;omega
 have h2:¬plcI L j < posI L j:=fun hh=>by
  obtain⟨x,hx⟩:∃x,L[plcI L j]?=some x:=⟨_,List.getElem?_eq_getElem (by have:=pos_le L j;omega)⟩;have hxp:=plcI_lt (j:=j) ho hx;obtain⟨h3,h4⟩:=List.getElem?_eq_some_iff.1 hx;obtain⟨h5,h6⟩:=List.getElem?_eq_some_iff.1 hp
  have:=List.pairwise_iff_getElem.1 ho _ _ h3 h5 hh
  rw[h4,h6] at this;omega
 have e:plcI L j=posI L j:=by omega
 refine⟨?_,e,by rw[e];exact hp⟩;unfold fndI;rw[e,hp];simpa using hi
theorem fndN_some {nm:ByteArray} {ns:List (ByteArray×Nat)} (ho:OrdS ns) {e:ByteArray×Nat} (he:e∈ns) (hn:e.1=nm):fndN nm ns=true∧ns[plcN nm ns]?=some e:=by
 obtain⟨t,ht⟩:=List.mem_iff_getElem?.1 he
 have h1:¬t < plcN nm ns:=fun hh=>by
  have:=(plc_lt ho ht).2 hh
  rw[hn,cmpS_eq.2 rfl] at this;omega
 have h2:¬plcN nm ns < t:=fun hh=>by
  obtain⟨x,hx⟩:∃x,ns[plcN nm ns]?=some x:=⟨_,List.getElem?_eq_getElem (by have:=(List.getElem?_eq_some_iff.1 ht).1;omega)⟩
  have:=ordS_at ho hh hx ht
  rw[hn] at this;exact absurd ((plc_lt ho hx).1 this) (Nat.lt_irrefl _)
 have e2:plcN nm ns=t:=by omega
 refine⟨?_,by rw[e2];exact ht⟩;unfold fndN;rw[e2,ht];simpa using hn
theorem fndN_no {nm:ByteArray} {ns:List (ByteArray×Nat)} (h:¬zbn nm ns):fndN nm ns=false:=by
 unfold fndN
 split
 ·rename_i x hx
  exact decide_eq_false fun e=>h ⟨x,List.mem_of_getElem? hx,e⟩
 ·rfl
theorem plc1_any (x:NE) (j:Nat) (w:World):Calls Tryz.prog 108 #[.agg #[.int .i64 x.n.i,.int .u8 x.n.k,.int .i64 x.n.l,.slice x.A x.n.ns.length x.c,.slice x.B x.n.b.length x.d],.int .i64 j] w (MNew w (cmpI ((x.n.i:Nat):Int) ((j:Nat):Int))):=by
 obtain⟨⟨xi,xk,xl,xns,xb⟩,xA,xc,xB,xd⟩:=x;simp only;obtain⟨w1,hw1⟩:∃w1,w1=w.alloc (.cells #[.int .i64 xi,.int .u8 xk,.int .i64 xl,.slice xA xns.length xc,.slice xB xb.length xd] 53):=⟨_,rfl⟩
 have n1:Hid (New w w1):=by rw[hw1];exact kR.alloc _
 have BX:Blk w1 w.heap.size 53 [.int .i64 xi,.int .u8 xk,.int .i64 xl,.slice xA xns.length xc,.slice xB xb.length xd]:=by rw[hw1];exact Blk.made w _ _
 have x0:=BX.q0;have C:=jH (fun u=>mcmpI_any ((xi:Nat):Int) ((j:Nat):Int) u);have HW:=jH hw1;clear BX hw1;go_enter Tryz.func108,Tryz.ntmps108
 go_upto_region 1 with fail
 rw[←HW.out]
 go_wp2_with (go_at_call 109;refine (C.out _).mono ?_;rintro e w' ⟨rfl,rfl⟩)
 go_ret;exact⟨rfl,n1.out⟩
theorem bsN_any (A:Option Addr) (n c:Nat) (es:List NE) (j:Nat) (w:World) (h:TIn w A es) (hl:(nds es).length=n) (ho:OrdN (nds es)) (hn:n≤1000000):
  Calls Tryz.prog 107 #[.slice A n c,.int .i64 j,.func (.func 108) #[] #[]] w (fun e w'=>e=.returned (.tuple #[.int .i64 (plcI (nds es) j:Nat),.bool (fndI (nds es) j)])∧New w w'):=by
 have H:=jH h;have LN:=jH hl
 have LN2:Hid (es.length=n):=by rw[Hid,←zab];exact hl
 have HI:Hid (∀t x,(nds es)[t]?=some x→(x.i < j↔t < plcI (nds es) j)):=fun t x hx=>plcI_lt ho hx
 have HP:Hid (plcI (nds es) j≤n):=by rw[←hl];exact plcI_le _ _
 have HF:Hid (fndI (nds es) j=match (nds es)[plcI (nds es) j]? with|some x=>decide (x.i=j)|none=>false):=rfl;clear h hl ho;generalize plcI (nds es) j=p at *;generalize fndI (nds es) j=q at *;go_enter Tryz.func107,Tryz.ntmps107;go_wp2_with fail
 go_loopw [9,10] (fun x y wr=>∃a b:Nat,a≤b∧b≤n∧x=.int .i64 a∧y=.int .i64 b∧Hid (a≤p∧p≤b)∧Hid (New w wr)) (fun x y _=>(intOf y).toNat - (intOf x).toNat)
 case atStart=>exact⟨0,n,Nat.zero_le _,Nat.le_refl _,rfl,rfl,⟨Nat.zero_le _,HP.out⟩,kR⟩
 case round=>
  obtain⟨a,b,hab,hbn,rfl,rfl,HAB,HN⟩:=hrel
  by_cases hlt:a < b
  ·obtain⟨m,hm⟩:∃m:Nat,m=(a+b) / 2:=⟨_,rfl⟩
   have hm1:a≤m:=by omega
   have hm2:m < b:=by omega
   obtain⟨g,o,x,eA,hx,_,x0,x1,x2,x3,x4⟩:=(H.out.new HN.out).at_ (i:=m) (by rw[LN2.out];omega);subst eA;have hfx:(nds es)[m]?=some x.n:=zbc hx;have HB:=jH (HI.out m _ hfx);clear hx hfx
   have s0:((a:Int)+(b:Int)) / 2=(m:Int):=by omega
   clear hm
   have s1:(m:Int) < (n:Int):=by omega
   have CS:=jH (fun u=>plc1_any x j u);obtain⟨z,hz⟩:∃z,cmpI ((x.n.i:Nat):Int) ((j:Nat):Int)=z:=⟨_,rfl⟩
   have hz0:(z < 0)↔x.n.i < j:=by rw[←hz];unfold cmpI;split<;>(try split)<;>omega
   have hz1:(z=0)↔x.n.i=j:=by rw[←hz];unfold cmpI;split<;>(try split)<;>omega
   rw[hz] at CS;have Z0:=jH hz0;clear hz hz0 hz1
   have HQ:Hid ((x.n.i < j)→m+1≤p∧p≤b):=fun hd=>⟨by have:=HB.out.1 hd;omega,HAB.out.2⟩
   have HQ2:Hid (¬(x.n.i < j)→a≤p∧p≤m):=fun hd=>⟨HAB.out.1,Nat.le_of_not_lt fun hh=>hd (HB.out.2 hh)⟩
   clear HI HF HB
   by_cases hz:z < 0
   ·have D:=jH (HQ.out (Z0.out.1 hz));have d0:decide (z < 0)=true:=decide_eq_true hz;clear HQ HQ2 HAB hz Z0
    go_wp2_with (refine (CS.out _).mono ?_;rintro e w9 ⟨rfl,hK9⟩;have K9:=jH (HN.out.new hK9);clear hK9)
    go_roundw
    case rel=>exact⟨m+1,b,by omega,by omega,by go_num,rfl,D,K9⟩
    case measure=>simp[intOf];omega
   ·have D:=jH (HQ2.out fun hh=>hz (Z0.out.2 hh));have d0:decide (z < 0)=false:=decide_eq_false hz;clear HQ HQ2 HAB hz Z0
    go_wp2_with (refine (CS.out _).mono ?_;rintro e w9 ⟨rfl,hK9⟩;have K9:=jH (HN.out.new hK9);clear hK9)
    go_roundw
    case rel=>exact⟨a,m,by omega,by omega,rfl,rfl,D,K9⟩
    case measure=>simp[intOf];omega
  ·obtain rfl:a=b:=by omega
   have hap:a=p:=by have:=HAB.out;omega
   subst hap;clear HAB HI
   by_cases hpn:a < n
   ·obtain⟨g,o,x,eA,hx,_,x0,x1,x2,x3,x4⟩:=(H.out.new HN.out).at_ (i:=a) (by rw[LN2.out];omega);subst eA;have hfx:(nds es)[a]?=some x.n:=zbc hx;have CS:=jH (fun u=>plc1_any x j u);obtain⟨z,hz⟩:∃z,cmpI ((x.n.i:Nat):Int) ((j:Nat):Int)=z:=⟨_,rfl⟩
    have hz0:(z < 0)↔x.n.i < j:=by rw[←hz];unfold cmpI;split<;>(try split)<;>omega
    have hz1:(z=0)↔x.n.i=j:=by rw[←hz];unfold cmpI;split<;>(try split)<;>omega
    rw[hz] at CS
    have d0:(z == 0)=q:=by
     have:=HF.out
     rw[hfx] at this;rw[this]
     show decide (z=0)=decide (x.n.i=j)
     exact decide_eq_decide.2 hz1
    have d1:decide ((a:Int) < (n:Int))=true:=decide_eq_true (by omega);clear HF hz hz0 hz1 hx hfx
    go_wp2_with (refine (CS.out _).mono ?_;rintro e w9 ⟨rfl,hK9⟩;have K9:=jH (HN.out.new hK9);clear hK9)
    go_ret2;exact⟨rfl,K9.out⟩
   ·have HQ:Hid (q=false):=by
     have:=HF.out
     rw[List.getElem?_eq_none (by rw[LN.out];omega)] at this;exact this
    have d1:decide ((a:Int) < (n:Int))=false:=decide_eq_false (by omega);clear HF;go_wp2_with fail;go_ret2;exact⟨by rw[HQ.out];rfl,HN.out⟩
theorem ent1_any (x:ByteArray×Nat) (nm:ByteArray) (w:World):Calls Tryz.prog 113 #[.agg #[.string x.1,.int .i64 x.2],.string nm] w (MNew w (cmpS x.1 nm)):=by
 obtain⟨xs,xi⟩:=x;simp only;obtain⟨w1,hw1⟩:∃w1,w1=w.alloc (.cells #[.string xs,.int .i64 xi] 65):=⟨_,rfl⟩
 have n1:Hid (New w w1):=by rw[hw1];exact kR.alloc _
 have BX:Blk w1 w.heap.size 65 [.string xs,.int .i64 xi]:=by rw[hw1];exact Blk.made w _ _
 have x0:=BX.q0;have C:=jH (fun u=>mcmpS_any xs nm u);have HW:=jH hw1;clear BX hw1;go_enter Tryz.func113,Tryz.ntmps113
 go_upto_region 1 with fail
 rw[←HW.out]
 go_wp2_with (go_at_call 114;refine (C.out _).mono ?_;rintro e w' ⟨rfl,rfl⟩)
 go_ret;exact⟨rfl,n1.out⟩
theorem bsE_any (A:Option Addr) (n c:Nat) (ns:List (ByteArray×Nat)) (nm:ByteArray) (w:World) (h:NmIn w A ns) (hl:(ns).length=n) (ho:OrdS (ns)) (hn:n≤1000000):
  Calls Tryz.prog 112 #[.slice A n c,.string nm,.func (.func 113) #[] #[]] w (fun e w'=>e=.returned (.tuple #[.int .i64 (plcN nm ns:Nat),.bool (fndN nm ns)])∧New w w'):=by
 have H:=jH h;have LN:=jH hl;have LN2:=LN
 have HI:Hid (∀t x,ns[t]?=some x→(cmpS x.1 nm < 0↔t < plcN nm ns)):=fun t x hx=>plc_lt ho hx
 have HP:Hid (plcN nm ns≤n):=by rw[←hl];exact plc_le _ _
 have HF:Hid (fndN nm ns=match ns[plcN nm ns]? with|some x=>decide (x.1=nm)|none=>false):=rfl;clear h hl ho;generalize plcN nm ns=p at *;generalize fndN nm ns=q at *;go_enter Tryz.func112,Tryz.ntmps112;go_wp2_with fail
 go_loopw [9,10] (fun x y wr=>∃a b:Nat,a≤b∧b≤n∧x=.int .i64 a∧y=.int .i64 b∧Hid (a≤p∧p≤b)∧Hid (New w wr)) (fun x y _=>(intOf y).toNat - (intOf x).toNat)
 case atStart=>exact⟨0,n,Nat.zero_le _,Nat.le_refl _,rfl,rfl,⟨Nat.zero_le _,HP.out⟩,kR⟩
 case round=>
  obtain⟨a,b,hab,hbn,rfl,rfl,HAB,HN⟩:=hrel
  by_cases hlt:a < b
  ·obtain⟨m,hm⟩:∃m:Nat,m=(a+b) / 2:=⟨_,rfl⟩
   have hm1:a≤m:=by omega
   have hm2:m < b:=by omega
   obtain⟨g,o,x,eA,hx,x0,x1⟩:=NmIn.at_ (ns:=ns) (H.out.new HN.out) (i:=m) (by rw[LN2.out];omega);subst eA;have hfx:=hx;have HB:=jH (HI.out m _ hfx);clear hx hfx
   have s0:((a:Int)+(b:Int)) / 2=(m:Int):=by omega
   clear hm
   have s1:(m:Int) < (n:Int):=by omega
   have CS:=jH (fun u=>ent1_any x nm u);obtain⟨z,hz⟩:∃z,cmpS x.1 nm=z:=⟨_,rfl⟩
   have hz0:(z < 0)↔cmpS x.1 nm < 0:=by rw[hz]
   have hz1:(z=0)↔x.1=nm:=by rw[←hz];exact cmpS_eq
   rw[hz] at CS;have Z0:=jH hz0;clear hz hz0 hz1
   have HQ:Hid ((cmpS x.1 nm < 0)→m+1≤p∧p≤b):=fun hd=>⟨by have:=HB.out.1 hd;omega,HAB.out.2⟩
   have HQ2:Hid (¬(cmpS x.1 nm < 0)→a≤p∧p≤m):=fun hd=>⟨HAB.out.1,Nat.le_of_not_lt fun hh=>hd (HB.out.2 hh)⟩
   clear HI HF HB
   by_cases hz:z < 0
   ·have D:=jH (HQ.out (Z0.out.1 hz));have d0:decide (z < 0)=true:=decide_eq_true hz;clear HQ HQ2 HAB hz Z0
    go_wp2_with (refine (CS.out _).mono ?_;rintro e w9 ⟨rfl,hK9⟩;have K9:=jH (HN.out.new hK9);clear hK9)
    go_roundw
    case rel=>exact⟨m+1,b,by omega,by omega,by go_num,rfl,D,K9⟩
    case measure=>simp[intOf];omega
   ·have D:=jH (HQ2.out fun hh=>hz (Z0.out.2 hh));have d0:decide (z < 0)=false:=decide_eq_false hz;clear HQ HQ2 HAB hz Z0
    go_wp2_with (refine (CS.out _).mono ?_;rintro e w9 ⟨rfl,hK9⟩;have K9:=jH (HN.out.new hK9);clear hK9)
    go_roundw
    case rel=>exact⟨a,m,by omega,by omega,rfl,rfl,D,K9⟩
    case measure=>simp[intOf];omega
  ·obtain rfl:a=b:=by omega
   have hap:a=p:=by have:=HAB.out;omega
   subst hap;clear HAB HI
   by_cases hpn:a < n
   ·obtain⟨g,o,x,eA,hx,x0,x1⟩:=NmIn.at_ (ns:=ns) (H.out.new HN.out) (i:=a) (by rw[LN2.out];omega);subst eA;have hfx:=hx;have CS:=jH (fun u=>ent1_any x nm u);obtain⟨z,hz⟩:∃z,cmpS x.1 nm=z:=⟨_,rfl⟩
    have hz0:(z < 0)↔cmpS x.1 nm < 0:=by rw[hz]
    have hz1:(z=0)↔x.1=nm:=by rw[←hz];exact cmpS_eq
    rw[hz] at CS
    have d0:(z == 0)=q:=by
     have:=HF.out
     rw[hfx] at this;rw[this]
     show decide (z=0)=decide (x.1=nm)
     exact decide_eq_decide.2 hz1
    have d1:decide ((a:Int) < (n:Int))=true:=decide_eq_true (by omega);clear HF hz hz0 hz1 hx hfx
    go_wp2_with (refine (CS.out _).mono ?_;rintro e w9 ⟨rfl,hK9⟩;have K9:=jH (HN.out.new hK9);clear hK9)
    go_ret2;exact⟨rfl,K9.out⟩
   ·have HQ:Hid (q=false):=by
     have:=HF.out
     rw[List.getElem?_eq_none (by rw[LN.out];omega)] at this;exact this
    have d1:decide ((a:Int) < (n:Int))=false:=decide_eq_false (by omega);clear HF;go_wp2_with fail;go_ret2;exact⟨by rw[HQ.out];rfl,HN.out⟩
theorem mplace_any (gt:Nat) (p A n c) (es:List NE) (j:Nat) (w:World) (hb:Blk w gt 25 [p,.slice A n c]) (h:TIn w A es) (hl:(nds es).length=n) (ho:OrdN (nds es)) (hn:n≤1000000):
  Calls Tryz.prog 98 #[.pointer (some ⟨gt,0,none⟩),.int .i64 j] w (fun e w'=>e=.returned (.tuple #[.int .i64 (plcI (nds es) j:Nat),.bool (fndI (nds es) j)])∧New w w'):=by
 have C:=jH (bsN_any A n c es j w h hl ho hn);have x1:=hb.q1;generalize plcI (nds es) j=a at *;generalize fndI (nds es) j=b at *;clear hb h hl ho;go_enter Tryz.func98,Tryz.ntmps98
 go_wp2_with (refine C.out.mono ?_;rintro e w' ⟨rfl,hK⟩;have K:=jH hK;clear hK)
 go_ret2;exact⟨rfl,K.out⟩
theorem mentry_any (g o:Nat) (A n c) (ns:List (ByteArray×Nat)) (nm:ByteArray) (w:World) (hb:w.cell? ⟨g,o+3,none⟩=some (.slice A n c)) (h:NmIn w A ns) (hl:ns.length=n) (ho:OrdS ns) (hn:n≤1000000):
  Calls Tryz.prog 100 #[.pointer (some ⟨g,o,none⟩),.string nm] w (fun e w'=>e=.returned (.tuple #[.int .i64 (plcN nm ns:Nat),.bool (fndN nm ns)])∧New w w'):=by
 have C:=jH (bsE_any A n c ns nm w h hl ho hn);generalize plcN nm ns=a at *;generalize fndN nm ns=b at *;clear h hl ho;go_enter Tryz.func100,Tryz.ntmps100
 go_wp2_with (refine C.out.mono ?_;rintro e w' ⟨rfl,hK⟩;have K:=jH hK;clear hK)
 go_ret2;exact⟨rfl,K.out⟩
theorem zbq (gt:Nat) (p) (g o n c:Nat) (es:List NE) (j:Nat) (nd:ND) (w:World) (hb:Blk w gt 25 [p,.slice (some ⟨g,o,none⟩) n c]) (h:TIn w (some ⟨g,o,none⟩) es) (hl:(nds es).length=n) (ho:OrdN (nds es)) (hn:n≤1000000) (hj:ndI (nds es) j=some nd):
  Calls Tryz.prog 72 #[.pointer (some ⟨gt,0,none⟩),.int .i64 j] w (fun e w'=>e=.returned (.pointer (some ⟨g,o+posI (nds es) j*5,none⟩))∧New w w'):=by
 have C:=jH (mplace_any gt p _ n c es j w hb h hl ho hn);obtain⟨f1,f2,f3⟩:=fndI_some ho hj;rw[f1,f2] at C
 have hlt:posI (nds es) j < n:=by rw[←hl,←f2];exact (List.getElem?_eq_some_iff.1 f3).1
 have HB:=jH hb;generalize posI (nds es) j=a at *;clear hb h hl ho hj f1 f2 f3;go_enter Tryz.func72,Tryz.ntmps72
 go_wp2_with (refine C.out.mono ?_;rintro e w' ⟨rfl,hK⟩;have K:=jH hK;have x1:=(HB.out.kept hK id).q1;clear hK)
 go_ret;exact⟨rfl,K.out⟩
end
end Go.Proofs.YtjjamoemheljdaaGreat
