/-
  Layer 7: contracts (Af Ag Ah Ai).
-/
import Derived.Test.YtbiihjdjbknibaaGreatC45
import Derived.Test.YtbiihjdjbknibaaGreatC21
namespace Go.Proofs.YtbiihjdjbknibaaGreat
set_option maxRecDepth 100000
set_option maxHeartbeats 8000000
set_option linter.unusedSimpArgs false
set_option linter.unusedVariables false
section
set_option maxRecDepth 100000
open Go.RowKit
def PIn (w:World) (A:Option Addr) (n:Nat) (l:List PE):Prop:=RowV w A n 3 (pes l)∧∀e∈l,CIn w e.A e.es.length e.es
def BIn (w:World) (A:Option Addr) (n:Nat) (l:List BE):Prop:=RowV w A n 3 (bes l)∧∀e∈l,PIn w e.A e.pl.length e.pl
section
variable {w w':World} {A:Option Addr} {n c B:Nat} {l:List PE} {bl:List BE}
theorem PIn.new (h:PIn w A n l) (hk:New w w'):PIn w' A n l:=⟨h.1.new hk,fun e he=>(h.2 e he).new hk⟩
theorem BIn.new (h:BIn w A n bl) (hk:New w w'):BIn w' A n bl:=⟨h.1.new hk,fun e he=>(h.2 e he).new hk⟩
theorem POwn.in_ (h:POwn w B A c l):PIn w A l.length l:=⟨h.1.row,fun e he=>(h.2 e he).in_⟩
theorem BOwn.in_ (h:BOwn w B A c bl):BIn w A bl.length bl:=⟨h.1.row,fun e he=>(h.2 e he).in_⟩
theorem PIn.len (h:PIn w A n l):l.length=n:=by have:=h.1.1;rw[pes_len] at this;omega
theorem BIn.len (h:BIn w A n bl):bl.length=n:=by have:=h.1.1;rw[bes_len] at this;omega
theorem PIn.at_ {i:Nat} (h:PIn w A n l) (hi:i < n):∃(g o:Nat) (e:PE),A=some ⟨g,o,none⟩∧l[i]?=some e ∧
  w.cell? ⟨g,o+i*3,none⟩=some (.int .i64 (e.p:Nat))∧w.cell? ⟨g,o+i*3+1,none⟩=some (.slice e.A e.es.length e.c)∧w.cell? ⟨g,o+i*3+2,none⟩=some (.int .u64 (e.d:Nat))∧CIn w e.A e.es.length e.es:=by
 have hl:=h.len;obtain⟨⟨h1,h2⟩,h5⟩:=h;obtain⟨g,o,rfl,hat⟩:=h2 (by omega)
 have hi':i < l.length:=by omega
 have he:l[i]?=some l[i]:=List.getElem?_eq_getElem hi'
 have key:∀j u,j < 3→l[i].cells[j]?=some u→w.cell? ⟨g,o+i*3+j,none⟩=some u:=fun j u hj hu=>by
  rw[Nat.add_assoc];exact hat _ _ (pes_at l i j _ u he hj hu)
 exact⟨g,o,l[i],rfl,he,key 0 _ (by omega) rfl,key 1 _ (by omega) rfl,key 2 _ (by omega) rfl,h5 _ (List.getElem_mem hi')⟩
theorem BIn.at_ {i:Nat} (h:BIn w A n bl) (hi:i < n):∃(g o:Nat) (e:BE),A=some ⟨g,o,none⟩∧bl[i]?=some e ∧
  w.cell? ⟨g,o+i*3,none⟩=some (.int .i64 (e.b:Nat))∧w.cell? ⟨g,o+i*3+1,none⟩=some (.int .u64 (e.q:Nat))∧w.cell? ⟨g,o+i*3+2,none⟩=some (.slice e.A e.pl.length e.c)∧PIn w e.A e.pl.length e.pl:=by
 have hl:=h.len;obtain⟨⟨h1,h2⟩,h5⟩:=h;obtain⟨g,o,rfl,hat⟩:=h2 (by omega)
 have hi':i < bl.length:=by omega
 have he:bl[i]?=some bl[i]:=List.getElem?_eq_getElem hi'
 have key:∀j u,j < 3→bl[i].cells[j]?=some u→w.cell? ⟨g,o+i*3+j,none⟩=some u:=fun j u hj hu=>by
  rw[Nat.add_assoc];exact hat _ _ (bes_at bl i j _ u he hj hu)
 exact⟨g,o,bl[i],rfl,he,key 0 _ (by omega) rfl,key 1 _ (by omega) rfl,key 2 _ (by omega) rfl,h5 _ (List.getElem_mem hi')⟩
end
def lsP (m:Nat):List PV→Nat
 | []=>m
 | p::r=>lsP (max m p.d) r
def lsB (m:Nat):List BV→Nat
 | []=>m
 | b::r=>lsB (lsP m b.l) r
theorem lsP_append:∀(a b:List PV) (m:Nat),lsP m (a++b)=lsP (lsP m a) b
 | [],_,_=>rfl
 | p::a,b,m=>lsP_append a b (max m p.d)
theorem lsB_append:∀(a b:List BV) (m:Nat),lsB m (a++b)=lsB (lsB m a) b
 | [],_,_=>rfl
 | p::a,b,m=>lsB_append a b (lsP m p.l)
theorem lsP_next {l:List PV} {k:Nat} {p:PV} (h:l[k]?=some p) (m:Nat):lsP m (l.take (k+1))=max (lsP m (l.take k)) p.d:=by
 rw[List.take_add_one,h,lsP_append];rfl
theorem lsB_next {l:List BV} {k:Nat} {p:BV} (h:l[k]?=some p) (m:Nat):lsB m (l.take (k+1))=lsP (lsB m (l.take k)) p.l:=by
 rw[List.take_add_one,h,lsB_append];rfl
theorem pvs_at {l:List PE} {k:Nat} {e:PE} (h:l[k]?=some e):(pvs l)[k]?=some e.v:=by unfold pvs;rw[List.getElem?_map,h];rfl
theorem bvs_at {l:List BE} {k:Nat} {e:BE} (h:l[k]?=some e):(bvs l)[k]?=some e.v:=by unfold bvs;rw[List.getElem?_map,h];rfl
theorem least_any (A:Option Addr) (n c:Nat) (bl:List BE) (w:World) (h:BIn w A n bl) (hn:n≤maxLen) (hp:∀e∈bl,e.pl.length≤maxLen):
  Calls Tryz.prog 57 #[.slice A n c] w (fun e w'=>e=.returned (.int .u64 (lsB 0 (bvs bl):Nat))∧New w w'):=by
 have HL:Hid (bl.length=n):=h.len;have H:=jH h;have HP:=jH hp;unfold maxLen at hn;clear h hp;go_enter Tryz.func57,Tryz.ntmps57;go_wp2_with fail
 go_loopw [3,10] (fun o i wr=>∃k:Nat,k≤n∧i=.int .i64 k∧o=.int .u64 (lsB 0 ((bvs bl).take k):Nat)∧Hid (New w wr)) (fun _ i _=>n - (intOf i).toNat)
 case atStart=>exact⟨0,Nat.zero_le _,rfl,rfl,kR⟩
 case round=>
  obtain⟨k,hk,rfl,rfl,VN⟩:=hrel
  by_cases hlt:k < n
  ·obtain⟨g,o,x,eA,hx,x0,x1,x2,hpi⟩:=(H.out.new VN.out).at_ hlt;subst eA;have HX:=jH (bvs_at hx)
   have hpl:x.pl.length≤9223372036854775807:=by have:=HP.out x (List.mem_of_getElem? hx);unfold maxLen at this;omega
   have HPI:=jH hpi;obtain⟨xb,xq,xl,xA,xc⟩:=x
   dsimp only at *
   generalize hpn:xl.length=pn at *;have HPN:=jH hpn;clear hx hpi hpn;obtain⟨w2,hw2⟩:∃w2,w2=wr.alloc (.cells #[.int .i64 (xb:Nat),.int .u64 (xq:Nat),.slice xA pn xc] 82):=⟨_,rfl⟩
   have m2:New wr w2:=by rw[hw2];exact kR.alloc _
   have y2:w2.cell? ⟨wr.heap.size,2,none⟩=some (.slice xA pn xc):=by rw[hw2];exact (Blk.made wr 82 #[.int .i64 (xb:Nat),.int .u64 (xq:Nat),.slice xA pn xc]).cell 2
   have N2:=jH (VN.out.new m2);have PI2:=jH (HPI.out.new m2);have HW2:=jH hw2;clear m2 hw2 HPI
   go_upto_region 5 with fail
   rw[←HW2.out];clear HW2 x0 x1 x2;go_wp2_with fail;generalize hm0:lsB 0 ((bvs bl).take k)=m0 at *;have HM0:=jH hm0;clear hm0;generalize hwr:wr=wq at *;clear hwr
   go_loopw [3,17] (fun o i wr=>∃j:Nat,j≤pn∧i=.int .i64 j∧o=.int .u64 (lsP m0 ((pvs xl).take j):Nat)∧Hid (New w2 wr)) (fun _ i _=>pn - (intOf i).toNat)
   case atStart=>exact⟨0,Nat.zero_le _,rfl,rfl,kR⟩
   case round=>
    obtain⟨j,hj,rfl,rfl,VM⟩:=hrel
    by_cases hlj:j < pn
    ·obtain⟨g2,o2,y,eB,hy,y0,y1,y2',_⟩:=(PI2.out.new VM.out).at_ hlj;subst eB;have HY:=jH (lsP_next (pvs_at hy) m0);obtain⟨yp,yes,yA,yc,yd⟩:=y
     dsimp only at *
     generalize yes.length=yn at *;clear hy;obtain⟨w4,hw4⟩:∃w4,w4=wr.alloc (.cells #[.int .i64 (yp:Nat),.slice yA yn yc,.int .u64 (yd:Nat)] 47):=⟨_,rfl⟩
     have m4:New wr w4:=by rw[hw4];exact kR.alloc _
     have z2:w4.cell? ⟨wr.heap.size,2,none⟩=some (.int .u64 (yd:Nat)):=by rw[hw4];exact (Blk.made wr 47 #[.int .i64 (yp:Nat),.slice yA yn yc,.int .u64 (yd:Nat)]).cell 2
     have N4:Hid (New w2 w4):=VM.out.new m4;have HW4:=jH hw4;have HYE:Hid (lsP m0 ((pvs xl).take (j+1))=max (lsP m0 ((pvs xl).take j)) yd):=HY.out;clear m4 hw4 HY VM;generalize lsP m0 ((pvs xl).take j)=m1 at *
     go_upto_region 8 with fail
     rw[←HW4.out];clear HW4 y0 y1 y2'
     have hmx:max (m1:Int) (yd:Int)=((max m1 yd:Nat):Int):=by omega
     go_wp2_with fail;go_roundw
     case rel=>exact⟨j+1,by omega,by go_num,by rw[HYE.out],N4⟩
     case measure=>simp[intOf];omega
    ·have hjn:j=pn:=by omega
     have HE:Hid (lsP m0 ((pvs xl).take j)=lsB 0 ((bvs bl).take (k+1))):=by
      rw[Hid,lsB_next HX.out,HM0.out,hjn,List.take_of_length_le (by unfold pvs;rw[List.length_map,HPN.out];exact Nat.le_refl _)]
      rfl
     have N4:=jH (N2.out.new VM.out);clear VM HX;go_wp2;go_roundw
     case rel=>exact⟨k+1,by omega,by go_num,by rw[HE.out],N4⟩
     case measure=>simp[intOf];omega
  ·have hkn:k=n:=by omega
   subst hkn
   have E:Hid (lsB 0 ((bvs bl).take k)=lsB 0 (bvs bl)):=by rw[Hid,List.take_of_length_le (by unfold bvs;rw[List.length_map,HL.out];exact Nat.le_refl _)]
   go_wp2;go_ret;exact⟨by rw[←E.out];rfl,VN.out⟩
end
section
set_option maxRecDepth 100000
open Go.RowKit
def ctB (m:Nat):List BV→Nat
 | []=>0
 | b::r=>if b.q < m then ctB m r+1 else 0
theorem ctB_le (m:Nat):∀l:List BV,ctB m l≤l.length
 | []=>Nat.le_refl _
 | b::r=>by
  have:=ctB_le m r
  unfold ctB
  split
  ·simp;omega
  ·simp
theorem ctB_lt {m:Nat}:∀{l:List BV},l.Pairwise (fun a b=>a.q≤b.q)→∀{i:Nat} {b:BV},l[i]?=some b→(b.q < m↔i < ctB m l)
 | [],_,i,b,h=>by simp at h
 | x::r,hp,0,b,h=>by
  simp at h;subst h;unfold ctB
  split
  ·simp;assumption
  ·simp;omega
 | x::r,hp,i+1,b,h=>by
  have hp2:=List.pairwise_cons.1 hp
  have h2:r[i]?=some b:=by simpa using h
  unfold ctB
  split
  ·rw[ctB_lt hp2.2 h2];omega
  ·have:=hp2.1 b (List.mem_of_getElem? h2)
   constructor<;>intro<;>omega
theorem search_any (n r:Nat) (g1 g2:Nat) (w:World) (hn:n≤140737488355328) (hr:r≤n)
  (hc:∀u,New w u→∀i:Nat,i < n→Calls Tryz.prog 59 #[.int .i64 (i:Nat),.pointer (some ⟨g1,0,none⟩),.pointer (some ⟨g2,0,none⟩)] u (fun e u'=>e=.returned (.bool (decide (r≤i)))∧New u u')):
  Calls Tryz.prog 58 #[.int .i64 (n:Nat),.func (.func 59) #[] #[.pointer (some ⟨g1,0,none⟩),.pointer (some ⟨g2,0,none⟩)]] w (fun e w'=>e=.returned (.int .i64 (r:Nat))∧New w w'):=by
 have HC:=jH hc;clear hc;go_enter Tryz.func58,Tryz.ntmps58;go_wp2_with fail
 go_loopw [5,6] (fun x y wr=>∃a b:Nat,a≤b∧b≤n∧x=.int .i64 a∧y=.int .i64 b∧Hid (a≤r∧r≤b)∧Hid (New w wr)) (fun x y _=>(intOf y).toNat - (intOf x).toNat)
 case atStart=>exact⟨0,n,Nat.zero_le _,Nat.le_refl _,rfl,rfl,⟨Nat.zero_le _,hr⟩,kR⟩
 case round=>
  obtain⟨a,b,hab,hbn,rfl,rfl,HAB,HN⟩:=hrel
  by_cases hlt:a < b
  ·obtain⟨m,hm⟩:∃m:Nat,m=(a+b) / 2:=⟨_,rfl⟩
   have hm1:a≤m:=by omega
   have hm2:m < b:=by omega
   have s0:((a:Int)+(b:Int)) / 2=(m:Int):=by omega
   clear hm;have CS:=HC.out _ HN.out m (by omega)
   by_cases hz:r≤m
   ·have D:Hid (a≤r∧r≤m):=⟨HAB.out.1,hz⟩;rw[decide_eq_true hz] at CS;have CS':=jH CS;clear HAB hz CS
    go_wp2_with (refine CS'.out.mono ?_;rintro e w9 ⟨rfl,hK9⟩;have K9:=jH (HN.out.new hK9);clear hK9)
    go_roundw
    case rel=>exact⟨a,m,by omega,by omega,rfl,rfl,D,K9⟩
    case measure=>simp[intOf];omega
   ·have D:Hid (m+1≤r∧r≤b):=⟨by omega,HAB.out.2⟩;rw[decide_eq_false hz] at CS;have CS':=jH CS;clear HAB hz CS
    go_wp2_with (refine CS'.out.mono ?_;rintro e w9 ⟨rfl,hK9⟩;have K9:=jH (HN.out.new hK9);clear hK9)
    go_roundw
    case rel=>exact⟨m+1,b,by omega,by omega,by go_num,rfl,D,K9⟩
    case measure=>simp[intOf];omega
  ·obtain rfl:a=b:=by omega
   have har:a=r:=by have:=HAB.out;omega
   subst har;clear HAB HC;go_wp2;go_ret;exact⟨rfl,HN.out⟩
theorem split1_any (g1 g2 i n c m:Nat) (A:Option Addr) (bl:List BE) (w:World) (h1:Blk w g1 75 [.slice A n c]) (h2:Blk w g2 45 [.int .u64 (m:Nat)]) (hb:BIn w A n bl) (hi:i < n) (hp:(bvs bl).Pairwise (fun a b=>a.q≤b.q)):
  Calls Tryz.prog 59 #[.int .i64 (i:Nat),.pointer (some ⟨g1,0,none⟩),.pointer (some ⟨g2,0,none⟩)] w (fun e u'=>e=.returned (.bool (decide (ctB m (bvs bl)≤i)))∧New w u'):=by
 obtain⟨g,o,x,eA,hx,_,x1,_,_⟩:=hb.at_ hi;subst eA;have HQ:=jH (ctB_lt (m:=m) hp (bvs_at hx));have a0:=h1.q0;have b0:=h2.q0
 have s0:(0:Int)≤(i:Int):=by omega
 have s1:(i:Int) < (n:Int):=by omega
 have HD:Hid (decide (m≤x.q)=decide (ctB m (bvs bl)≤i)):=by
  have:=HQ.out
  have e:x.v.q=x.q:=rfl;rw[e] at this;rw[Hid,decide_eq_decide];omega
 clear h1 h2 hb hp HQ hx;generalize x.q=q at *;generalize decide (ctB m (bvs bl)≤i)=r at *;go_enter Tryz.func59,Tryz.ntmps59;go_wp2_with fail;go_quiet (fail);go_wp2;go_ret;exact⟨ret_bool (by rw[←HD.out]),kR.drewN _⟩
end
section
set_option maxRecDepth 100000
open Go.RowKit
theorem bes_take:∀(l:List BE) (k:Nat),(bes l).take (k*3)=bes (l.take k)
 | [],k=>by simp[bes]
 | e::r,0=>by simp[bes]
 | e::r,k+1=>by
  simp only[bes,List.take_succ_cons];rw[show (k+1)*3=e.cells.length+k*3 by rw[be_len];omega,List.take_append,List.take_of_length_le (by omega),show e.cells.length+k*3 - e.cells.length=k*3 by omega,bes_take r k]
theorem bes_drop:∀(l:List BE) (k:Nat),(bes l).drop (k*3)=bes (l.drop k)
 | [],k=>by simp[bes]
 | e::r,0=>by simp
 | e::r,k+1=>by
  simp only[bes,List.drop_succ_cons];rw[show (k+1)*3=e.cells.length+k*3 by rw[be_len];omega,List.drop_append,List.drop_of_length_le (by omega),show e.cells.length+k*3 - e.cells.length=k*3 by omega,bes_drop r k]
  rfl
theorem BIn.take_ {w:World} {A:Option Addr} {n k:Nat} {bl:List BE} (h:BIn w A n bl) (hk:k≤n):BIn w A k (bl.take k):=by
 obtain⟨⟨hl,hc⟩,h2⟩:=h;have hm:k*3≤n*3:=Nat.mul_le_mul_right _ hk;refine⟨⟨?_,fun h0=>?_⟩,fun e he=>h2 e (List.mem_of_mem_take he)⟩
 ·rw[←bes_take,List.length_take];omega
 ·obtain⟨g,o,e,hc⟩:=hc (by omega);refine⟨g,o,e,fun j v hj=>hc j v ?_⟩;rw[←bes_take,List.getElem?_take] at hj
  split at hj
  ·exact hj
  ·cases hj
theorem BIn.cut_ {w:World} {A:Option Addr} {n c k:Nat} {bl:List BE} (h:BIn w A n bl) (hk:k≤n) (hc:n≤c):BIn w (if c=k then A else A.map (·.add (k*3))) (n - k) (bl.drop k):=by
 obtain⟨⟨hl,hcell⟩,h2⟩:=h;refine⟨⟨?_,fun h0=>?_⟩,fun e he=>h2 e (List.mem_of_mem_drop he)⟩
 ·rw[←bes_drop,List.length_drop,hl,Nat.sub_mul]
 ·obtain⟨g,o,rfl,hat⟩:=hcell (by omega);rw[if_neg (by omega)];refine⟨g,o+k*3,by simp[Addr.add_lit],fun j v hv=>?_⟩;rw[←bes_drop,List.getElem?_drop] at hv
  have:=hat _ _ hv
  rwa [←Nat.add_assoc] at this
def SplP (w:World) (A:Option Addr) (n c r:Nat) (bl:List BE) (e:Ending) (w':World):Prop:=
 ∃A2 c2,e=.returned (.tuple #[.slice A r c,.slice A2 (n - r) c2])∧BIn w' A r (bl.take r)∧BIn w' A2 (n - r) (bl.drop r)∧(A2=none→c2=0∧n - r=0)∧n - r≤c2∧New w w'
theorem split_any (A:Option Addr) (n c:Nat) (bl:List BE) (w:World) (h:BIn w A n bl) (hn:n≤1000) (hc:n≤c) (hc2:c≤maxLen) (hA:A=none→c=0∧n=0) (hp:∀e∈bl,e.pl.length≤maxLen) (hs:(bvs bl).Pairwise (fun a b=>a.q≤b.q)):
  Calls Tryz.prog 23 #[.slice A n c] w (SplP w A n c (ctB (lsB 0 (bvs bl)) (bvs bl)) bl):=by
 have HL:=fun u hu=>jH (least_any A n c bl u (h.new hu) (by unfold maxLen;omega) hp)
 have HR:Hid (ctB (lsB 0 (bvs bl)) (bvs bl)≤n):=by
  have:=ctB_le (lsB 0 (bvs bl)) (bvs bl)
  have e:(bvs bl).length=n:=by unfold bvs;rw[List.length_map,h.len]
  rw[Hid];omega
 have HS1:=fun (g1 g2 i:Nat) u hu h1 h2 (hi:i < n)=>jH (split1_any g1 g2 i n c (lsB 0 (bvs bl)) A bl u h1 h2 (h.new hu) hi hs)
 have H:=jH h;unfold maxLen at hc2;clear h hp hs;generalize lsB 0 (bvs bl)=m at *;generalize ctB m (bvs bl)=r at *;obtain⟨w1,hw1⟩:∃w1,w1=w.alloc (.cells #[.slice A n c] 75):=⟨_,rfl⟩
 have n1:New w w1:=by rw[hw1];exact kR.alloc _
 have B1:Hid (Blk w1 w.heap.size 75 [.slice A n c]):=by rw[hw1];exact Blk.made w _ _
 have N1:=jH n1;have HW1:=jH hw1;clear hw1 n1;go_enter Tryz.func23,Tryz.ntmps23
 go_upto_region 1 with fail
 rw[←HW1.out];clear HW1;generalize hg1:w.heap.size=g1 at *;have HG1:=jH hg1;clear hg1;have a0:=B1.out.q0;go_wp2_with fail;refine (HL _ N1.out).out.mono ?_;rintro e w2 ⟨rfl,k2⟩;have N2:=jH (N1.out.new k2);have B2:=jH (B1.out.kept k2 id);clear k2 HL N1 B1 a0;obtain⟨w3,hw3⟩:∃w3,w3=w2.alloc (.cells #[.int .u64 (m:Nat)] 45):=⟨_,rfl⟩
 have n3:New w2 w3:=by rw[hw3];exact kR.alloc _
 have C3:Hid (Blk w3 w2.heap.size 45 [.int .u64 (m:Nat)]):=by rw[hw3];exact Blk.made w2 _ _
 have N3:=jH (N2.out.new n3);have B3:=jH (B2.out.kept n3 id);have HW3:=jH hw3;clear n3 hw3 N2 B2
 go_upto_region 2 with fail
 rw[←HW3.out];clear HW3;have a0:=B3.out.q0;have CS:=jH (search_any n r g1 w2.heap.size w3 (by omega) HR.out fun u hu i hi=>(HS1 g1 w2.heap.size i u (N3.out.new hu) (B3.out.kept hu id) (C3.out.kept hu id) hi).out);go_wp2_with fail;refine CS.out.mono ?_;rintro e w4 ⟨rfl,k4⟩;have N4:=jH (N3.out.new k4);have B4:=jH (B3.out.kept k4 id);clear k4 CS N3 B3 C3 a0 HS1;have a0:=B4.out.q0;have hr:=HR.out
 have hrc:r≤c:=by omega
 have t0:(0:Int)≤(r:Int):=by omega
 have t1:(r:Int)≤(c:Int):=by omega
 have t2:(r:Int)≤(n:Int):=by omega
 have F:Hid (∀u A2 c2,New w4 u→A2=(if c=r then A else A.map (·.add (r*3)))→c2=c - r→SplP w A n c r bl (.returned (.tuple #[.slice A r c,.slice A2 (n - r) c2])) u):=by
  intro u A2 c2 hu hA2 hc2';subst hA2 hc2';refine⟨_,_,rfl,(H.out.new (N4.out.new hu)).take_ hr,(H.out.new (N4.out.new hu)).cut_ hr hc,fun h0=>?_,by omega,N4.out.new hu⟩
  by_cases hcr:c=r
  ·exact⟨by omega,by omega⟩
  ·rw[if_neg hcr] at h0
   have:=hA (by cases A with|none=>rfl|some a=>simp at h0)
   exact⟨by omega,by omega⟩
 clear H HR
 by_cases hcr:c=r
 ·subst hcr
  obtain rfl:n=c:=by omega
  have F':=fun u hu=>jH (F.out u A 0 hu (by rw[if_pos rfl]) (by omega))
  rw[Nat.sub_self] at F';clear F;go_wp2_with fail;go_quiet (fail);go_wp2;go_ret2;exact (F' _ (kR.drewN _)).out
 ·obtain⟨a,rfl⟩:∃a,A=some a:=by
   cases A with
   | none=>have:=hA rfl;omega
   | some a=>exact⟨a,rfl⟩
  have F':=fun u hu=>jH (F.out u (some (a.add (r*3))) (c - r) hu (by rw[if_neg hcr];rfl) rfl)
  clear F;go_wp2_with fail;go_quiet (fail);go_wp2;go_ret2;exact (F' _ (kR.drewN _)).out
end
section
set_option maxRecDepth 100000
open Go.RowKit
theorem info_int:(Tryz.prog.info? 3).map (fun i=>(i.zero,i.size,i.bytes))=some (some (.int .i64 0),1,8):=by kernel_rfl
theorem wpList_append_int {w:World} {ops:Array Oper} {rest:List Oper} {o:Oper} {a:Act} {Q:Exit→Act→World→Prop} (hgd:o.guard=none) (s x:Operand)
  (ho:o.op=.call { callee:=.builtin .append,args:=#[s,x],argTypes:=#[23,23] })
  (B:Nat) (A:Option Addr) (k ch:Nat) (vs:List Value) (hsv:a.eval s=.slice A k ch) (hown:OwnV w 3 1 B A k ch vs)
  (g c':Nat) (z:Int) (hx:a.eval x=.slice (some ⟨g,0,none⟩) 1 c') (hb:Blk w g 3 [.int .i64 z]) (hn:(k+1)*8≤140737488355328) (hbase:B≤w.heap.size)
  (h:∀A2 c2 w',Hid (OwnV w' 3 1 B A2 (k+1) c2 (vs++[.int .i64 z]))→Hid (Kept (InRow A) w w')→wpList Tryz.prog ops Q rest (a.put o.dst (.slice A2 (k+1) c2)) w'):
  wpList Tryz.prog ops Q (o::rest) a w:=by
 obtain⟨i0,hi,hz0,hz1,hz2⟩:=info_parts info_int
 have hr:RowV w (some ⟨g,0,none⟩) 1 i0.size [.int .i64 z]:=by
  rw[hz1];exact⟨rfl,fun _=>⟨g,0,rfl,fun j v hj=>by rw[Nat.zero_add,hb.cell];exact hj⟩⟩
 have ho':OwnV w 3 i0.size B A k ch vs:=by rw[hz1];exact hown
 refine wpList_append_rowV w hgd s x 23 ho 3 i0 (.int .i64 0) Tryz.underlying23 hi hz0 (by rw[hz1];rfl) (by rw[hz1];omega) B A k ch vs hsv ho' (some ⟨g,0,none⟩) 1 c' [.int .i64 z] hx hr (by simp;rfl) (by rw[hz2];omega) (by omega) hbase ?_;intro A2 c2 w' h3 h4 h5;refine h A2 c2 w' (by have:=h3.out;rw[hz1] at this;exact this) ?_
 refine (Kept.refl (InRow A) w).grown h4.out fun q _ hA=>?_
 obtain⟨a,ha,e⟩:=Option.map_eq_some_iff.1 hA;exact⟨a,ha,e⟩
def IOwn (w:World) (B:Nat) (A:Option Addr) (c:Nat) (l:List Nat):Prop:=OwnV w 3 1 B A l.length c (l.map fun (b:Nat)=>.int .i64 (b:Nat))
def NumsP (w:World) (l:List Nat) (e:Ending) (w':World):Prop:=∃A c,e=.returned (.slice A l.length c)∧IOwn w' w.heap.size A c l∧New w w'
theorem IOwn.new {w w':World} {B c:Nat} {A:Option Addr} {l:List Nat} (h:IOwn w B A c l) (hk:New w w'):IOwn w' B A c l:=OwnV.new h hk
theorem IOwn.mono {w:World} {B B' c:Nat} {A:Option Addr} {l:List Nat} (h:IOwn w B A c l) (hB:B'≤B):IOwn w B' A c l:=OwnV.mono h hB
theorem numbers_any (A:Option Addr) (n c:Nat) (bl:List BE) (w:World) (h:BIn w A n bl) (hn:n≤1000):
  Calls Tryz.prog 24 #[.slice A n c] w (NumsP w ((bvs bl).map (·.b))):=by
 have HL:Hid (bl.length=n):=h.len;have H:=jH h;clear h;go_enter Tryz.func24,Tryz.ntmps24;go_wp2_with fail
 go_loopw [3,8] (fun o i wr=>∃(k:Nat) (A':Option Addr) (c':Nat),k≤n∧i=.int .i64 k∧o=.slice A' k c'∧Hid (OwnV wr 3 1 w.heap.size A' k c' (((bvs bl).take k).map fun b=>.int .i64 (b.b:Nat)))∧Hid (New w wr)) (fun _ i _=>n - (intOf i).toNat)
 case atStart=>exact⟨0,none,0,Nat.zero_le _,rfl,rfl,OwnV.nil _ _ _ _,kR⟩
 case round=>
  obtain⟨k,A',c',hk,rfl,rfl,VO,VN⟩:=hrel
  by_cases hlt:k < n
  ·obtain⟨g,o,x,eA,hx,x0,x1,x2,_⟩:=(H.out.new VN.out).at_ hlt;subst eA
   have HX:Hid (((bvs bl).take (k+1)).map (fun b=>Value.int .i64 (b.b:Nat))=((bvs bl).take k).map (fun b=>Value.int .i64 (b.b:Nat))++[.int .i64 (x.b:Nat)]):=by
    rw[Hid,List.take_add_one,bvs_at hx,List.map_append];rfl
   obtain⟨xb,xq,xl,xA,xc⟩:=x
   dsimp only at *
   generalize xl.length=pn at *;clear hx;obtain⟨w2,hw2⟩:∃w2,w2=wr.alloc (.cells #[.int .i64 (xb:Nat),.int .u64 (xq:Nat),.slice xA pn xc] 82):=⟨_,rfl⟩
   have m2:New wr w2:=by rw[hw2];exact kR.alloc _
   have y0:w2.cell? ⟨wr.heap.size,0,none⟩=some (.int .i64 (xb:Nat)):=by rw[hw2];exact (Blk.made wr 82 #[.int .i64 (xb:Nat),.int .u64 (xq:Nat),.slice xA pn xc]).cell 0
   obtain⟨w3,hw3⟩:∃w3,w3=w2.alloc (.cells #[.int .i64 (xb:Nat)] 3):=⟨_,rfl⟩
   have m3:New w2 w3:=by rw[hw3];exact kR.alloc _
   have B3:Hid (Blk w3 w2.heap.size 3 [.int .i64 (xb:Nat)]):=by rw[hw3];exact Blk.made w2 _ _
   have N3:Hid (New w w3):=(VN.out.new m2).new m3;have W3:Hid (OwnV w3 3 1 w.heap.size A' k c' (((bvs bl).take k).map fun b=>.int .i64 (b.b:Nat))):=(VO.out.new m2).new m3;have HW2:=jH hw2;have HW3:=jH hw3;clear m2 m3 hw2 hw3 VO VN
   go_upto_region 5 with fail
   rw[←HW2.out];clear HW2 x0 x1 x2
   go_wp2_with (at_builtin;rw[←HW3.out];refine wpList_append_int rfl _ _ rfl w.heap.size A' k c' _ rfl W3.out w2.heap.size 1 (xb:Nat) rfl B3.out (by omega) N3.out.size ?_)
   intro A5 c5 w5 O5 K5
   have V5:Hid (OwnV w5 3 1 w.heap.size A5 (k+1) c5 (((bvs bl).take (k+1)).map fun b=>.int .i64 (b.b:Nat))):=by rw[Hid,HX.out,List.map_take];exact O5.out
   have N5:Hid (New w w5):=new_row N3.out W3.out K5.out;clear O5 K5 W3 N3 B3 HW3 HX y0;go_wp2;go_roundw
   case rel=>exact⟨k+1,A5,c5,by omega,by go_num,rfl,V5,N5⟩
   case measure=>simp[intOf];omega
  ·have hkn:k=n:=by omega
   have E9:Hid (NumsP w ((bvs bl).map (·.b)) (.returned (.slice A' k c')) wr):=by
    have ho:=VO.out
    have hl:(bvs bl).length=n:=by unfold bvs;rw[List.length_map,HL.out]
    rw[List.take_of_length_le (by omega)] at ho;refine⟨A',c',by rw[List.length_map,hl,hkn],?_,VN.out⟩;unfold IOwn;rw[List.length_map,hl,List.map_map,←hkn];exact ho
   clear VO VN;go_wp2;go_ret;exact E9.out
theorem eraV_mem {s:CSt} {era:Nat}:∀{l:List TK} {b:BV},b∈eraV s era l→∃t∈l,b.b=t.b∧b.q=t.s∧b.l=pgsB s t.b
 | [],b,h=>by simp[eraV] at h
 | t::l,b,h=>by
  unfold eraV at h
  split at h
  ·rcases List.mem_cons.1 h with rfl|h
   ·exact⟨t,List.mem_cons_self,rfl,rfl,rfl⟩
   ·obtain⟨u,hu,e⟩:=eraV_mem h;exact⟨u,List.mem_cons_of_mem _ hu,e⟩
  ·obtain⟨u,hu,e⟩:=eraV_mem h;exact⟨u,List.mem_cons_of_mem _ hu,e⟩
theorem eraV_pw {s:CSt} {era:Nat}:∀{l:List TK},l.Pairwise SeqLe→(eraV s era l).Pairwise (fun a b=>a.q≤b.q)
 | [],_=>List.Pairwise.nil
 | t::l,h=>by
  have h2:=List.pairwise_cons.1 h;unfold eraV
  split
  ·refine List.pairwise_cons.2 ⟨fun b hb=>?_,eraV_pw h2.2⟩;obtain⟨u,hu,_,e,_⟩:=eraV_mem hb;rw[e];exact h2.1 u hu
  ·exact eraV_pw h2.2
theorem tkn_pw (s:CSt) (p:PSt):(tknL s p).Pairwise SeqLe:=insG_pw _
def eraL (s:CSt) (era:Nat):List BV:=eraV s era (tknL s (scanS s))
def eraR (s:CSt) (era:Nat):Nat:=ctB (lsB 0 (eraL s era)) (eraL s era)
theorem eraL_len {s:CSt} {era:Nat} (h:s.nb≤19):(eraL s era).length≤19:=Nat.le_trans (Nat.le_trans (eraV_len _ _ _) (tkn_len _ _)) h
theorem pgsB_len {s:CSt} {b:Nat} (ok:s.Ok):(pgsB s b).length≤31:=by
 have:=pgsU_len (fun q=>readL s (b:Nat) (q:Nat)) (s.np - 1)
 have:=ok.np2
 unfold pgsB;omega
def BlsP (w:World) (l d:List Nat) (e:Ending) (w':World):Prop:=
 ∃A1 c1 A2 c2,e=.returned (.tuple #[.slice A1 l.length c1,.slice A2 d.length c2,.int .i64 0])∧IOwn w' w.heap.size A1 c1 l∧IOwn w' w.heap.size A2 c2 d∧New w w'
theorem bvs_take (l:List BE) (k:Nat):bvs (l.take k)=(bvs l).take k:=by unfold bvs;rw[List.map_take]
theorem bvs_drop (l:List BE) (k:Nat):bvs (l.drop k)=(bvs l).drop k:=by unfold bvs;rw[List.map_drop]
theorem era_facts {s:CSt} {era:Nat} {w:World} {B c:Nat} {A:Option Addr} {bl:List BE} (ok:s.Ok) (h19:s.nb≤19) (ho:BOwn w B A c bl) (hv:bvs bl=eraL s era):
  bl.length≤19∧bl.length≤c∧c≤maxLen∧(A=none→c=0∧bl.length=0)∧(∀e∈bl,e.pl.length≤31)∧(bvs bl).Pairwise (fun a b=>a.q≤b.q):=by
 have hl:bl.length=(eraL s era).length:=by rw[←hv];unfold bvs;rw[List.length_map]
 refine⟨by rw[hl];exact eraL_len h19,ho.1.2.1,ho.1.2.2.1,?_,fun e he=>?_,by rw[hv];exact eraV_pw (tkn_pw _ _)⟩
 ·obtain⟨_,_,_,h4⟩:=ho.1;rintro rfl
  rcases h4 with ⟨_,h⟩|⟨g,sp,h,_⟩
  ·omega
  ·cases h
 ·have hm:e.v∈eraL s era:=by rw[←hv];exact List.mem_map_of_mem he
  obtain⟨t,_,_,_,e3⟩:=eraV_mem hm
  have:e.pl.length=(pgsB s t.b).length:=by rw[←e3];show _=(pvs e.pl).length;unfold pvs;rw[List.length_map]
  rw[this];exact pgsB_len ok
theorem Blocks_ok (Q:Nat→Prop) (g:Nat) (s:CSt) (era:Nat) (w:World) (h:NChip Q w g s) (hal:s.dead=false) (h19:s.nb≤19) (he:era≠0) (he2:era < 4294967296):
  Calls Tryz.prog 7 #[.pointer (some ⟨g,0,none⟩),.int .u32 (era:Nat)] w (BlsP w (((eraL s era).drop (eraR s era)).map (·.b)) (((eraL s era).take (eraR s era)).map (·.b))):=by
 have ok:s.Ok:=by obtain⟨_,_,_,_,_,_,_,_,h⟩:=h;exact h.ok
 have C1:=fun u hu=>jH (blocksOf_ok Q g s era u (h.new hu) hal h19 he he2)
 have HF:=fun (u:World) (A:Option Addr) (c:Nat) (bl:List BE) ho hv=>jH (era_facts (era:=era) (w:=u) (B:=w.heap.size) (A:=A) (c:=c) (bl:=bl) ok h19 ho hv)
 clear h hal h19 he ok;have HE:Hid (eraV s era (tknL s (scanS s))=eraL s era):=rfl;have HR:Hid (eraR s era=ctB (lsB 0 (eraL s era)) (eraL s era)):=rfl;generalize eraR s era=r at *;go_enter Tryz.func7,Tryz.ntmps7;go_wp2_with fail;refine (C1 _ kR).out.mono ?_;rintro e w1 ⟨A1,c1,bl,rfl,e1,o1,k1⟩;have E1:Hid (bvs bl=eraL s era):=e1;obtain⟨f1,f2,f3,f4,f5,f6⟩:=(HF w1 A1 c1 bl o1 E1.out).out;have CS:=jH (split_any A1 bl.length c1 bl w1 o1.in_ (by omega) f2 f3 f4 (fun e he=>Nat.le_trans (f5 e he) (by unfold maxLen;omega)) f6);rw[E1.out,←HR.out] at CS;have K1:=jH k1;have HB1:Hid (bl.length≤19):=f1
 have HRL:Hid (r≤bl.length):=by
  rw[Hid,HR.out]
  have:=ctB_le (lsB 0 (eraL s era)) (eraL s era)
  have e:(eraL s era).length=bl.length:=by rw[←E1.out];unfold bvs;rw[List.length_map]
  omega
 clear e1 o1 k1 f1 f2 f3 f4 f5 f6 HF C1 HR;generalize hbn:bl.length=bn at *;clear hbn;go_wp2_with fail;refine CS.out.mono ?_;rintro e w2 ⟨A2,c2,rfl,i1,i2,_,_,k2⟩;have I1:=jH i1;have I2:=jH i2;have K2:=jH (K1.out.new k2);have hb1:=HB1.out;have hrl:=HRL.out;clear i1 i2 k2 K1 CS;go_wp2_with fail;refine (numbers_any A2 (bn - r) c2 (bl.drop r) _ I2.out (by omega)).mono ?_;rintro e w3 ⟨A3,c3,rfl,o3,k3⟩
 have O3:Hid (IOwn w3 w.heap.size A3 c3 (((eraL s era).drop r).map (·.b))):=by
  have:=o3.mono K2.out.size
  rwa [bvs_drop,E1.out] at this
 have K3:=jH (K2.out.new k3);have I1':=jH (I1.out.new k3);rw[show ((bvs (bl.drop r)).map (·.b)).length=(((eraL s era).drop r).map (·.b)).length by rw[bvs_drop,E1.out]];clear o3 k3 I1 I2 K2;generalize hd:((eraL s era).drop r).map (·.b)=dl at *;have HD:=jH hd;clear hd;generalize hdn:dl.length=dn at *;have HDN:=jH hdn;clear hdn;go_wp2_with fail;refine (numbers_any A1 r c1 (bl.take r) _ I1'.out (by omega)).mono ?_;rintro e w4 ⟨A4,c4,rfl,o4,k4⟩
 have E:Hid (BlsP w dl (((eraL s era).take r).map (·.b)) (.returned (.tuple #[.slice A3 dn c3,.slice A4 ((bvs (bl.take r)).map (·.b)).length c4,.int .i64 0])) w4):=by
  have ht:(bvs (bl.take r)).map (·.b)=((eraL s era).take r).map (·.b):=by rw[bvs_take,E1.out]
  refine⟨A3,c3,A4,c4,by rw[HDN.out,ht],O3.out.new k4,?_,K3.out.new k4⟩;rw[←ht];exact o4.mono K3.out.size
 clear o4 k4 O3 K3 I1';generalize ((bvs (bl.take r)).map (·.b)).length=tn at *;go_wp2;go_ret3;have E':=E.out;rw[←HD.out] at E';exact E'
end
end Go.Proofs.YtbiihjdjbknibaaGreat
