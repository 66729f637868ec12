/-
  Layer 7: contracts (Ro).
-/
import Derived.Test.YtbiihjdjbknibaaGreatC01
import Derived.Deep.RegionLaw
namespace Go.Proofs.YtbiihjdjbknibaaGreat
set_option maxRecDepth 100000
set_option maxHeartbeats 8000000
set_option linter.unusedSimpArgs false
set_option linter.unusedVariables false
section
set_option maxRecDepth 100000
open Go.RowKit
def RowV (w:World) (A:Option Addr) (n sz:Nat) (vs:List Value):Prop:=
 vs.length=n*sz∧(0 < n→∃g o:Nat,A=some ⟨g,o,none⟩∧∀(j:Nat) (v:Value),vs[j]?=some v→w.cell? ⟨g,o+j,none⟩=some v)
section
variable {S:Nat→Prop} {w w':World} {A:Option Addr} {n sz:Nat} {vs:List Value}
theorem RowV.nil (w:World) (A:Option Addr) (sz:Nat):RowV w A 0 sz []:=⟨by simp,fun h=>absurd h (by omega)⟩
theorem RowV.drewN (h:RowV w A n sz vs) (k:Nat):RowV (w.drewN k) A n sz vs:=h
theorem RowV.kept (h:RowV w A n sz vs) (hk:Kept S w w') (hn:∀a,A=some a→¬S a.block):RowV w' A n sz vs:=by
 obtain⟨hl,hc⟩:=h;refine⟨hl,fun h0=>?_⟩;obtain⟨g,o,e,hc⟩:=hc h0;exact⟨g,o,e,fun j x hx=>hk.cell (hc j x hx) (show ¬S g from hn _ e)⟩
theorem RowV.new (h:RowV w A n sz vs) (hk:New w w'):RowV w' A n sz vs:=h.kept hk fun _ _ f=>f
end
def OwnV (w:World) (t:TypeId) (sz B:Nat) (A:Option Addr) (n c:Nat) (vs:List Value):Prop:=
 vs.length=n*sz∧n≤c∧c≤maxLen∧((A=none∧c=0)∨∃g sp,A=some ⟨g,0,none⟩∧B≤g∧Blk w g t (vs++sp)∧vs.length+sp.length=c*sz)
section
variable {S:Nat→Prop} {w w':World} {t:TypeId} {sz B B':Nat} {A:Option Addr} {n c:Nat} {vs:List Value}
theorem OwnV.nil (w:World) (t:TypeId) (sz B:Nat):OwnV w t sz B none 0 0 []:=⟨by simp,Nat.le_refl _,by simp,.inl ⟨rfl,rfl⟩⟩
theorem OwnV.drewN (h:OwnV w t sz B A n c vs) (k:Nat):OwnV (w.drewN k) t sz B A n c vs:=h
theorem OwnV.row (h:OwnV w t sz B A n c vs):RowV w A n sz vs:=by
 obtain⟨hl,hn,hc,h⟩:=h;refine⟨hl,fun h0=>?_⟩
 rcases h with ⟨rfl,rfl⟩|⟨g,sp,rfl,hB,hblk,hs⟩
 ·omega
 ·refine⟨g,0,rfl,fun j v hv=>?_⟩;have hj:j < vs.length:=(List.getElem?_eq_some_iff.1 hv).1;rw[hblk.cell,Nat.zero_add,List.getElem?_append_left hj,hv]
theorem OwnV.at_ (h:OwnV w t sz B A n c vs):∀a,A=some a→At w a.block t∧B≤a.block:=by
 rintro a rfl
 rcases h.2.2.2 with ⟨h,_⟩|⟨g,sp,h,hB,hblk,_⟩
 ·cases h
 ·injection h with h;subst h;exact⟨hblk.at_,hB⟩
theorem OwnV.mono (h:OwnV w t sz B A n c vs) (hB:B'≤B):OwnV w t sz B' A n c vs:=by
 obtain⟨h1,h2,h3,h⟩:=h;refine⟨h1,h2,h3,?_⟩
 rcases h with h|⟨g,sp,e1,e2,e3⟩
 ·exact .inl h
 ·exact .inr ⟨g,sp,e1,by omega,e3⟩
theorem OwnV.kept (h:OwnV w t sz B A n c vs) (hk:Kept S w w') (hn:∀a,A=some a→¬S a.block):OwnV w' t sz B A n c vs:=by
 obtain⟨h1,h2,h3,h⟩:=h;refine⟨h1,h2,h3,?_⟩
 rcases h with h|⟨g,sp,rfl,hB,hblk,h4⟩
 ·exact .inl h
 ·exact .inr ⟨g,sp,rfl,hB,hblk.kept hk (hn _ rfl),h4⟩
theorem OwnV.new (h:OwnV w t sz B A n c vs) (hk:New w w'):OwnV w' t sz B A n c vs:=h.kept hk fun _ _ f=>f
end
section
variable {P:Program} (w:World)
theorem run_append_rowV (t ty e:TypeId) (i:TypeInfo) (z:Value) (ht:P.underlying t=some (.slice e)) (hi:P.info? e=some i) (hz:i.zero=some z) (hzs:z.cells.size=i.size) (_hsz:0 < i.size)
  (B:Nat) (A:Option Addr) (n c:Nat) (vs:List Value) (hown:OwnV w e i.size B A n c vs) (A':Option Addr) (m c':Nat) (us:List Value) (hr:RowV w A' m i.size us) (h1:∀u∈us,u.oneCell'=true)
  (hbytes:(n+m)*i.bytes≤140737488355328) (hsmall:n+m≤140737488355328) (hbase:B≤w.heap.size):
  ∃A2 c2 w',(Builtin.append_ #[t,t] ty #[.slice A n c,.slice A' m c']).run P w=.ok (.slice A2 (n+m) c2) w'∧OwnV w' e i.size B A2 (n+m) c2 (vs++us)∧w.grownBy w' (A.map (·.block)) ∧
   (A2=A∨A2=some ⟨w.heap.size,0,none⟩):=by
 obtain⟨hl,hnc,hcm,hown⟩:=hown;obtain⟨hul,huc⟩:=hr
 have hgrown:∀old,n+m≤grownCap w (n+m) old e∧grownCap w (n+m) old e≤maxLen:=fun old=>
  ⟨grownCap_ge w _ old e,grownCap_le_maxLen w _ old e (by unfold maxLen;omega)⟩
 have hlen2:(vs++us).length=(n+m)*i.size:=by rw[List.length_append,hl,hul,Nat.add_mul]
 by_cases hm:m=0
 ·subst hm
  have:us=[]:=List.eq_nil_of_length_eq_zero (by simpa using hul)
  subst this;refine⟨A,c,w,?_,⟨hlen2,by simpa using hnc,hcm,by simpa using hown⟩,⟨rfl,rfl,rfl,Nat.le_refl _,fun _ _ _=>rfl⟩,.inl rfl⟩
  rcases hown with ⟨rfl,rfl⟩|⟨g,sp,rfl,hB,hblk,hs⟩
  ·obtain rfl:n=0:=by omega
   rcases A' with _|a
   ·simp[Builtin.append_,run_underlying ht,sizeOf,typeInfo,hi,Builtin.lenOf,Builtin.firstCells]
   ·simp[Builtin.append_,run_underlying ht,sizeOf,typeInfo,hi,Builtin.lenOf,Builtin.firstCells,loadCells,loadCellsFrom]
  ·rcases A' with _|a
   ·simp[Builtin.append_,run_underlying ht,sizeOf,typeInfo,hi,Builtin.lenOf,Builtin.firstCells,hnc,storeCells]
   ·simp[Builtin.append_,run_underlying ht,sizeOf,typeInfo,hi,Builtin.lenOf,Builtin.firstCells,hnc,storeCells,loadCells,loadCellsFrom]
 ·obtain⟨gs,os,rfl,hcell⟩:=huc (by omega)
  have hnews:∀j v,us[j]?=some v→w.cell? ((⟨gs,os,none⟩:Addr).add j)=some v:=by
   intro j v hv;rw[Addr.add_lit];exact hcell j v hv
  rcases hown with ⟨rfl,rfl⟩|⟨g,sp,rfl,hB,hblk,hs⟩
  ·obtain rfl:n=0:=by omega
   have:vs=[]:=List.eq_nil_of_length_eq_zero (by simpa using hl)
   subst this;have hr:=run_append_nil (P:=P) w t ty e i z ht hi hz ⟨gs,os,none⟩ m c' us hul hnews (by omega) (by omega) (by simp at hbytes;omega);obtain⟨hg1,hg2⟩:=hgrown 0;simp only[Nat.zero_add] at hg1 hg2 hlen2;refine⟨some ⟨w.heap.size,0,none⟩,_,w.drew.alloc (.cells (us.toArray++Builtin.zeroCells z.cells (grownCap w m 0 e - m)) e),by simpa using hr,⟨by simpa using hlen2,by simpa using hg1,hg2,.inr ⟨w.heap.size,(Builtin.zeroCells z.cells (grownCap w m 0 e - m)).toList,rfl,hbase,?_,?_⟩⟩,⟨rfl,rfl,rfl,by simp,fun q hq _=>Below.heap_alloc w.drew _ q hq⟩,.inr rfl⟩
   ·have:=Blk.made w.drew e (us.toArray++Builtin.zeroCells z.cells (grownCap w m 0 e - m))
    simpa using this
   ·simp only[List.nil_append,Array.length_toList,size_zeroCells,hzs,hul];rw[←Nat.add_mul]
    congr 1
    omega
  ·by_cases hroom:n+m≤c
   ·have hle:(n+m)*i.size≤c*i.size:=Nat.mul_le_mul_right _ hroom
    have hfit:n*i.size+us.length≤((vs++sp).toArray).size:=by
     rw[hul,←Nat.add_mul];simp;omega
    have hr:=run_append_room (P:=P) w t ty e i ht hi g n c ((vs++sp).toArray) hblk ⟨gs,os,none⟩ m c' us hul hnews h1 hroom hfit;have htake:(vs++sp).take (n*i.size)=vs:=List.take_left' hl
    have hdrop:(vs++sp).drop (n*i.size+us.length)=sp.drop us.length:=by
     rw[←hl,List.drop_append,List.drop_of_length_le (by omega)];simp
    refine⟨_,_,_,hr,⟨hlen2,hroom,hcm,.inr ⟨g,sp.drop us.length,rfl,hB,?_,?_⟩⟩,
     ⟨rfl,rfl,rfl,by simp,fun q _ hq=>setRow_other w g q _ (fun e=>hq (by simp[e]))⟩,.inl rfl⟩
    ·have:=setRow_heap w g ((vs++sp).toArray) (((vs++sp).toArray.toList.take (n*i.size)++us++(vs++sp).toArray.toList.drop (n*i.size+us.length)).toArray) e (0,0) hblk
     unfold Blk;rw[this];simp only[htake,hdrop,List.append_assoc]
    ·rw[hlen2,List.length_drop]
     have hul2:us.length≤sp.length:=by rw[Nat.add_mul] at hle;rw[hul];omega
     rw[Nat.add_mul,←hul,←hl];omega
   ·have holds:∀j v,vs[j]?=some v→w.cell? ((⟨g,0,none⟩:Addr).add j)=some v:=by
     intro j v hv;rw[Addr.add_lit,Nat.zero_add,hblk.cell,List.getElem?_append_left (List.getElem?_eq_some_iff.1 hv).1,hv]
    have hr:=run_append_grow (P:=P) w t ty e i z ht hi hz ⟨g,0,none⟩ n c vs hl holds ⟨gs,os,none⟩ m c' us hul hnews (by omega) (by omega)
     (growslice_fits (by omega) hbytes)
    obtain⟨hg1,hg2⟩:=hgrown c;refine⟨_,_,_,hr,⟨hlen2,hg1,hg2,.inr ⟨w.heap.size,(Builtin.zeroCells z.cells (grownCap w (n+m) c e - (n+m))).toList,rfl,hbase,?_,?_⟩⟩,⟨rfl,rfl,rfl,by simp,fun q hq _=>Below.heap_alloc w.drew _ q hq⟩,.inr rfl⟩
    ·have:=Blk.made w.drew e (vs.toArray++us.toArray++Builtin.zeroCells z.cells (grownCap w (n+m) c e - (n+m)))
     simpa using this
    ·rw[hlen2];simp only[Array.length_toList,size_zeroCells,hzs];rw[←Nat.add_mul]
     congr 1
     omega
theorem wpList_append_rowV {ops:Array Oper} {rest:List Oper} {o:Oper} {a:Act} {Q:Exit→Act→World→Prop} (hgd:o.guard=none) (s x:Operand) (t:TypeId)
  (ho:o.op=.call { callee:=.builtin .append,args:=#[s,x],argTypes:=#[t,t] })
  (e:TypeId) (i:TypeInfo) (z:Value) (ht:P.underlying t=some (.slice e)) (hi:P.info? e=some i) (hz:i.zero=some z) (hzs:z.cells.size=i.size) (hsz:0 < i.size)
  (B:Nat) (A:Option Addr) (n c:Nat) (vs:List Value) (hsv:a.eval s=.slice A n c) (hown:OwnV w e i.size B A n c vs)
  (A':Option Addr) (m c':Nat) (us:List Value) (hx:a.eval x=.slice A' m c') (hr:RowV w A' m i.size us) (h1:∀u∈us,u.oneCell'=true)
  (hbytes:(n+m)*i.bytes≤140737488355328) (hsmall:n+m≤140737488355328) (hbase:B≤w.heap.size)
  (h:∀A2 c2 w',Hid (OwnV w' e i.size B A2 (n+m) c2 (vs++us))→Hid (w.grownBy w' (A.map (·.block)))→Hid (A2=A∨A2=some ⟨w.heap.size,0,none⟩)→wpList P ops Q rest (a.put o.dst (.slice A2 (n+m) c2)) w'):
  wpList P ops Q (o::rest) a w:=by
 refine wpList_plain hgd fun _ hK=>?_
 obtain⟨A2,c2,w',hrun,h2,h3,h4⟩:=run_append_rowV (P:=P) w t o.type e i z ht hi hz hzs hsz B A n c vs hown A' m c' us hr h1 hbytes hsmall hbase;unfold Oper.wp execOp;simp only[ho,resolve,invoke,builtin,Sem.run_bind,Sem.run_pure,Result.andThen_ok,List.map_toArray,List.map_cons,List.map_nil,hsv,hx,hrun];exact hK _ _ (h A2 c2 w' h2 h3 h4)
theorem step_append_rowV {ops:Array Oper} {o:Oper} {a:Act} {K:Act→World→Prop} {Q:Exit→Act→World→Prop} {E:Prop} (hgd:o.guard=none) (s x:Operand) (t:TypeId)
  (ho:o.op=.call { callee:=.builtin .append,args:=#[s,x],argTypes:=#[t,t] })
  (e:TypeId) (i:TypeInfo) (z:Value) (ht:P.underlying t=some (.slice e)) (hi:P.info? e=some i) (hz:i.zero=some z) (hzs:z.cells.size=i.size) (hsz:0 < i.size)
  (B:Nat) (A:Option Addr) (n c:Nat) (vs:List Value) (hsv:a.eval s=.slice A n c) (hown:OwnV w e i.size B A n c vs)
  (A':Option Addr) (m c':Nat) (us:List Value) (hx:a.eval x=.slice A' m c') (hr:RowV w A' m i.size us) (h1:∀u∈us,u.oneCell'=true)
  (hbytes:(n+m)*i.bytes≤140737488355328) (hsmall:n+m≤140737488355328) (hbase:B≤w.heap.size)
  (h:∀A2 c2 w',Hid (OwnV w' e i.size B A2 (n+m) c2 (vs++us))→Hid (w.grownBy w' (A.map (·.block)))→Hid (A2=A∨A2=some ⟨w.heap.size,0,none⟩)→K (a.put o.dst (.slice A2 (n+m) c2)) w'):
  if Region.wanted o (yielded ops a.tmps)=true then Oper.wp P o a w K Q else E:=by
 have hw:Region.wanted o (yielded ops a.tmps)=true:=by simp[Region.wanted,hgd]
 rw[if_pos hw];obtain⟨A2,c2,w',hrun,h2,h3,h4⟩:=run_append_rowV (P:=P) w t o.type e i z ht hi hz hzs hsz B A n c vs hown A' m c' us hr h1 hbytes hsmall hbase;unfold Oper.wp;simp[execOp,ho,resolve,invoke,builtin,hsv,hx,hrun,Result.andThen];exact h A2 c2 w' h2 h3 h4
end
end
end Go.Proofs.YtbiihjdjbknibaaGreat
