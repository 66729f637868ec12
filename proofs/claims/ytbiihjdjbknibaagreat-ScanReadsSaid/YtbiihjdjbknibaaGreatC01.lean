/-
  Layer 7: contracts (Kit Lift).
-/
import Derived.WalkKit
import Derived.ProofKit
import Derived.OpenShut
import Derived.Maps.AppendAt
import Derived.Deep.Draws
import Derived.Deep.QuietTactic
import Derived.BigQuiet
import Derived.Lib.Hide
import Derived.SizedLaws
import Derived.ChangeOld
import Derived.ShutString
namespace Go.Proofs.YtbiihjdjbknibaaGreat
set_option maxRecDepth 100000
set_option maxHeartbeats 8000000
set_option linter.unusedSimpArgs false
set_option linter.unusedVariables false
section
set_option maxRecDepth 100000
open Go.RowKit
structure Kept (S:Nat→Prop) (w w':World):Prop where
 os:w'.os=w.os
 tape:w'.tape=w.tape
 output:w'.output=w.output
 size:w.heap.size≤w'.heap.size
 block:∀k,k < w.heap.size→¬S k→w'.heap[k]?=w.heap[k]?
abbrev New (w w':World):Prop:=Kept (fun _=>False) w w'
section
variable {S S':Nat→Prop} {a b c w w':World}
theorem Kept.refl (S:Nat→Prop) (w:World):Kept S w w:=⟨rfl,rfl,rfl,Nat.le_refl _,fun _ _ _=>rfl⟩
theorem Kept.mono (h:Kept S w w') (hs:∀k,k < w.heap.size→S k→S' k):Kept S' w w':=
 ⟨h.os,h.tape,h.output,h.size,fun k hk hn=>h.block k hk (fun hS=>hn (hs k hk hS))⟩
theorem Kept.trans (h:Kept S a b) (k:Kept S' b c) (hs:∀i,i < a.heap.size→S' i→S i):Kept S a c:=
 ⟨k.os.trans h.os,k.tape.trans h.tape,k.output.trans h.output,Nat.le_trans h.size k.size,
  fun i hi hn=>(k.block i (Nat.lt_of_lt_of_le hi h.size) (fun h'=>hn (hs i hi h'))).trans (h.block i hi hn)⟩
theorem Kept.new (h:Kept S a b) (k:New b c):Kept S a c:=h.trans k fun _ _ f=>f.elim
theorem Kept.drew (h:Kept S a w):Kept S a w.drew:=⟨h.os,h.tape,h.output,h.size,h.block⟩
theorem Kept.drewN (h:Kept S a w) (n:Nat):Kept S a (w.drewN n):=⟨h.os,h.tape,h.output,h.size,h.block⟩
theorem Kept.of_drewN {n:Nat} (h:Kept S (w.drewN n) w'):Kept S w w':=⟨h.os,h.tape,h.output,h.size,h.block⟩
theorem Kept.alloc (h:Kept S a w) (o:Obj):Kept S a (w.alloc o):=
 h.trans (S':=S) ⟨rfl,rfl,rfl,by simp,fun k hk _=>Below.heap_alloc _ _ _ hk⟩ fun _ _ x=>x
theorem Kept.setCell (h:Kept S a w) {p:Addr} (hp:p.block < a.heap.size→S p.block) (u:Value):Kept S a (w.setCell p u):=
 ⟨h.os,h.tape,h.output,by simpa [World.setCell] using h.size,fun i hi hn=>(Below.heap_setCell w p u i (by rintro rfl;exact hn (hp hi))).trans (h.block i hi hn)⟩
theorem Kept.set1 (w:World) (g i:Nat) (u:Value):Kept (·=g) w (w.setCell ⟨g,i,none⟩ u):=(Kept.refl (·=g) w).setCell (p:=⟨g,i,none⟩) (fun _=>rfl) u
theorem Kept.grown {row:Option Nat} (h:Kept S a w) (hg:w.grownBy w' row) (hr:∀k,k < a.heap.size→row=some k→S k):Kept S a w':=
 h.trans (S':=fun k=>row=some k) ⟨hg.os,hg.tape,hg.output,hg.size,fun k hk hn=>hg.block k hk (fun e=>hn e.symm)⟩ hr
theorem Kept.below (h:New w w'):Below w.heap.size w w':=⟨h.os,h.tape,h.output,h.size,fun k hk=>h.block k hk id⟩
theorem New.of_below (h:Below w.heap.size w w'):New w w':=⟨h.os,h.tape,h.output,h.size,fun k hk _=>h.block k hk⟩
theorem Kept.cell (h:Kept S w w') {p:Addr} {v:Value} (hc:w.cell? p=some v) (hn:¬S p.block):w'.cell? p=some v:=
 (World.cell?_of_block (h.block _ (World.block_lt_of_cell? w p hc) hn)).trans hc
end
def Blk (w:World) (g:Nat) (t:TypeId) (cs:List Value):Prop:=w.heap[g]?=some (.cells cs.toArray t (0,0))
section
variable {S:Nat→Prop} {w w':World} {g:Nat} {t:TypeId} {cs:List Value}
theorem Blk.lt (h:Blk w g t cs):g < w.heap.size:=by
 rcases Nat.lt_or_ge g w.heap.size with hlt|hge
 ·exact hlt
 ·unfold Blk at h;rw[Array.getElem?_eq_none hge] at h;cases h
theorem Blk.cell (h:Blk w g t cs) (i:Nat):w.cell? ⟨g,i,none⟩=cs[i]?:=by
 rw[cell_of_row w g i cs.toArray t (0,0) h];simp
theorem Blk.free (h:Blk w g t cs) (i:Nat):w.frozen? ⟨g,i,none⟩=false:=by
 unfold Blk at h;simp[World.frozen?,h]
theorem Blk.made (w:World) (t:TypeId) (cs:Array Value):Blk (w.alloc (.cells cs t)) w.heap.size t cs.toList:=by
 unfold Blk;simpa using heap_alloc_new w (.cells cs t)
theorem Blk.drew (h:Blk w g t cs):Blk w.drew g t cs:=h
theorem Blk.drewN (h:Blk w g t cs) (n:Nat):Blk (w.drewN n) g t cs:=h
theorem Blk.kept (h:Blk w g t cs) (hk:Kept S w w') (hn:¬S g):Blk w' g t cs:=(hk.block g h.lt hn).trans h
theorem Blk.alloc (h:Blk w g t cs) (o:Obj):Blk (w.alloc o) g t cs:=(Below.heap_alloc w o g h.lt).trans h
theorem Blk.put (h:Blk w g t cs) (i:Nat) (u:Value):Blk (w.setCell ⟨g,i,none⟩ u) g t (cs.set i u):=by
 unfold Blk at h ⊢;simp[World.setCell,Array.getElem?_modify,h]
theorem Blk.ne_of {g':Nat} {t':TypeId} {cs':List Value} (h:Blk w g t cs) (h':Blk w g' t' cs') (hne:t≠t'):g≠g':=by
 rintro rfl;unfold Blk at h h';rw[h] at h'
 injection h' with h'
 injection h' with _ ht
 exact hne ht
end
def At (w:World) (g:Nat) (t:TypeId):Prop:=∃cs fr,w.heap[g]?=some (.cells cs t fr)
section
variable {S:Nat→Prop} {w w':World} {g g':Nat} {t t':TypeId} {cs:List Value}
theorem At.lt (h:At w g t):g < w.heap.size:=by
 obtain⟨cs,fr,h⟩:=h
 rcases Nat.lt_or_ge g w.heap.size with hlt|hge
 ·exact hlt
 ·rw[Array.getElem?_eq_none hge] at h;cases h
theorem Blk.at_ (h:Blk w g t cs):At w g t:=⟨_,_,h⟩
theorem At.ne_of (h:At w g t) (h':At w g' t') (hne:t≠t'):g≠g':=by
 rintro rfl;obtain⟨_,_,h⟩:=h;obtain⟨_,_,h'⟩:=h';rw[h] at h'
 injection h' with h'
 injection h' with _ ht
 exact hne ht
theorem At.kept (h:At w g t) (hk:Kept S w w') (hn:¬S g):At w' g t:=by
 obtain⟨cs,fr,e⟩:=h;exact⟨cs,fr,(hk.block g (At.lt ⟨cs,fr,e⟩) hn).trans e⟩
end
def byt (x:Nat):Value:=.int .u8 (x:Int)
def Bts (w:World) (A:Option Addr) (n:Nat) (l:List Nat):Prop:=
 l.length=n∧(∀x∈l,x < 256)∧(0 < n→∃g o:Nat,A=some ⟨g,o,none⟩∧∀(j x:Nat),l[j]?=some x→w.cell? ⟨g,o+j,none⟩=some (.int .u8 (x:Int)))
section
variable {S:Nat→Prop} {w w':World} {A:Option Addr} {n:Nat} {l:List Nat}
theorem Bts.nil (w:World) (A:Option Addr):Bts w A 0 []:=⟨rfl,by simp,fun h=>absurd h (by omega)⟩
theorem Bts.drew (h:Bts w A n l):Bts w.drew A n l:=h
theorem Bts.drewN (h:Bts w A n l) (k:Nat):Bts (w.drewN k) A n l:=h
theorem Bts.at_ {k:Nat} (h:Bts w A n l) (hk:k < n):∃g o x,A=some ⟨g,o,none⟩∧l[k]?=some x∧x < 256∧w.cell? ⟨g,o+k,none⟩=some (.int .u8 (x:Int)):=by
 obtain⟨hl,hb,hc⟩:=h;obtain⟨g,o,e,hc⟩:=hc (by omega)
 have hk':k < l.length:=by omega
 exact⟨g,o,l[k],e,List.getElem?_eq_getElem hk',hb _ (List.getElem_mem hk'),hc _ _ (List.getElem?_eq_getElem hk')⟩
theorem Bts.kept (h:Bts w A n l) (hk:Kept S w w') (hn:∀a,A=some a→¬S a.block):Bts w' A n l:=by
 obtain⟨hl,hb,hc⟩:=h;refine⟨hl,hb,fun h0=>?_⟩;obtain⟨g,o,e,hc⟩:=hc h0;exact⟨g,o,e,fun j x hx=>hk.cell (hc j x hx) (show ¬S g from hn _ e)⟩
theorem Bts.new (h:Bts w A n l) (hk:New w w'):Bts w' A n l:=h.kept hk fun _ _ f=>f
theorem Bts.cut {k c:Nat} (h:Bts w A n l) (hk:k≤n) (hc:n≤c):Bts w (if c=k then A else A.map (·.add k)) (n - k) (l.drop k):=by
 obtain⟨hl,hb,hcell⟩:=h;refine⟨by simp[hl],fun x hx=>hb x (List.mem_of_mem_drop hx),fun h0=>?_⟩;obtain⟨g,o,rfl,hat⟩:=hcell (by omega);rw[if_neg (by omega)];refine⟨g,o+k,by simp[Addr.add_lit],fun j x hx=>?_⟩;rw[List.getElem?_drop] at hx
 have:=hat _ _ hx
 rwa [Nat.add_assoc]
theorem Bts.take {k:Nat} (h:Bts w A n l) (hk:k≤n):Bts w A k (l.take k):=by
 obtain⟨hl,hb,hcell⟩:=h;refine⟨by simp;omega,fun x hx=>hb x (List.mem_of_mem_take hx),fun h0=>?_⟩;obtain⟨g,o,rfl,hat⟩:=hcell (by omega);refine⟨g,o,rfl,fun j x hx=>hat j x ?_⟩;rw[List.getElem?_take] at hx
 split at hx
 ·exact hx
 ·cases hx
end
def OwnB (w:World) (t:TypeId) (B:Nat) (A:Option Addr) (c:Nat) (l:List Nat):Prop:=
 (∀x∈l,x < 256)∧((A=none∧c=0∧l=[]) ∨
  ∃g sp,A=some ⟨g,0,none⟩∧B≤g∧Blk w g t ((l++sp).map byt)∧(∀x∈sp,x < 256)∧c=l.length+sp.length∧c≤maxLen)
section
variable {S:Nat→Prop} {w w':World} {t:TypeId} {B B':Nat} {A:Option Addr} {c:Nat} {l:List Nat}
theorem OwnB.nil (w:World) (t:TypeId) (B:Nat):OwnB w t B none 0 []:=⟨by simp,.inl ⟨rfl,rfl,rfl⟩⟩
theorem OwnB.drewN (h:OwnB w t B A c l) (k:Nat):OwnB (w.drewN k) t B A c l:=h
theorem OwnB.bts (h:OwnB w t B A c l):Bts w A l.length l:=by
 obtain⟨hb,h⟩:=h;refine⟨rfl,hb,fun h0=>?_⟩
 rcases h with ⟨rfl,rfl,rfl⟩|⟨g,sp,rfl,hB,hblk,_,_,_⟩
 ·exact absurd h0 (by simp)
 ·refine⟨g,0,rfl,fun j x hx=>?_⟩;rw[hblk.cell];have hj:j < l.length:=(List.getElem?_eq_some_iff.1 hx).1;rw[Nat.zero_add,List.map_append,List.getElem?_append_left (by simpa using hj),List.getElem?_map,hx]
  rfl
theorem OwnB.at_ (h:OwnB w t B A c l):∀a,A=some a→At w a.block t∧B≤a.block:=by
 rintro a rfl
 rcases h.2 with ⟨h,_⟩|⟨g,sp,h,hB,hblk,_,_,_⟩
 ·cases h
 ·injection h with h;subst h;exact⟨hblk.at_,hB⟩
theorem OwnB.le (h:OwnB w t B A c l):l.length≤c∧c≤maxLen:=by
 rcases h.2 with ⟨rfl,rfl,rfl⟩|⟨g,sp,rfl,hB,hblk,_,h1,h2⟩
 ·simp
 ·omega
theorem OwnB.mono (h:OwnB w t B A c l) (hB:B'≤B):OwnB w t B' A c l:=by
 obtain⟨hb,h⟩:=h;refine⟨hb,?_⟩
 rcases h with h|⟨g,sp,h1,h2,h3⟩
 ·exact .inl h
 ·exact .inr ⟨g,sp,h1,by omega,h3⟩
theorem OwnB.kept (h:OwnB w t B A c l) (hk:Kept S w w') (hn:∀a,A=some a→¬S a.block):OwnB w' t B A c l:=by
 obtain⟨hb,h⟩:=h;refine⟨hb,?_⟩
 rcases h with h|⟨g,sp,rfl,hB,hblk,h4⟩
 ·exact .inl h
 ·exact .inr ⟨g,sp,rfl,hB,hblk.kept hk (hn _ rfl),h4⟩
theorem OwnB.new (h:OwnB w t B A c l) (hk:New w w'):OwnB w' t B A c l:=h.kept hk fun _ _ f=>f
end
theorem Bts.one (w:World) (t:TypeId) (x g:Nat) (hx:x < 256) (hg:g=w.heap.size):Bts (w.alloc (.cells #[.int .u8 (x:Int)] t)) (some ⟨g,0,none⟩) 1 [x]:=by
 subst hg;refine⟨rfl,by simpa using hx,fun _=>⟨_,0,rfl,fun j y hy=>?_⟩⟩
 match j,hy with
 | 0,hy=>
  simp at hy;subst hy;exact (Blk.made w t #[.int .u8 (x:Int)]).cell 0
theorem OwnB.of_blk {w:World} {t:TypeId} {g B:Nat} {l sp:List Nat} {c:Nat} (h:Blk w g t ((l++sp).map byt)) (hB:B≤g) (hb:∀x∈l++sp,x < 256) (hc:c=l.length+sp.length) (hm:c≤maxLen):
  OwnB w t B (some ⟨g,0,none⟩) c l:=
 ⟨fun x hx=>hb x (List.mem_append_left _ hx),.inr ⟨g,sp,rfl,hB,h,fun x hx=>hb x (List.mem_append_right _ hx),hc,hm⟩⟩
section
variable {P:Program} (w:World)
theorem zeros_u8 (k:Nat):Builtin.zeroCells (Value.cells (.int .u8 0)) k=((List.replicate k 0).map byt).toArray:=by
 simp[Builtin.zeroCells,Value.cells,byt]
 apply Array.ext
 ·simp
 ·intro i h1 h2;simp[Nat.mod_one]
theorem run_append_bytes (t ty e:TypeId) (i:TypeInfo) (ht:P.underlying t=some (.slice e)) (hi:P.info? e=some i) (hz:i.zero=some (.int .u8 0)) (hs:i.size=1) (hby:i.bytes=1)
  (B:Nat) (A:Option Addr) (c:Nat) (l:List Nat) (hown:OwnB w e B A c l) (A':Option Addr) (m c':Nat) (k:List Nat) (hr:Bts w A' m k)
  (hbytes:l.length+m≤140737488355328) (hbase:B≤w.heap.size) (n:Nat) (hn:n=l.length):
  ∃A2 c2 w',(Builtin.append_ #[t,t] ty #[.slice A n c,.slice A' m c']).run P w=.ok (.slice A2 (n+m) c2) w'∧OwnB w' e B A2 c2 (l++k)∧w.grownBy w' (A.map (·.block)) ∧
   (A2=A∨A2=some ⟨w.heap.size,0,none⟩):=by
 subst hn;obtain⟨hb,hown⟩:=hown;obtain⟨hlen,hkb,hkc⟩:=hr
 have hb2:∀x∈l++k,x < 256:=by
  intro x hx
  rcases List.mem_append.1 hx with h|h
  ·exact hb x h
  ·exact hkb x h
 have hgrown:∀old,l.length+m≤grownCap w (l.length+m) old e∧grownCap w (l.length+m) old e≤maxLen:=fun old=>
  ⟨grownCap_ge w _ old e,grownCap_le_maxLen w _ old e (by unfold maxLen;omega)⟩
 by_cases hm:m=0
 ·subst hm
  have:k=[]:=List.eq_nil_of_length_eq_zero hlen
  subst this;refine⟨A,c,w,?_,⟨by simpa using hb,by simpa using hown⟩,⟨rfl,rfl,rfl,Nat.le_refl _,fun _ _ _=>rfl⟩,.inl rfl⟩
  rcases hown with ⟨rfl,rfl,rfl⟩|⟨g,sp,rfl,hB,hblk,_,h1,h2⟩
  ·rcases A' with _|a
   ·simp[Builtin.append_,run_underlying ht,sizeOf,typeInfo,hi,Builtin.lenOf,Builtin.firstCells]
   ·simp[Builtin.append_,run_underlying ht,sizeOf,typeInfo,hi,Builtin.lenOf,Builtin.firstCells,loadCells,loadCellsFrom]
  ·have hle:l.length≤c:=by omega
   rcases A' with _|a
   ·simp[Builtin.append_,run_underlying ht,sizeOf,typeInfo,hi,Builtin.lenOf,Builtin.firstCells,hle,storeCells]
   ·simp[Builtin.append_,run_underlying ht,sizeOf,typeInfo,hi,Builtin.lenOf,Builtin.firstCells,hle,storeCells,loadCells,loadCellsFrom]
 ·obtain⟨gs,os,rfl,hcell⟩:=hkc (by omega)
  have hnews:∀j v,(k.map byt)[j]?=some v→w.cell? ((⟨gs,os,none⟩:Addr).add j)=some v:=by
   intro j v hv;rw[List.getElem?_map] at hv;obtain⟨x,hx,rfl⟩:=Option.map_eq_some_iff.1 hv
   have:=hcell j x hx
   rw[←Addr.add_lit] at this;exact this
  have hl':(k.map byt).length=m*i.size:=by simp[hs,hlen]
  rcases hown with ⟨rfl,rfl,rfl⟩|⟨g,sp,rfl,hB,hblk,hsp,h1,h2⟩
  ·have hr:=run_append_nil (P:=P) w t ty e i (.int .u8 0) ht hi hz ⟨gs,os,none⟩ m c' (k.map byt) hl' hnews (by omega) (by simp at hbytes;omega) (by rw[hby];simp at hbytes;omega);obtain⟨hg1,hg2⟩:=hgrown 0;simp only[List.length_nil,Nat.zero_add] at hg1 hg2;refine⟨some ⟨w.heap.size,0,none⟩,_,w.drew.alloc (.cells ((k.map byt).toArray++Builtin.zeroCells (Value.cells (.int .u8 0)) (grownCap w m 0 e - m)) e),by simpa [hlen] using hr,⟨hb2,.inr ⟨w.heap.size,List.replicate (grownCap w m 0 e - m) 0,rfl,hbase,?_,?_,?_,hg2⟩⟩,⟨rfl,rfl,rfl,by simp,fun q hq _=>Below.heap_alloc w.drew _ q hq⟩,.inr rfl⟩
   ·have:=Blk.made w.drew e ((k.map byt).toArray++Builtin.zeroCells (Value.cells (.int .u8 0)) (grownCap w m 0 e - m))
    rw[zeros_u8] at this ⊢;simpa using this
   ·intro x hx;have:=List.eq_of_mem_replicate hx;omega
   ·simp[hlen];omega
  ·by_cases hroom:l.length+m≤c
   ·have hfit:l.length*i.size+(k.map byt).length≤(((l++sp).map byt).toArray).size:=by simp[hs,hlen];omega
    have h1c:∀u∈k.map byt,u.oneCell'=true:=by
     intro u hu;obtain⟨x,_,rfl⟩:=List.mem_map.1 hu
     rfl
    have hr:=run_append_room (P:=P) w t ty e i ht hi g l.length c (((l++sp).map byt).toArray) hblk ⟨gs,os,none⟩ m c' (k.map byt) hl' hnews h1c hroom hfit
    refine⟨_,_,_,hr,⟨hb2,.inr ⟨g,sp.drop m,rfl,hB,?_,fun x hx=>hsp x (List.mem_of_mem_drop hx),by simp;omega,h2⟩⟩,
     ⟨rfl,rfl,rfl,by simp,fun q _ hq=>setRow_other w g q _ (fun e=>hq (by simp[e]))⟩,.inl rfl⟩
    have:=setRow_heap w g (((l++sp).map byt).toArray) ((((l++sp).map byt).toArray.toList.take (l.length*i.size)++k.map byt++((l++sp).map byt).toArray.toList.drop (l.length*i.size+(k.map byt).length)).toArray) e (0,0) hblk
    unfold Blk;rw[this]
    congr 2
    apply Array.ext'
    simp[hs,hlen,List.drop_append]
   ·have holds:∀j v,(l.map byt)[j]?=some v→w.cell? ((⟨g,0,none⟩:Addr).add j)=some v:=by
     intro j v hv;rw[Addr.add_lit,Nat.zero_add,hblk.cell,List.map_append];have hj:j < (l.map byt).length:=(List.getElem?_eq_some_iff.1 hv).1;rw[List.getElem?_append_left hj,hv]
    have hr:=run_append_grow (P:=P) w t ty e i (.int .u8 0) ht hi hz ⟨g,0,none⟩ l.length c (l.map byt) (by simp[hs]) holds ⟨gs,os,none⟩ m c' (k.map byt) hl' hnews (by omega) (by omega)
     (growslice_fits (by omega) (by rw[hby];omega))
    obtain⟨hg1,hg2⟩:=hgrown c;refine⟨_,_,_,hr,⟨hb2,.inr ⟨w.heap.size,List.replicate (grownCap w (l.length+m) c e - (l.length+m)) 0,rfl,hbase,?_,?_,?_,hg2⟩⟩,⟨rfl,rfl,rfl,by simp,fun q hq _=>Below.heap_alloc w.drew _ q hq⟩,.inr rfl⟩
    ·have:=Blk.made w.drew e ((l.map byt).toArray++(k.map byt).toArray++Builtin.zeroCells (Value.cells (.int .u8 0)) (grownCap w (l.length+m) c e - (l.length+m)))
     rw[zeros_u8] at this ⊢;simpa using this
    ·intro x hx;have:=List.eq_of_mem_replicate hx;omega
    ·simp[hlen];omega
theorem wpList_append_bytes {ops:Array Oper} {rest:List Oper} {o:Oper} {a:Act} {Q:Exit→Act→World→Prop} (hgd:o.guard=none) (s x:Operand) (t:TypeId)
  (ho:o.op=.call { callee:=.builtin .append,args:=#[s,x],argTypes:=#[t,t] })
  (e:TypeId) (i:TypeInfo) (ht:P.underlying t=some (.slice e)) (hi:P.info? e=some i) (hz:i.zero=some (.int .u8 0)) (hs:i.size=1) (hby:i.bytes=1)
  (B:Nat) (A:Option Addr) (n c:Nat) (l:List Nat) (hsv:a.eval s=.slice A n c) (hown:OwnB w e B A c l) (hn:n=l.length)
  (A':Option Addr) (m c':Nat) (k:List Nat) (hx:a.eval x=.slice A' m c') (hr:Bts w A' m k)
  (hbytes:l.length+m≤140737488355328) (hbase:B≤w.heap.size)
  (h:∀A2 c2 w',OwnB w' e B A2 c2 (l++k)→w.grownBy w' (A.map (·.block))→(A2=A∨A2=some ⟨w.heap.size,0,none⟩)→wpList P ops Q rest (a.put o.dst (.slice A2 (n+m) c2)) w'):
  wpList P ops Q (o::rest) a w:=by
 refine wpList_plain hgd fun _ hK=>?_
 obtain⟨A2,c2,w',hrun,h2,h3,h4⟩:=run_append_bytes (P:=P) w t o.type e i ht hi hz hs hby B A c l hown A' m c' k hr hbytes hbase n hn;unfold Oper.wp execOp;simp only[ho,resolve,invoke,builtin,Sem.run_bind,Sem.run_pure,Result.andThen_ok,List.map_toArray,List.map_cons,List.map_nil,hsv,hx,hrun];exact hK _ _ (h A2 c2 w' h2 h3 h4)
end
theorem made_u8 (n:Nat):madeCells (Value.cells (.int .u8 0)) n=((List.replicate n 0).map byt).toArray:=by
 simp[madeCells,Value.cells,byt]
 apply Array.ext
 ·simp
 ·intro i h1 h2;simp[Nat.mod_one]
def rawB (l:List Nat):Array Value:=(l.map byt).toArray
theorem Blk.madeB (w:World) (t:TypeId) (l:List Nat):Blk (w.alloc (.cells (rawB l) t)) w.heap.size t (l.map byt):=heap_alloc_new w _
theorem Bts.lit (w:World) (t:TypeId) (fr:Nat×Nat) (l:List Nat) (hb:∀x∈l,x < 256) (n:Nat) (hn:n=l.length):Bts (w.alloc (.cells (rawB l) t fr)) (some ⟨w.heap.size,0,none⟩) n l:=by
 subst hn;refine⟨rfl,hb,fun _=>⟨_,0,rfl,fun j x hx=>?_⟩⟩;rw[cell_of_row _ w.heap.size (0+j) (rawB l) t fr (heap_alloc_new w _)];simp[rawB,hx,byt]
theorem run_make_bytes {P:Program} (t e:TypeId) (i:TypeInfo) (ht:P.underlying t=some (.slice e)) (hi:P.info? e=some i) (hz:i.zero=some (.int .u8 0)) (hs:i.size=1) (hby:i.bytes=1)
  (kl kc:IntKind) (L C:Int) (n c:Nat) (hL:L=n) (hC:C=c) (hnc:n≤c) (hb:c≤281474976710656) (u:World):
  (Instr.makeSlice t (.int kl L) (.int kc C)).run P u=.ok (.slice (some ⟨u.heap.size,0,none⟩) n c) (u.alloc (.cells (rawB (List.replicate c 0)) e)):=by
 subst hL hC;have h:=run_make (P:=P) u t e i (.int .u8 0) ht hi hz kl kc n c (by omega) (by omega) (by rw[hby];omega) (by omega);simp only[Int.toNat_natCast] at h;rw[h,hs,Nat.mul_one,made_u8]
 rfl
theorem ret_bool {a b:Bool} (h:a=b):Ending.returned (.bool a)=.returned (.bool b):=by rw[h]
section
theorem Blk.q0 {w : World} {g : Nat} {t : TypeId} {x0 : Value} {l : List Value} (h : Blk w g t (x0 :: l)) : w.cell? ⟨g, 0, none⟩ = some x0 := h.cell 0
theorem Blk.q1 {w : World} {g : Nat} {t : TypeId} {x0 x1 : Value} {l : List Value} (h : Blk w g t (x0 :: x1 :: l)) : w.cell? ⟨g, 1, none⟩ = some x1 := h.cell 1
theorem Blk.q2 {w : World} {g : Nat} {t : TypeId} {x0 x1 x2 : Value} {l : List Value} (h : Blk w g t (x0 :: x1 :: x2 :: l)) : w.cell? ⟨g, 2, none⟩ = some x2 := h.cell 2
theorem Blk.q3 {w : World} {g : Nat} {t : TypeId} {x0 x1 x2 x3 : Value} {l : List Value} (h : Blk w g t (x0 :: x1 :: x2 :: x3 :: l)) : w.cell? ⟨g, 3, none⟩ = some x3 := h.cell 3
theorem Blk.q4 {w : World} {g : Nat} {t : TypeId} {x0 x1 x2 x3 x4 : Value} {l : List Value} (h : Blk w g t (x0 :: x1 :: x2 :: x3 :: x4 :: l)) : w.cell? ⟨g, 4, none⟩ = some x4 := h.cell 4
theorem Blk.q5 {w : World} {g : Nat} {t : TypeId} {x0 x1 x2 x3 x4 x5 : Value} {l : List Value} (h : Blk w g t (x0 :: x1 :: x2 :: x3 :: x4 :: x5 :: l)) : w.cell? ⟨g, 5, none⟩ = some x5 := h.cell 5
theorem Blk.q6 {w : World} {g : Nat} {t : TypeId} {x0 x1 x2 x3 x4 x5 x6 : Value} {l : List Value} (h : Blk w g t (x0 :: x1 :: x2 :: x3 :: x4 :: x5 :: x6 :: l)) : w.cell? ⟨g, 6, none⟩ = some x6 := h.cell 6
theorem Blk.q7 {w : World} {g : Nat} {t : TypeId} {x0 x1 x2 x3 x4 x5 x6 x7 : Value} {l : List Value} (h : Blk w g t (x0 :: x1 :: x2 :: x3 :: x4 :: x5 :: x6 :: x7 :: l)) : w.cell? ⟨g, 7, none⟩ = some x7 := h.cell 7
theorem Blk.p2 {w : World} {g : Nat} {t : TypeId} {x0 x1 : Value} {l : List Value} (h : Blk w g t (x0 :: x1 :: l)) : w.cell? ⟨g, 0, none⟩ = some x0 ∧ w.cell? ⟨g, 1, none⟩ = some x1 := ⟨h.cell 0, h.cell 1⟩
theorem Blk.f2 {w : World} {g : Nat} {t : TypeId} {cs : List Value} (h : Blk w g t cs) : w.frozen? ⟨g, 0, none⟩ = false ∧ w.frozen? ⟨g, 1, none⟩ = false := ⟨h.free 0, h.free 1⟩
theorem Blk.p3 {w : World} {g : Nat} {t : TypeId} {x0 x1 x2 : Value} {l : List Value} (h : Blk w g t (x0 :: x1 :: x2 :: l)) : w.cell? ⟨g, 0, none⟩ = some x0 ∧ w.cell? ⟨g, 1, none⟩ = some x1 ∧ w.cell? ⟨g, 2, none⟩ = some x2 := ⟨h.cell 0, h.cell 1, h.cell 2⟩
theorem Blk.f3 {w : World} {g : Nat} {t : TypeId} {cs : List Value} (h : Blk w g t cs) : w.frozen? ⟨g, 0, none⟩ = false ∧ w.frozen? ⟨g, 1, none⟩ = false ∧ w.frozen? ⟨g, 2, none⟩ = false := ⟨h.free 0, h.free 1, h.free 2⟩
theorem Blk.p4 {w : World} {g : Nat} {t : TypeId} {x0 x1 x2 x3 : Value} {l : List Value} (h : Blk w g t (x0 :: x1 :: x2 :: x3 :: l)) : w.cell? ⟨g, 0, none⟩ = some x0 ∧ w.cell? ⟨g, 1, none⟩ = some x1 ∧ w.cell? ⟨g, 2, none⟩ = some x2 ∧ w.cell? ⟨g, 3, none⟩ = some x3 := ⟨h.cell 0, h.cell 1, h.cell 2, h.cell 3⟩
theorem Blk.f4 {w : World} {g : Nat} {t : TypeId} {cs : List Value} (h : Blk w g t cs) : w.frozen? ⟨g, 0, none⟩ = false ∧ w.frozen? ⟨g, 1, none⟩ = false ∧ w.frozen? ⟨g, 2, none⟩ = false ∧ w.frozen? ⟨g, 3, none⟩ = false := ⟨h.free 0, h.free 1, h.free 2, h.free 3⟩
theorem Blk.p5 {w : World} {g : Nat} {t : TypeId} {x0 x1 x2 x3 x4 : Value} {l : List Value} (h : Blk w g t (x0 :: x1 :: x2 :: x3 :: x4 :: l)) : w.cell? ⟨g, 0, none⟩ = some x0 ∧ w.cell? ⟨g, 1, none⟩ = some x1 ∧ w.cell? ⟨g, 2, none⟩ = some x2 ∧ w.cell? ⟨g, 3, none⟩ = some x3 ∧ w.cell? ⟨g, 4, none⟩ = some x4 := ⟨h.cell 0, h.cell 1, h.cell 2, h.cell 3, h.cell 4⟩
theorem Blk.f5 {w : World} {g : Nat} {t : TypeId} {cs : List Value} (h : Blk w g t cs) : w.frozen? ⟨g, 0, none⟩ = false ∧ w.frozen? ⟨g, 1, none⟩ = false ∧ w.frozen? ⟨g, 2, none⟩ = false ∧ w.frozen? ⟨g, 3, none⟩ = false ∧ w.frozen? ⟨g, 4, none⟩ = false := ⟨h.free 0, h.free 1, h.free 2, h.free 3, h.free 4⟩
theorem Blk.p6 {w : World} {g : Nat} {t : TypeId} {x0 x1 x2 x3 x4 x5 : Value} {l : List Value} (h : Blk w g t (x0 :: x1 :: x2 :: x3 :: x4 :: x5 :: l)) : w.cell? ⟨g, 0, none⟩ = some x0 ∧ w.cell? ⟨g, 1, none⟩ = some x1 ∧ w.cell? ⟨g, 2, none⟩ = some x2 ∧ w.cell? ⟨g, 3, none⟩ = some x3 ∧ w.cell? ⟨g, 4, none⟩ = some x4 ∧ w.cell? ⟨g, 5, none⟩ = some x5 := ⟨h.cell 0, h.cell 1, h.cell 2, h.cell 3, h.cell 4, h.cell 5⟩
theorem Blk.f6 {w : World} {g : Nat} {t : TypeId} {cs : List Value} (h : Blk w g t cs) : w.frozen? ⟨g, 0, none⟩ = false ∧ w.frozen? ⟨g, 1, none⟩ = false ∧ w.frozen? ⟨g, 2, none⟩ = false ∧ w.frozen? ⟨g, 3, none⟩ = false ∧ w.frozen? ⟨g, 4, none⟩ = false ∧ w.frozen? ⟨g, 5, none⟩ = false := ⟨h.free 0, h.free 1, h.free 2, h.free 3, h.free 4, h.free 5⟩
theorem Blk.p7 {w : World} {g : Nat} {t : TypeId} {x0 x1 x2 x3 x4 x5 x6 : Value} {l : List Value} (h : Blk w g t (x0 :: x1 :: x2 :: x3 :: x4 :: x5 :: x6 :: l)) : w.cell? ⟨g, 0, none⟩ = some x0 ∧ w.cell? ⟨g, 1, none⟩ = some x1 ∧ w.cell? ⟨g, 2, none⟩ = some x2 ∧ w.cell? ⟨g, 3, none⟩ = some x3 ∧ w.cell? ⟨g, 4, none⟩ = some x4 ∧ w.cell? ⟨g, 5, none⟩ = some x5 ∧ w.cell? ⟨g, 6, none⟩ = some x6 := ⟨h.cell 0, h.cell 1, h.cell 2, h.cell 3, h.cell 4, h.cell 5, h.cell 6⟩
theorem Blk.f7 {w : World} {g : Nat} {t : TypeId} {cs : List Value} (h : Blk w g t cs) : w.frozen? ⟨g, 0, none⟩ = false ∧ w.frozen? ⟨g, 1, none⟩ = false ∧ w.frozen? ⟨g, 2, none⟩ = false ∧ w.frozen? ⟨g, 3, none⟩ = false ∧ w.frozen? ⟨g, 4, none⟩ = false ∧ w.frozen? ⟨g, 5, none⟩ = false ∧ w.frozen? ⟨g, 6, none⟩ = false := ⟨h.free 0, h.free 1, h.free 2, h.free 3, h.free 4, h.free 5, h.free 6⟩
theorem Blk.p8 {w : World} {g : Nat} {t : TypeId} {x0 x1 x2 x3 x4 x5 x6 x7 : Value} {l : List Value} (h : Blk w g t (x0 :: x1 :: x2 :: x3 :: x4 :: x5 :: x6 :: x7 :: l)) : w.cell? ⟨g, 0, none⟩ = some x0 ∧ w.cell? ⟨g, 1, none⟩ = some x1 ∧ w.cell? ⟨g, 2, none⟩ = some x2 ∧ w.cell? ⟨g, 3, none⟩ = some x3 ∧ w.cell? ⟨g, 4, none⟩ = some x4 ∧ w.cell? ⟨g, 5, none⟩ = some x5 ∧ w.cell? ⟨g, 6, none⟩ = some x6 ∧ w.cell? ⟨g, 7, none⟩ = some x7 := ⟨h.cell 0, h.cell 1, h.cell 2, h.cell 3, h.cell 4, h.cell 5, h.cell 6, h.cell 7⟩
theorem Blk.f8 {w : World} {g : Nat} {t : TypeId} {cs : List Value} (h : Blk w g t cs) : w.frozen? ⟨g, 0, none⟩ = false ∧ w.frozen? ⟨g, 1, none⟩ = false ∧ w.frozen? ⟨g, 2, none⟩ = false ∧ w.frozen? ⟨g, 3, none⟩ = false ∧ w.frozen? ⟨g, 4, none⟩ = false ∧ w.frozen? ⟨g, 5, none⟩ = false ∧ w.frozen? ⟨g, 6, none⟩ = false ∧ w.frozen? ⟨g, 7, none⟩ = false := ⟨h.free 0, h.free 1, h.free 2, h.free 3, h.free 4, h.free 5, h.free 6, h.free 7⟩
theorem kR {S : Nat → Prop} {w : World} : Kept S w w := Kept.refl S w
theorem jH {p : Prop} (h : p) : Hid p := Lib.hid h
end
end
section
set_option maxRecDepth 100000
open Go.ChangeShapes Go.WideShapes Go.ChangeAt Go.RowKit
def True1 (w:World) (e:Ending) (w':World):Prop:=e=.returned (.bool true)∧New w w'
section
variable {H:Type} {enc:TypeId×Value→H} {P:Program}
theorem trodAll_stays {W W':World} (hl:laidOutB P=true) (hb:Below W.heap.size W W'):∀(ts:List TypeId) (vs:List Value) (ds:List (DataW H)) (ps:List MemPlace),
  (∀t∈ts,P.readableRec t=true∧t < P.types.size)→(∀x∈ps,x.block < W.heap.size)→DataW.TrodAll enc P W 0 (fun _=>true) true ts vs ds ps →
  DataW.TrodAll enc P W' 0 (fun b=>decide (b < W.heap.size)) true ts vs ds ps:=by
 intro ts
 induction ts with
 | nil=>
  intro vs ds ps _ _ h;obtain⟨rfl,rfl,rfl⟩:=trodAll_nil h;exact trodAll_mk0
 | cons t ts ih=>
  intro vs ds ps hr hlt h;obtain⟨v,vs',d,ds',p,q,rfl,rfl,rfl,h1,h2⟩:=trodAll_cons h;exact trodAll_cons_mk (Below.trod hl (hr t (by simp)).1 (hr t (by simp)).2 h1 hb fun x hx=>hlt x (List.mem_append_left _ hx))
   (ih vs' ds' q (fun u hu=>hr u (by simp[hu])) (fun x hx=>hlt x (List.mem_append_right _ hx)) h2)
theorem trodAll_length:∀(ts:List TypeId) {w:World} {base:Nat} {spare:Nat→Bool} {held:Bool} (vs:List Value) (ds:List (DataW H)) (ps:List MemPlace),
  DataW.TrodAll enc P w base spare held ts vs ds ps→ds.length=ts.length:=by
 intro ts
 induction ts with
 | nil=>
  intro _ _ _ _ vs ds ps h;obtain⟨rfl,rfl,rfl⟩:=trodAll_nil h
  rfl
 | cons t ts ih=>
  intro _ _ _ _ vs ds ps h;obtain⟨v,vs',d,ds',p,q,rfl,rfl,rfl,h1,h2⟩:=trodAll_cons h;simp[ih vs' ds' q h2]
structure Arg (enc:TypeId×Value→H) (P:Program) (W:World) (base:Nat) (t:TypeId) (v:Value) (d:DataW H) (p:List MemPlace):Prop where
 ok:Value.okWide P W .any base t v
 tr:DataW.Trod enc P W 0 (fun _=>true) true t v d p
 sz:∀n∈d.weights P t,n≤reachBytes
def Args (enc:TypeId×Value→H) (P:Program) (W:World) (base:Nat):List TypeId→List Value→List (DataW H)→Prop
 | [],[],[]=>True
 | t::ts,v::vs,d::ds=>(∃p,Arg enc P W base t v d p)∧Args enc P W base ts vs ds
 | _,_,_=>False
theorem Args.cons_ {W:World} {base:Nat} {t:TypeId} {ts:List TypeId} {vs:List Value} {ds:List (DataW H)} (h:Args enc P W base (t::ts) vs ds):
  ∃v vs' d ds' p,vs=v::vs'∧ds=d::ds'∧Arg enc P W base t v d p∧Args enc P W base ts vs' ds':=by
 cases vs<;>cases ds<;>simp[Args] at h
 obtain⟨⟨p,h1⟩,h2⟩:=h;exact⟨_,_,_,_,p,rfl,rfl,h1,h2⟩
theorem Args.nil_ {W:World} {base:Nat} {vs:List Value} {ds:List (DataW H)} (h:Args enc P W base [] vs ds):vs=[]∧ds=[]:=by
 cases vs<;>cases ds<;>simp[Args] at h
 exact⟨rfl,rfl⟩
theorem args_of {W:World} {base:Nat}:∀(ts:List TypeId) (vs:List Value) (ds:List (DataW H)) (ps:List MemPlace),
  (∀(j:Nat) t v,ts[j]?=some t→vs[j]?=some v→Value.okWide P W .any base t v)→DataW.TrodAll enc P W 0 (fun _=>true) true ts vs ds ps →
  (∀n∈DataW.weightsEach P ts ds,n≤reachBytes)→Args enc P W base ts vs ds:=by
 intro ts
 induction ts with
 | nil=>
  intro vs ds ps _ h _;obtain⟨rfl,rfl,rfl⟩:=trodAll_nil h
  trivial
 | cons t ts ih=>
  intro vs ds ps hv h hs;obtain⟨v,vs',d,ds',p,q,rfl,rfl,rfl,h1,h2⟩:=trodAll_cons h;refine⟨⟨p,hv 0 t v rfl rfl,h1,fun n hn=>hs n ?_⟩,ih vs' ds' q (fun j u x hu hx=>hv (j+1) u x hu hx) h2 fun n hn=>hs n ?_⟩
  ·simp only[DataW.weightsEach,List.mem_append];exact .inl hn
  ·simp only[DataW.weightsEach,List.mem_append];exact .inr hn
theorem lift_new {C:Checked} {os:Os} {f:FuncId} {fn:Func} {s:ChangeSpec} {tb:TypeId} (own:ownKnob C.prog.godebug=none) (started:os.Started) (noInit:C.prog.inits.idxOf? f=none) (hfn:C.prog.funcs[f]?=some fn)
  (witness:∃(w:World) (tape:Tape) (i:Input),w.os=os∧(w.forCall tape i).Shaped C.prog∧i.vars=[]∧Input.okWide C.prog (w.forCall tape i) .any w.heap.size f i ∧
   s.pre6 enc C.prog fn [] false (w.forCall tape i).memory i.args∧Assume.holds {} C.prog (lone (Frame.enter C.prog f i.args .normal) [] (w.forCall tape i)))
  (hvars:s.vars=[]) (hres:fn.resultTypes=#[tb]) (htb:C.prog.underlying tb=some .bool)
  (hspec:∀ds:List (DataW H),ds.length=fn.params.toList.length→(s.fn H ds).results=[.lit (.bool true)]∧(s.fn H ds).args=ds∧(s.fn H ds).vars=[])
  (hl:laidOutB C.prog=true) (hread:∀t∈fn.params.toList,C.prog.readableRec t=true∧t < C.prog.types.size)
  (walk:∀(W:World) (base:Nat) (args:Array Value) (ds:List (DataW H)),Args enc C.prog W base fn.params.toList args.toList ds→Calls C.prog f args W (True1 W)):
  ReturnsInHanded {} C os f .any (s.pre6 enc C.prog fn [] false) (s.post enc C.prog fn false true false false):=by
 refine returnsInHanded_of_change_sized (C:=C) own started noInit hfn witness ?_;intro W base args ds gs before hval hW _ hsz _;have hW':=hW;obtain⟨p,q,hA,hV,rfl,hfz,hnd⟩:=hW;rw[hvars] at hV;obtain⟨rfl,rfl⟩:=trodVars_none hV;have hlen:ds.length=fn.params.toList.length:=trodAll_length _ _ _ _ hA
 have hargs:Args enc C.prog W base fn.params.toList args.toList ds:=by
  refine args_of _ _ _ _ (fun j t v ht hv=>hval j t v (by simpa using ht) (by simpa using hv)) hA fun n hn=>?_
  have:=List.all_eq_true.1 hsz n (by
   have hv0:s.plain.varTypes C.prog=[]:=by simp[ChangeSpec.plain,hvars,DataSpec.varTypes]
   rw[hv0]
   simpa using hn)
  simpa using this
 refine (walk W base args ds hargs).mono fun e W' ⟨he,hn⟩=>?_
 subst he;obtain⟨e1,e2,e3⟩:=hspec (ds++[]) (by simpa using hlen)
 have hlt:∀x∈p,x.block < W.heap.size:=fun x hx=>hW'.lt x (by simpa using hx)
 refine⟨_,rfl,ds,[],_,[],p,[],hW',?_,?_,?_,hn.below.frame _,fun h=>by cases h⟩
 ·rw[e1,hres];exact trodAll_mk1 (shut_bool htb _)
 ·rw[e2];simp only[List.append_nil];exact trodAll_stays hl hn.below _ _ _ _ hread hlt hA
 ·rw[e3,hvars]
  rfl
theorem Arg.int_ {W:World} {base:Nat} {t:TypeId} {v:Value} {d:DataW H} {p:List MemPlace} {k:IntKind} (h:Arg enc P W base t v d p) (ht:P.underlying t=some (.int k)):
  ∃x:Int,v=.int k x∧(Lit.int k x).wf=true:=by
 obtain⟨x,rfl,_,_,wx⟩:=open_int ht h.ok h.tr;exact⟨x,rfl,wx⟩
theorem Arg.bool_ {W:World} {base:Nat} {t:TypeId} {v:Value} {d:DataW H} {p:List MemPlace} (h:Arg enc P W base t v d p) (ht:P.underlying t=some .bool):∃x:Bool,v=.bool x:=by
 obtain⟨x,rfl,_,_⟩:=open_bool ht h.ok h.tr;exact⟨x,rfl⟩
theorem u8_nat {x:Int} (h:(Lit.int .u8 x).wf=true):∃n:Nat,x=n∧n < 256:=by
 have hx:0≤x∧x≤255:=by simpa [Lit.wf,IntKind.min,IntKind.max,IntKind.signed,IntKind.bits] using h
 exact⟨x.toNat,by omega,by omega⟩
theorem i64_bounds {x:Int} (h:(Lit.int .i64 x).wf=true):-9223372036854775808≤x∧x≤9223372036854775807:=by
 simpa [Lit.wf,IntKind.min,IntKind.max,IntKind.signed,IntKind.bits] using h
structure IsB (W:World) (v:Value) (A:Option Addr) (n c:Nat) (l:List Nat):Prop where
 val:v=.slice A n c
 bts:Bts W A n l
 nil:A=none→c=0∧n=0
 le:n≤c
 cap:c≤140737488351232
theorem Arg.bytes_ {W:World} {base:Nat} {t e:TypeId} {v:Value} {d:DataW H} {p:List MemPlace} (h:Arg enc P W base t v d p) (ht:P.underlying t=some (.slice e)) (he:P.underlying e=some (.int .u8)) (hc:P.cellsOf e=1)
  (hby:P.bytesOf e=1):∃A n c l,IsB W v A n c l:=by
 obtain⟨A,n,c,rfl⟩:=okWide_slice ht h.ok;obtain⟨fuel,hf⟩:=h.tr
 rcases open_ints ht he hc hf with ⟨hcs,hx⟩|⟨a,len,cap,zs,hcs,_,hl,hm,hz,hx,hcell,hwz⟩
 ·simp[Value.cells] at hcs;obtain⟨rfl,rfl,rfl⟩:=hcs;exact⟨none,0,0,[],rfl,Bts.nil _ _,fun _=>⟨rfl,rfl⟩,Nat.le_refl _,by omega⟩
 ·simp[Value.cells] at hcs;obtain⟨rfl,rfl,rfl⟩:=hcs;simp only[if_true] at hz;simp only[Prod.mk.injEq] at hx;have hsz:=h.sz ((zs.take n).length+(zs.drop n).length) (by rw[hx.1];simp[DataW.weights,ht,hby,lits])
  have hcap:c≤140737488351232:=by simp[reachBytes] at hsz;omega
  refine⟨some a,n,c,(zs.take n).map Int.toNat,rfl,⟨by simp;omega,?_,?_⟩,fun h=>(by cases h),hl,hcap⟩
  ·intro x hx;obtain⟨z,hz2,rfl⟩:=List.mem_map.1 hx;obtain⟨m,rfl,hm⟩:=u8_nat (hwz z (List.mem_of_mem_take hz2));simpa using hm
  ·intro h0;obtain⟨b,off,rfl,hc2⟩:=ints_at hcell (by omega);refine⟨b,off,rfl,fun j x hx=>?_⟩;rw[List.getElem?_map] at hx;obtain⟨z,hz2,rfl⟩:=Option.map_eq_some_iff.1 hx;rw[List.getElem?_take] at hz2
   split at hz2
   ·obtain⟨m,rfl,_⟩:=u8_nat (hwz z (List.mem_of_getElem? hz2));have hj:j < zs.length:=(List.getElem?_eq_some_iff.1 hz2).1
    have:=hc2 j hj
    rw[this,List.getD_eq_getElem?_getD,hz2];simp
   ·cases hz2
end
end
end Go.Proofs.YtbiihjdjbknibaaGreat
