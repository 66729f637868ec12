/-
  Layer 7: contracts (Fa Pa Pb Pc Pd).
-/
import Derived.Test.YtjjamoemheljdaaGreatC01
namespace Go.Proofs.YtjjamoemheljdaaGreat
set_option maxRecDepth 100000
set_option maxHeartbeats 8000000
set_option linter.unusedSimpArgs false
set_option linter.unusedVariables false
section
structure KY where
 i:Int
 t:Nat
 n:ByteArray
 c:Int
theorem KY.ext_ {a b:KY} (h1:a.i=b.i) (h2:a.t=b.t) (h3:a.n=b.n) (h4:a.c=b.c):a=b:=by
 cases a;cases b;simp_all
instance:DecidableEq KY:=fun a b=>decidable_of_iff (a.i=b.i∧a.t=b.t∧a.n=b.n∧a.c=b.c) ⟨fun h=>KY.ext_ h.1 h.2.1 h.2.2.1 h.2.2.2,fun h=>by subst h;exact⟨rfl,rfl,rfl,rfl⟩⟩
theorem ba_ext {a b:ByteArray} (h:a.data.toList=b.data.toList):a=b:=by
 rw[←Lib.mk_data a,←Lib.mk_data b,h]
def cmpI (x y:Int):Int:=if x < y then -1 else if y < x then 1 else 0
def cmpS (a b:ByteArray):Int:=Lib.compareBytes a.data.toList b.data.toList
theorem cb_eq:∀(a b:List UInt8),Lib.compareBytes a b=0↔a=b
 | [],[]=>by simp[Lib.compareBytes]
 | [],_::_=>by simp[Lib.compareBytes]
 | _::_,[]=>by simp[Lib.compareBytes]
 | x::a,y::b=>by
  have ih:=cb_eq a b;unfold Lib.compareBytes
  by_cases h1:x < y
  ·rw[if_pos h1];simp only[List.cons.injEq]
   constructor
   ·intro h;omega
   ·rintro ⟨rfl,_⟩;exact absurd h1 (UInt8.lt_irrefl x)
  ·rw[if_neg h1]
   by_cases h2:y < x
   ·rw[if_pos h2];simp only[List.cons.injEq]
    constructor
    ·intro h;omega
    ·rintro ⟨rfl,_⟩;exact absurd h2 (UInt8.lt_irrefl x)
   ·rw[if_neg h2,ih]
    have:x=y:=UInt8.le_antisymm (UInt8.not_lt.1 h2) (UInt8.not_lt.1 h1)
    simp[this]
theorem cb_swap:∀(a b:List UInt8),Lib.compareBytes b a=- Lib.compareBytes a b
 | [],[]=>by simp[Lib.compareBytes]
 | [],_::_=>by simp[Lib.compareBytes]
 | _::_,[]=>by simp[Lib.compareBytes]
 | x::a,y::b=>by
  have ih:=cb_swap a b;unfold Lib.compareBytes
  by_cases h1:x < y
  ·rw[if_pos h1,if_neg (fun h=>UInt8.lt_irrefl x (UInt8.lt_trans h1 h)),if_pos h1];rfl
  ·rw[if_neg h1]
   by_cases h2:y < x
   ·rw[if_pos h2,if_pos h2,if_neg h1]
   ·rw[if_neg h2,if_neg h2,if_neg h1,ih]
theorem cb_trans:∀(a b c:List UInt8),Lib.compareBytes a b < 0→Lib.compareBytes b c < 0→Lib.compareBytes a c < 0
 | [],[],_,h,_=>by simp[Lib.compareBytes] at h
 | _,_::_,[],_,h=>by simp[Lib.compareBytes] at h
 | _::_,[],_,h,_=>by simp[Lib.compareBytes] at h
 | [],_::_,_::_,_,_=>by simp[Lib.compareBytes]
 | x::a,y::b,z::c,h1,h2=>by
  have ih:=cb_trans a b c;unfold Lib.compareBytes at h1 h2 ⊢
  by_cases a1:x < y
  ·by_cases b1:y < z
   ·rw[if_pos (UInt8.lt_trans a1 b1)];omega
   ·rw[if_neg b1] at h2
    by_cases b2:z < y
    ·rw[if_pos b2] at h2;omega
    ·have e:y=z:=UInt8.le_antisymm (UInt8.not_lt.1 b2) (UInt8.not_lt.1 b1);rw[if_pos (e ▸ a1)];omega
  ·rw[if_neg a1] at h1
   by_cases a2:y < x
   ·rw[if_pos a2] at h1;omega
   ·rw[if_neg a2] at h1;have e:x=y:=UInt8.le_antisymm (UInt8.not_lt.1 a2) (UInt8.not_lt.1 a1);subst e
    by_cases b1:x < z
    ·rw[if_pos b1];omega
    ·rw[if_neg b1] at h2 ⊢
     by_cases b2:z < x
     ·rw[if_pos b2] at h2;omega
     ·rw[if_neg b2] at h2 ⊢;exact ih h1 h2
theorem cmpS_eq {a b:ByteArray}:cmpS a b=0↔a=b:=⟨fun h=>ba_ext ((cb_eq _ _).1 h),fun h=>by subst h;exact (cb_eq _ _).2 rfl⟩
theorem cmpS_swap (a b:ByteArray):cmpS b a=- cmpS a b:=cb_swap _ _
theorem cmpS_trans {a b c:ByteArray} (h1:cmpS a b < 0) (h2:cmpS b c < 0):cmpS a c < 0:=cb_trans _ _ _ h1 h2
end
section
structure ND where
 i:Nat
 k:Nat
 l:Nat
 ns:List (ByteArray×Nat)
 b:List Nat
structure TT where
 p:Nat
 l:List ND
def inos (L:List ND):List Nat:=L.map (·.i)
def ndI:List ND→Nat→Option ND
 | [],_=>none
 | n::r,j=>if n.i=j then some n else ndI r j
def cntN (ns:List (ByteArray×Nat)) (j:Nat):Nat:=ns.countP fun e=>e.2 == j
def cntL:List ND→Nat→Nat
 | [],_=>0
 | n::r,j=>cntN n.ns j+cntL r j
def zar (L:List ND) (j:Nat):Nat:=match ndI L j with
 | none=>0
 | some n=>if j=1 then 0 else n.l
def nameB (s:ByteArray):Bool:=zbv s.data.toList
def OrdS (ns:List (ByteArray×Nat)):Prop:=ns.Pairwise fun a b=>cmpS a.1 b.1 < 0
def OrdN (L:List ND):Prop:=L.Pairwise fun a b=>a.i < b.i
def Fine (p:Nat) (n:ND):Prop:=
 OrdS n.ns∧(∀e∈n.ns,nameB e.1=true)∧(∀x∈n.b,x < 256) ∧
  (n.k=1∧n.l=1∧n.b=[]∨n.k=2∧1≤n.l∧n.l≤6∧n.ns=[]∧n.b.length≤8*p)
def Deep (L:List ND) (d:Nat→Nat):Prop:=
 d 1=0∧∀n∈L,∀e∈n.ns,d n.i+1≤6∧∀c∈L,c.i=e.2→c.k=1→d e.2=d n.i+1
structure Rt (T:TT):Prop where
 p1:1≤T.p
 p2:T.p≤255
 len:T.l.length≤48
 root:∃r t,T.l=r::t∧r.i=1∧r.k=1
 ord:OrdN T.l
 rng:∀n∈T.l,1≤n.i∧n.i≤65535
 fin:∀n∈T.l,Fine T.p n
 ent:∀n∈T.l,∀e∈n.ns,e.2∈inos T.l
 cnt:∀j,cntL T.l j=zar T.l j
 dep:∃d,Deep T.l d
theorem zaa {L:List ND} {j:Nat} {n:ND} (h:ndI L j=some n):n∈L∧n.i=j:=by
 induction L with
 | nil=>cases h
 | cons m r ih=>
  unfold ndI at h
  split at h
  ·injection h with h;subst h;exact⟨List.mem_cons_self ..,by assumption⟩
  ·obtain⟨h1,h2⟩:=ih h;exact⟨List.mem_cons_of_mem _ h1,h2⟩
theorem ndI_none {L:List ND} {j:Nat}:ndI L j=none↔j∉inos L:=by
 induction L with
 | nil=>simp[ndI,inos]
 | cons m r ih=>
  unfold ndI;unfold inos at ih ⊢
  split
  ·rename_i h;simp[h]
  ·rename_i h
   rw[ih];simp only[List.map_cons,List.mem_cons,not_or];exact⟨fun hh=>⟨fun e=>h e.symm,hh⟩,fun hh=>hh.2⟩
theorem zcd {n:ND} {r:List ND}:OrdN (n::r)↔(∀m∈r,n.i < m.i)∧OrdN r:=List.pairwise_cons
theorem zbf {L:List ND} (ho:OrdN L) {n:ND} (hn:n∈L):ndI L n.i=some n:=by
 induction L with
 | nil=>cases hn
 | cons m r ih=>
  obtain⟨h1,h2⟩:=zcd.1 ho;unfold ndI
  rcases List.mem_cons.1 hn with rfl|h
  ·rw[if_pos rfl]
  ·rw[if_neg (by have:=h1 n h;omega),ih h2 h]
theorem zbe {L:List ND} (ho:OrdN L) {n m:ND} (hn:n∈L) (hm:m∈L) (h:n.i=m.i):n=m:=by
 have h1:=zbf ho hn;have h2:=zbf ho hm;rw[h,h2] at h1
 injection h1 with h1;exact h1.symm
theorem zav {L:List ND} {j:Nat}:j∈inos L↔∃n∈L,n.i=j:=by unfold inos;simp
theorem ndI_of {L:List ND} {j:Nat} (h:j∈inos L):∃n,ndI L j=some n:=by
 cases hn:ndI L j with
 | none=>exact absurd h (ndI_none.1 hn)
 | some n=>exact⟨n,rfl⟩
theorem zcu {ns:List (ByteArray×Nat)} {e:ByteArray×Nat} (h:e∈ns):1≤cntN ns e.2:=by
 unfold cntN;exact List.countP_pos_iff.2 ⟨e,h,by simp⟩
theorem cntL_le {L:List ND} {n:ND} (h:n∈L) (j:Nat):cntN n.ns j≤cntL L j:=by
 induction L with
 | nil=>cases h
 | cons m r ih=>
  unfold cntL
  rcases List.mem_cons.1 h with rfl|h
  ·omega
  ·have:=ih h;omega
theorem cntL_two {L:List ND} {n m:ND} (hn:n∈L) (hm:m∈L) (hne:n.i≠m.i) (j:Nat):cntN n.ns j+cntN m.ns j≤cntL L j:=by
 induction L with
 | nil=>cases hn
 | cons x r ih=>
  unfold cntL
  rcases List.mem_cons.1 hn with rfl|h1
  ·rcases List.mem_cons.1 hm with rfl|h2
   ·exact absurd rfl hne
   ·have:=cntL_le h2 j;omega
  ·rcases List.mem_cons.1 hm with rfl|h2
   ·have:=cntL_le h1 j;omega
   ·have:=ih h1 h2;omega
theorem cntN_two {ns:List (ByteArray×Nat)} {e f:ByteArray×Nat} (he:e∈ns) (hf:f∈ns) (h:e.2=f.2) (hne:e≠f):2≤cntN ns e.2:=by
 induction ns with
 | nil=>cases he
 | cons x r ih=>
  unfold cntN at ih ⊢;rw[List.countP_cons]
  rcases List.mem_cons.1 he with rfl|h1
  ·rcases List.mem_cons.1 hf with rfl|h2
   ·exact absurd rfl hne
   ·have:=zcu h2
    unfold cntN at this;rw[←h] at this;rw[if_pos (by simp)];omega
  ·rcases List.mem_cons.1 hf with rfl|h2
   ·have:=zcu h1
    unfold cntN at this;rw[if_pos (by simp[h])];omega
   ·have:=ih h1 h2;omega
theorem cntL_none {L:List ND} {j:Nat} (h:cntL L j=0) {n:ND} (hn:n∈L) {e:ByteArray×Nat} (he:e∈n.ns):e.2≠j:=by
 rintro rfl
 have:=cntL_le hn e.2
 have:=zcu he
 omega
theorem ent_uniq {L:List ND} {j:Nat} (h:cntL L j≤1) (ho:OrdN L) {n m:ND} (hn:n∈L) (hm:m∈L) {e f:ByteArray×Nat} (he:e∈n.ns) (hf:f∈m.ns) (e1:e.2=j) (e2:f.2=j):n=m∧e=f:=by
 subst e1
 have hi:n.i=m.i:=by
  rcases Decidable.em (n.i=m.i) with h1|h1
  ·exact h1
  ·have:=cntL_two hn hm h1 e.2
   have:=zcu he
   have:=zcu hf
   rw[e2] at this;omega
 have hnm:=zbe ho hn hm hi;refine⟨hnm,?_⟩;subst hnm
 rcases Decidable.em (e=f) with h1|h1
 ·exact h1
 ·have:=cntN_two he hf e2.symm h1
  have:=cntL_le hn e.2
  omega
def updI (L:List ND) (j:Nat) (f:ND→ND):List ND:=L.map fun n=>if n.i=j then f n else n
theorem zcv (L:List ND) (j:Nat) (f:ND→ND):(updI L j f).length=L.length:=by unfold updI;simp
theorem zap {L:List ND} {j:Nat} {f:ND→ND} {m:ND}:m∈updI L j f↔(∃n∈L,n.i=j∧m=f n)∨(m∈L∧m.i≠j):=by
 unfold updI;rw[List.mem_map]
 constructor
 ·rintro ⟨n,hn,rfl⟩
  by_cases h:n.i=j
  ·rw[if_pos h];exact .inl ⟨n,hn,h,rfl⟩
  ·rw[if_neg h];exact .inr ⟨hn,h⟩
 ·rintro (⟨n,hn,h,rfl⟩|⟨hm,h⟩)
  ·exact⟨n,hn,by rw[if_pos h]⟩
  ·exact⟨m,hm,by rw[if_neg h]⟩
theorem upd_inos {L:List ND} {j:Nat} {f:ND→ND} (hf:∀n,n.i=j→(f n).i=n.i):inos (updI L j f)=inos L:=by
 unfold inos updI;rw[List.map_map]
 apply List.map_congr_left
 intro n _;simp only[Function.comp]
 split
 ·exact hf n (by assumption)
 ·rfl
theorem ordN_inos {L:List ND}:OrdN L↔(inos L).Pairwise (· < ·):=by
 unfold OrdN inos;rw[List.pairwise_map]
theorem zcq {L:List ND} {j:Nat} {f:ND→ND} (hf:∀n,n.i=j→(f n).i=n.i) (h:OrdN L):OrdN (updI L j f):=by
 rw[ordN_inos,upd_inos hf];exact ordN_inos.1 h
theorem upd_nd {L:List ND} {j:Nat} {f:ND→ND} (hf:∀n,n.i=j→(f n).i=n.i) (k:Nat):ndI (updI L j f) k=if k=j then (ndI L j).map f else ndI L k:=by
 induction L with
 | nil=>simp[updI,ndI]
 | cons n r ih=>
  unfold updI at ih ⊢;simp only[List.map_cons]
  by_cases h:n.i=j
  ·rw[if_pos h]
   by_cases hk:k=j
   ·subst hk;unfold ndI;rw[if_pos (by rw[hf n h,h]),if_pos h,if_pos rfl];rfl
   ·rw[if_neg hk] at ih ⊢;unfold ndI;rw[if_neg (by rw[hf n h,h];exact fun e=>hk e.symm),if_neg (by rw[h];exact fun e=>hk e.symm),ih]
  ·rw[if_neg h]
   by_cases hk:k=j
   ·subst hk;rw[if_pos rfl] at ih ⊢;unfold ndI;rw[if_neg h,if_neg h,ih]
   ·rw[if_neg hk] at ih ⊢;unfold ndI
    by_cases h2:n.i=k
    ·rw[if_pos h2,if_pos h2]
    ·rw[if_neg h2,if_neg h2,ih]
theorem upd_none {L:List ND} {j:Nat} (f:ND→ND) (h:j∉inos L):updI L j f=L:=by
 unfold updI
 have:∀n∈L,(if n.i=j then f n else n)=n:=fun n hn=>by rw[if_neg (fun e=>h (zav.2 ⟨n,hn,e⟩))]
 rw[List.map_congr_left this];simp
theorem upd_cnt {L:List ND} {j:Nat} {f:ND→ND} (ho:OrdN L) {n:ND} (hn:n∈L) (hj:n.i=j) (k:Nat):cntL (updI L j f) k+cntN n.ns k=cntL L k+cntN (f n).ns k:=by
 induction L with
 | nil=>cases hn
 | cons m r ih=>
  obtain⟨h1,h2⟩:=zcd.1 ho
  rcases List.mem_cons.1 hn with rfl|hr
  ·have e:updI r j f=r:=upd_none f (fun h=>by obtain⟨x,hx,e⟩:=zav.1 h;have:=h1 x hx;omega)
   show cntL ((if n.i=j then f n else n)::updI r j f) k+_=_
   rw[if_pos hj,e];unfold cntL;omega
  ·have hne:¬m.i=j:=by have:=h1 n hr;omega
   have:=ih h2 hr
   show cntL ((if m.i=j then f m else m)::updI r j f) k+_=_
   rw[if_neg hne];unfold cntL;omega
def zcm (nm:ByteArray) (j:Nat) (ns:List (ByteArray×Nat)):List (ByteArray×Nat):=
 (ns.takeWhile fun e=>decide (cmpS e.1 nm < 0))++(nm,j)::ns.dropWhile fun e=>decide (cmpS e.1 nm < 0)
def zaq (nm:ByteArray) (ns:List (ByteArray×Nat)):List (ByteArray×Nat):=ns.filter fun e=>decide (e.1≠nm)
def zbn (nm:ByteArray) (ns:List (ByteArray×Nat)):Prop:=∃e∈ns,e.1=nm
def entF:List (ByteArray×Nat)→ByteArray→Nat
 | [],_=>0
 | e::r,nm=>if e.1=nm then e.2 else entF r nm
theorem cmpS_tri (a b:ByteArray):cmpS a b < 0∨a=b∨cmpS b a < 0:=by
 have h1:=cmpS_swap a b
 by_cases h:cmpS a b=0
 ·exact .inr (.inl (cmpS_eq.1 h))
 ·omega
theorem cmpS_irr (a:ByteArray):¬cmpS a a < 0:=by rw[cmpS_eq.2 rfl];omega
theorem add_perm (nm:ByteArray) (j:Nat) (ns:List (ByteArray×Nat)) (k:Nat):cntN (zcm nm j ns) k=cntN ns k+if j=k then 1 else 0:=by
 unfold zcm cntN
 conv=>rhs;rw[←List.takeWhile_append_dropWhile (p:=fun e:ByteArray×Nat=>decide (cmpS e.1 nm < 0)) (l:=ns)]
 rw[List.countP_append,List.countP_append,List.countP_cons];simp only[beq_iff_eq];omega
theorem mem_add {nm:ByteArray} {j:Nat} {ns:List (ByteArray×Nat)} {e:ByteArray×Nat}:e∈zcm nm j ns↔e=(nm,j)∨e∈ns:=by
 unfold zcm;rw[List.mem_append,List.mem_cons]
 conv=>rhs;rhs;rw[←List.takeWhile_append_dropWhile (p:=fun e:ByteArray×Nat=>decide (cmpS e.1 nm < 0)) (l:=ns),List.mem_append]
 constructor
 ·rintro (h|h|h)
  ·exact .inr (.inl h)
  ·exact .inl h
  ·exact .inr (.inr h)
 ·rintro (h|h|h)
  ·exact .inr (.inl h)
  ·exact .inl h
  ·exact .inr (.inr h)
theorem add_ord {nm:ByteArray} {j:Nat} {ns:List (ByteArray×Nat)} (h:OrdS ns) (hn:¬zbn nm ns):OrdS (zcm nm j ns):=by
 induction ns with
 | nil=>simp[zcm,OrdS]
 | cons x r ih=>
  have hc:=List.pairwise_cons.1 h
  have hx:x.1≠nm:=fun e=>hn ⟨x,List.mem_cons_self ..,e⟩
  have hr:¬zbn nm r:=fun ⟨e,he,h⟩=>hn ⟨e,List.mem_cons_of_mem _ he,h⟩
  by_cases hlt:cmpS x.1 nm < 0
  ·have e:zcm nm j (x::r)=x::zcm nm j r:=by unfold zcm;rw[List.takeWhile_cons_of_pos (by simpa using hlt),List.dropWhile_cons_of_pos (by simpa using hlt)];rfl
   rw[e];refine List.pairwise_cons.2 ⟨fun y hy=>?_,ih hc.2 hr⟩
   rcases mem_add.1 hy with rfl|hy
   ·exact hlt
   ·exact hc.1 y hy
  ·have e:zcm nm j (x::r)=(nm,j)::x::r:=by unfold zcm;rw[List.takeWhile_cons_of_neg (by simpa using hlt),List.dropWhile_cons_of_neg (by simpa using hlt)];rfl
   rw[e]
   have hgt:cmpS nm x.1 < 0:=by
    rcases cmpS_tri x.1 nm with h1|h1|h1
    ·exact absurd h1 hlt
    ·exact absurd h1 hx
    ·exact h1
   refine List.pairwise_cons.2 ⟨fun y hy=>?_,h⟩
   rcases List.mem_cons.1 hy with rfl|hy
   ·exact hgt
   ·exact cmpS_trans hgt (hc.1 y hy)
theorem zbs {nm:ByteArray} {ns:List (ByteArray×Nat)} {e:ByteArray×Nat}:e∈zaq nm ns↔e∈ns∧e.1≠nm:=by unfold zaq;simp
theorem del_ord {nm:ByteArray} {ns:List (ByteArray×Nat)} (h:OrdS ns):OrdS (zaq nm ns):=List.Pairwise.filter _ h
theorem ns_uniq {ns:List (ByteArray×Nat)} (h:OrdS ns) {e f:ByteArray×Nat} (he:e∈ns) (hf:f∈ns) (hn:e.1=f.1):e=f:=by
 induction ns with
 | nil=>cases he
 | cons x r ih=>
  have hc:=List.pairwise_cons.1 h
  rcases List.mem_cons.1 he with rfl|h1
  ·rcases List.mem_cons.1 hf with rfl|h2
   ·rfl
   ·have:=hc.1 f h2;rw[hn] at this;exact absurd this (cmpS_irr _)
  ·rcases List.mem_cons.1 hf with rfl|h2
   ·have:=hc.1 e h1;rw[hn] at this;exact absurd this (cmpS_irr _)
   ·exact ih hc.2 h1 h2
theorem del_none {nm:ByteArray} {ns:List (ByteArray×Nat)} (h:¬zbn nm ns):zaq nm ns=ns:=by
 unfold zaq
 exact List.filter_eq_self.2 fun e he=>decide_eq_true fun hh=>h ⟨e,he,hh⟩
theorem del_perm {nm:ByteArray} {j:Nat} {ns:List (ByteArray×Nat)} (h:OrdS ns) (hm:(nm,j)∈ns) (k:Nat):cntN (zaq nm ns) k+(if j=k then 1 else 0)=cntN ns k:=by
 induction ns with
 | nil=>cases hm
 | cons x r ih=>
  have hc:=List.pairwise_cons.1 h;unfold cntN at ih ⊢;unfold zaq at ih ⊢
  rcases List.mem_cons.1 hm with rfl|hr
  ·have:¬zbn nm r:=fun ⟨e,he,hh⟩=>by have:=hc.1 e he;rw[hh] at this;exact cmpS_irr _ this
   have hd:=del_none this;unfold zaq at hd;rw[List.filter_cons,if_neg (by simp),hd,List.countP_cons];simp only[beq_iff_eq]
  ·have hx:x.1≠nm:=fun e=>by have:=hc.1 _ hr;rw[e] at this;exact cmpS_irr _ this
   rw[List.filter_cons,if_pos (by simpa using hx),List.countP_cons,List.countP_cons]
   have:=ih hc.2 hr
   omega
theorem entF_mem {ns:List (ByteArray×Nat)} {nm:ByteArray} (h:zbn nm ns):(nm,entF ns nm)∈ns:=by
 induction ns with
 | nil=>obtain⟨e,he,_⟩:=h;cases he
 | cons x r ih=>
  unfold entF
  by_cases hx:x.1=nm
  ·rw[if_pos hx];subst hx;exact List.mem_cons_self ..
  ·rw[if_neg hx];obtain⟨e,he,hh⟩:=h
   rcases List.mem_cons.1 he with rfl|h1
   ·exact absurd hh hx
   ·exact List.mem_cons_of_mem _ (ih ⟨e,h1,hh⟩)
theorem entF_none {ns:List (ByteArray×Nat)} {nm:ByteArray} (h:¬zbn nm ns):entF ns nm=0:=by
 induction ns with
 | nil=>rfl
 | cons x r ih=>
  unfold entF;rw[if_neg (fun e=>h ⟨x,List.mem_cons_self ..,e⟩),ih (fun ⟨e,he,hh⟩=>h ⟨e,List.mem_cons_of_mem _ he,hh⟩)]
instance (nm:ByteArray) (ns:List (ByteArray×Nat)):Decidable (zbn nm ns):=by unfold zbn;infer_instance
end
section
def addE (L:List ND) (q:Nat) (nm:ByteArray) (j:Nat):List ND:=updI L q fun n=>{ n with ns:=zcm nm j n.ns }
def delE (L:List ND) (q:Nat) (nm:ByteArray):List ND:=updI L q fun n=>{ n with ns:=zaq nm n.ns }
def lnkE (L:List ND) (j v:Nat):List ND:=updI L j fun n=>{ n with l:=v }
def bytE (L:List ND) (j:Nat) (b:List Nat):List ND:=updI L j fun n=>{ n with b:=b }
def remI (L:List ND) (j:Nat):List ND:=L.filter fun n=>decide (n.i≠j)
def insI (n:ND) (L:List ND):List ND:=(L.takeWhile fun m=>decide (m.i < n.i))++n::L.dropWhile fun m=>decide (m.i < n.i)
structure Rw (p:Nat) (L:List ND) (wt:Nat→Nat):Prop where
 root:∃r t,L=r::t∧r.i=1∧r.k=1
 ord:OrdN L
 rng:∀n∈L,1≤n.i∧n.i≤65535
 fin:∀n∈L,Fine p n
 ent:∀n∈L,∀e∈n.ns,e.2∈inos L
 cnt:∀j,cntL L j=wt j
theorem Rt.rw_ {T:TT} (h:Rt T):Rw T.p T.l (zar T.l):=⟨h.root,h.ord,h.rng,h.fin,h.ent,h.cnt⟩
theorem Rw.rt {p:Nat} {L:List ND} (h:Rw p L (zar L)) (p1:1≤p) (p2:p≤255) (hl:L.length≤48) (hd:∃d,Deep L d):Rt ⟨p,L⟩:=
 ⟨p1,p2,hl,h.root,h.ord,h.rng,h.fin,h.ent,h.cnt,hd⟩
theorem want_of {L:List ND} (ho:OrdN L) {n:ND} (hn:n∈L):zar L n.i=if n.i=1 then 0 else n.l:=by unfold zar;rw[zbf ho hn]
theorem want_none {L:List ND} {j:Nat} (h:j∉inos L):zar L j=0:=by unfold zar;rw[ndI_none.2 h]
theorem want_upd {L:List ND} {j:Nat} {f:ND→ND} (hi:∀n,(f n).i=n.i) (hl:∀n,(f n).l=n.l) (k:Nat):zar (updI L j f) k=zar L k:=by
 unfold zar;rw[upd_nd (fun n _=>hi n)]
 by_cases hk:k=j
 ·subst hk;rw[if_pos rfl]
  cases ndI L k with
  | none=>rfl
  | some n=>simp only[Option.map_some,hl]
 ·rw[if_neg hk]
theorem want_lnk {L:List ND} (j v k:Nat) (hj:j∈inos L):zar (lnkE L j v) k=if k=j then (if j=1 then 0 else v) else zar L k:=by
 unfold zar lnkE;rw[upd_nd (f:=fun n=>{ n with l:=v }) (fun n _=>rfl)]
 by_cases hk:k=j
 ·subst hk;obtain⟨n,hn⟩:=ndI_of hj;rw[if_pos rfl,if_pos rfl,hn]
  rfl
 ·rw[if_neg hk,if_neg hk]
theorem want_add (L:List ND) (q:Nat) (nm:ByteArray) (j k:Nat):zar (addE L q nm j) k=zar L k:=want_upd (f:=fun n=>{ n with ns:=zcm nm j n.ns }) (fun _=>rfl) (fun _=>rfl) k
theorem want_del (L:List ND) (q:Nat) (nm:ByteArray) (k:Nat):zar (delE L q nm) k=zar L k:=want_upd (f:=fun n=>{ n with ns:=zaq nm n.ns }) (fun _=>rfl) (fun _=>rfl) k
theorem want_byt (L:List ND) (q:Nat) (b:List Nat) (k:Nat):zar (bytE L q b) k=zar L k:=want_upd (f:=fun n=>{ n with b:=b }) (fun _=>rfl) (fun _=>rfl) k
theorem inos_del (L:List ND) (q:Nat) (nm:ByteArray):inos (delE L q nm)=inos L:=upd_inos (f:=fun n=>{ n with ns:=zaq nm n.ns }) fun _ _=>rfl
theorem inos_lnk (L:List ND) (j v:Nat):inos (lnkE L j v)=inos L:=upd_inos (f:=fun n=>{ n with l:=v }) fun _ _=>rfl
theorem len_add (L:List ND) (q:Nat) (nm:ByteArray) (j:Nat):(addE L q nm j).length=L.length:=zcv ..
theorem len_del (L:List ND) (q:Nat) (nm:ByteArray):(delE L q nm).length=L.length:=zcv ..
theorem len_lnk (L:List ND) (j v:Nat):(lnkE L j v).length=L.length:=zcv ..
theorem len_byt (L:List ND) (j:Nat) (b:List Nat):(bytE L j b).length=L.length:=zcv ..
theorem root_upd {L:List ND} {j:Nat} {f:ND→ND} (hi:∀n,(f n).i=n.i) (hk:∀n,(f n).k=n.k) (h:∃r t,L=r::t∧r.i=1∧r.k=1):∃r t,updI L j f=r::t∧r.i=1∧r.k=1:=by
 obtain⟨r,t,rfl,h1,h2⟩:=h;refine⟨if r.i=j then f r else r,updI t j f,rfl,?_,?_⟩
 ·split
  ·rw[hi,h1]
  ·exact h1
 ·split
  ·rw[hk,h2]
  ·exact h2
theorem rw_upd {p:Nat} {L:List ND} {wt wt':Nat→Nat} (h:Rw p L wt) {j:Nat} {f:ND→ND} {n:ND} (hn:n∈L) (hj:n.i=j) (hi:∀n,(f n).i=n.i) (hk:∀n,(f n).k=n.k)
  (hf:Fine p (f n)) (he:∀e∈(f n).ns,e.2∈inos L) (hc:∀k,wt' k+cntN n.ns k=wt k+cntN (f n).ns k):Rw p (updI L j f) wt':=by
 have hnj:∀m∈L,m.i=j→m=n:=fun m hm e=>zbe h.ord hm hn (by rw[e,hj])
 refine⟨root_upd hi hk h.root,zcq (fun n _=>hi n) h.ord,?_,?_,?_,?_⟩
 ·intro m hm
  rcases zap.1 hm with ⟨x,hx,_,rfl⟩|⟨hx,_⟩
  ·rw[hi];exact h.rng x hx
  ·exact h.rng m hx
 ·intro m hm
  rcases zap.1 hm with ⟨x,hx,e,rfl⟩|⟨hx,_⟩
  ·rw[hnj x hx e];exact hf
  ·exact h.fin m hx
 ·intro m hm e hem;rw[upd_inos (fun n _=>hi n)]
  rcases zap.1 hm with ⟨x,hx,ex,rfl⟩|⟨hx,_⟩
  ·rw[hnj x hx ex] at hem;exact he e hem
  ·exact h.ent m hx e hem
 ·intro k;have h1:=upd_cnt (f:=f) h.ord hn hj k;have h2:=h.cnt k;have h3:=hc k;omega
theorem zcs {p:Nat} {n:ND} (h:Fine p n) (hk:n.k=1):n.l=1∧n.b=[]:=by
 obtain⟨_,_,_,h|h⟩:=h
 ·exact h.2
 ·omega
theorem zbd {p:Nat} {n:ND} (h:Fine p n) (hk:n.k≠1):n.k=2∧1≤n.l∧n.l≤6∧n.ns=[]∧n.b.length≤8*p:=by
 obtain⟨_,_,_,h|h⟩:=h
 ·omega
 ·exact h
theorem fine_ns {p:Nat} {n:ND} (h:Fine p n) {e:ByteArray×Nat} (he:e∈n.ns):n.k=1:=by
 rcases Decidable.em (n.k=1) with h1|h1
 ·exact h1
 ·rw[(zbd h h1).2.2.2.1] at he;cases he
theorem rw_add {p:Nat} {L:List ND} {wt:Nat→Nat} (h:Rw p L wt) {q:ND} (hq:q∈L) (hk:q.k=1) {nm:ByteArray} {j:Nat} (hn:¬zbn nm q.ns) (hb:nameB nm=true) (hj:j∈inos L):
  Rw p (addE L q.i nm j) fun k=>wt k+if j=k then 1 else 0:=by
 have hf:=h.fin q hq;obtain⟨h1,h2⟩:=zcs hf hk;refine rw_upd h hq rfl (fun _=>rfl) (fun _=>rfl) ⟨add_ord hf.1 hn,fun e he=>?_,hf.2.2.1,.inl ⟨hk,h1,h2⟩⟩ (fun e he=>?_) (fun k=>?_)
 ·rcases mem_add.1 he with rfl|he
  ·exact hb
  ·exact hf.2.1 e he
 ·rcases mem_add.1 he with rfl|he
  ·exact hj
  ·exact h.ent q hq e he
 ·have:=add_perm nm j q.ns k
  show _=wt k+cntN (zcm nm j q.ns) k
  omega
theorem rw_del {p:Nat} {L:List ND} {wt wt':Nat→Nat} (h:Rw p L wt) {q:ND} (hq:q∈L) {nm:ByteArray} {j:Nat} (hm:(nm,j)∈q.ns) (hw:∀k,wt' k+(if j=k then 1 else 0)=wt k):
  Rw p (delE L q.i nm) wt':=by
 have hf:=h.fin q hq;have hk:=fine_ns hf hm;obtain⟨h1,h2⟩:=zcs hf hk;refine rw_upd h hq rfl (fun _=>rfl) (fun _=>rfl) ⟨del_ord hf.1,fun e he=>hf.2.1 e (zbs.1 he).1,hf.2.2.1,.inl ⟨hk,h1,h2⟩⟩ (fun e he=>h.ent q hq e (zbs.1 he).1) (fun k=>?_)
 have:=del_perm hf.1 hm k
 have:=hw k
 show _=wt k+cntN (zaq nm q.ns) k
 omega
theorem rw_lnk {p:Nat} {L:List ND} {wt:Nat→Nat} (h:Rw p L wt) {n:ND} (hn:n∈L) (hk:n.k≠1) {v:Nat} (h1:1≤v) (h6:v≤6):Rw p (lnkE L n.i v) wt:=by
 have hf:=h.fin n hn;obtain⟨a1,a2,a3,a4,a5⟩:=zbd hf hk;exact rw_upd h hn rfl (fun _=>rfl) (fun _=>rfl) ⟨hf.1,hf.2.1,hf.2.2.1,.inr ⟨a1,h1,h6,a4,a5⟩⟩ (fun e he=>h.ent n hn e he) (fun k=>rfl)
theorem rw_byt {p:Nat} {L:List ND} {wt:Nat→Nat} (h:Rw p L wt) {n:ND} (hn:n∈L) (hk:n.k≠1) {b:List Nat} (hb:∀x∈b,x < 256) (hl:b.length≤8*p):Rw p (bytE L n.i b) wt:=by
 have hf:=h.fin n hn;obtain⟨a1,a2,a3,a4,a5⟩:=zbd hf hk;exact rw_upd h hn rfl (fun _=>rfl) (fun _=>rfl) ⟨hf.1,hf.2.1,hb,.inr ⟨a1,a2,a3,a4,hl⟩⟩ (fun e he=>h.ent n hn e he) (fun k=>rfl)
theorem zcr {L:List ND} {j:Nat} {m:ND}:m∈remI L j↔m∈L∧m.i≠j:=by unfold remI;simp
theorem rem_inos {L:List ND} {j k:Nat}:k∈inos (remI L j)↔k∈inos L∧k≠j:=by
 rw[zav,zav]
 constructor
 ·rintro ⟨n,hn,rfl⟩;exact⟨⟨n,(zcr.1 hn).1,rfl⟩,(zcr.1 hn).2⟩
 ·rintro ⟨⟨n,hn,rfl⟩,h⟩;exact⟨n,zcr.2 ⟨hn,h⟩,rfl⟩
theorem rem_cnt {L:List ND} {j:Nat} (hz:∀n∈L,n.i=j→n.ns=[]) (k:Nat):cntL (remI L j) k=cntL L k:=by
 induction L with
 | nil=>rfl
 | cons m r ih=>
  have ih:=ih fun n hn=>hz n (List.mem_cons_of_mem _ hn)
  unfold remI at ih ⊢;rw[List.filter_cons]
  by_cases h:m.i=j
  ·rw[if_neg (by simpa using h),ih,cntL,hz m (List.mem_cons_self ..) h];simp[cntN]
  ·rw[if_pos (by simpa using h),cntL,ih,cntL]
theorem rem_nd {L:List ND} (j k:Nat):ndI (remI L j) k=if k=j then none else ndI L k:=by
 induction L with
 | nil=>simp[remI,ndI]
 | cons m r ih=>
  unfold remI at ih ⊢;rw[List.filter_cons]
  by_cases h:m.i=j
  ·rw[if_neg (by simpa using h),ih]
   by_cases hk:k=j
   ·rw[if_pos hk,if_pos hk]
   ·rw[if_neg hk,if_neg hk,ndI,if_neg (by omega)]
  ·rw[if_pos (by simpa using h),ndI,ih]
   by_cases hk:k=j
   ·rw[if_pos hk,if_neg (by omega),if_pos hk]
   ·rw[if_neg hk,if_neg hk,ndI]
theorem want_rem (L:List ND) (j k:Nat):zar (remI L j) k=if k=j then 0 else zar L k:=by
 unfold zar;rw[rem_nd]
 by_cases hk:k=j
 ·rw[if_pos hk,if_pos hk]
 ·rw[if_neg hk,if_neg hk]
theorem rw_rem {p:Nat} {L:List ND} {wt:Nat→Nat} (h:Rw p L wt) {n:ND} (hn:n∈L) (hz:n.ns=[]) (hw:wt n.i=0) (h1:n.i≠1):Rw p (remI L n.i) wt:=by
 refine⟨?_,List.Pairwise.filter _ h.ord,fun m hm=>h.rng m (zcr.1 hm).1,fun m hm=>h.fin m (zcr.1 hm).1,fun m hm e he=>?_,fun k=>?_⟩
 ·obtain⟨r,t,rfl,e1,e2⟩:=h.root;refine⟨r,remI t n.i,?_,e1,e2⟩;unfold remI;rw[List.filter_cons,if_pos (by rw[e1];simpa using fun e=>h1 e.symm)]
 ·obtain⟨hm,_⟩:=zcr.1 hm;refine rem_inos.2 ⟨h.ent m hm e he,?_⟩;exact cntL_none (by rw[h.cnt,hw]) hm he
 ·rw[rem_cnt (fun m hm e=>by rw[zbe h.ord hm hn e];exact hz),h.cnt]
theorem zcx {n:ND} {L:List ND} {m:ND}:m∈insI n L↔m=n∨m∈L:=by
 unfold insI;rw[List.mem_append,List.mem_cons]
 conv=>rhs;rhs;rw[←List.takeWhile_append_dropWhile (p:=fun m:ND=>decide (m.i < n.i)) (l:=L),List.mem_append]
 constructor
 ·rintro (h|h|h)
  ·exact .inr (.inl h)
  ·exact .inl h
  ·exact .inr (.inr h)
 ·rintro (h|h|h)
  ·exact .inr (.inl h)
  ·exact .inl h
  ·exact .inr (.inr h)
theorem ins_inos {n:ND} {L:List ND} {k:Nat}:k∈inos (insI n L)↔k=n.i∨k∈inos L:=by
 rw[zav,zav]
 constructor
 ·rintro ⟨m,hm,rfl⟩
  rcases zcx.1 hm with rfl|h
  ·exact .inl rfl
  ·exact .inr ⟨m,h,rfl⟩
 ·rintro (rfl|⟨m,hm,rfl⟩)
  ·exact⟨n,zcx.2 (.inl rfl),rfl⟩
  ·exact⟨m,zcx.2 (.inr hm),rfl⟩
theorem ins_cons (n m:ND) (r:List ND):insI n (m::r)=if m.i < n.i then m::insI n r else n::m::r:=by
 unfold insI
 by_cases h:m.i < n.i
 ·rw[if_pos h,List.takeWhile_cons_of_pos (by simpa using h),List.dropWhile_cons_of_pos (by simpa using h)];rfl
 ·rw[if_neg h,List.takeWhile_cons_of_neg (by simpa using h),List.dropWhile_cons_of_neg (by simpa using h)];rfl
theorem ins_ord {n:ND} {L:List ND} (h:OrdN L) (hn:n.i∉inos L):OrdN (insI n L):=by
 induction L with
 | nil=>simp[insI,OrdN]
 | cons m r ih=>
  obtain⟨h1,h2⟩:=zcd.1 h
  have hr:n.i∉inos r:=fun hh=>hn (by unfold inos at *;simp at *;exact .inr hh)
  have hm:m.i≠n.i:=fun e=>hn (by unfold inos;simp[e])
  rw[ins_cons]
  split
  ·refine zcd.2 ⟨fun y hy=>?_,ih h2 hr⟩
   rcases zcx.1 hy with rfl|hy
   ·assumption
   ·exact h1 y hy
  ·refine zcd.2 ⟨fun y hy=>?_,h⟩
   rcases List.mem_cons.1 hy with rfl|hy
   ·omega
   ·have:=h1 y hy;omega
theorem ins_cnt {n:ND} (L:List ND) (hz:n.ns=[]) (k:Nat):cntL (insI n L) k=cntL L k:=by
 induction L with
 | nil=>simp[insI,cntL,hz,cntN]
 | cons m r ih=>
  rw[ins_cons]
  split
  ·rw[cntL,ih,cntL]
  ·rw[cntL,hz];simp[cntN]
theorem ins_nd {n:ND} {L:List ND} (hn:n.i∉inos L) (k:Nat):ndI (insI n L) k=if k=n.i then some n else ndI L k:=by
 induction L with
 | nil=>simp[insI,ndI,eq_comm]
 | cons m r ih=>
  have hr:n.i∉inos r:=fun hh=>hn (by unfold inos at *;simp at *;exact .inr hh)
  have hm:m.i≠n.i:=fun e=>hn (by unfold inos;simp[e])
  rw[ins_cons]
  split
  ·rw[ndI,ih hr,ndI]
   by_cases hk:k=n.i
   ·rw[if_pos hk,if_pos hk,if_neg (by omega)]
   ·rw[if_neg hk,if_neg hk]
  ·rw[ndI]
   by_cases hk:k=n.i
   ·rw[if_pos hk,if_pos hk.symm]
   ·rw[if_neg hk,if_neg (fun e=>hk e.symm)]
theorem rw_ins {p:Nat} {L:List ND} {wt:Nat→Nat} (h:Rw p L wt) {n:ND} (hn:n.i∉inos L) (h2:2≤n.i) (h3:n.i≤65535) (hf:Fine p n) (hz:n.ns=[]):Rw p (insI n L) wt:=by
 refine⟨?_,ins_ord h.ord hn,fun m hm=>?_,fun m hm=>?_,fun m hm e he=>?_,fun k=>?_⟩
 ·obtain⟨r,t,rfl,e1,e2⟩:=h.root;exact⟨r,insI n t,by rw[ins_cons,if_pos (by omega)],e1,e2⟩
 ·rcases zcx.1 hm with rfl|hm
  ·omega
  ·exact h.rng m hm
 ·rcases zcx.1 hm with rfl|hm
  ·exact hf
  ·exact h.fin m hm
 ·rcases zcx.1 hm with rfl|hm
  ·rw[hz] at he;cases he
  ·exact ins_inos.2 (.inr (h.ent m hm e he))
 ·rw[ins_cnt L hz,h.cnt]
theorem ins_len (n:ND) (L:List ND):(insI n L).length=L.length+1:=by
 induction L with
 | nil=>rfl
 | cons m r ih=>rw[ins_cons];split<;>simp[*]
theorem want_ins {n:ND} {L:List ND} (hn:n.i∉inos L) (h2:n.i≠1) (k:Nat):zar (insI n L) k=if k=n.i then n.l else zar L k:=by
 unfold zar;rw[ins_nd hn]
 by_cases hk:k=n.i
 ·rw[if_pos hk,if_pos hk];simp only;rw[if_neg (by omega)]
 ·rw[if_neg hk,if_neg hk]
theorem deep_same {L:List ND} {d:Nat→Nat} (h:Deep L d) {j:Nat} {f:ND→ND} (hi:∀n,(f n).i=n.i) (hk:∀n,(f n).k=n.k) (hn:∀n,∀e∈(f n).ns,e∈n.ns):Deep (updI L j f) d:=by
 refine⟨h.1,fun n hnm e he=>?_⟩
 have key:∀m∈L,e∈m.ns→d m.i+1≤6∧∀c∈updI L j f,c.i=e.2→c.k=1→d e.2=d m.i+1:=fun m hm hem=>by
  obtain⟨h1,h2⟩:=h.2 m hm e hem;refine⟨h1,fun c hc e1 e2=>?_⟩
  rcases zap.1 hc with ⟨x,hx,_,rfl⟩|⟨hx,_⟩
  ·exact h2 x hx (by rw[←hi];exact e1) (by rw[←hk];exact e2)
  ·exact h2 c hx e1 e2
 rcases zap.1 hnm with ⟨x,hx,_,rfl⟩|⟨hx,_⟩
 ·rw[hi];exact key x hx (hn x e he)
 ·exact key n hx he
theorem deep_del {L:List ND} {d:Nat→Nat} (h:Deep L d) (q:Nat) (nm:ByteArray):Deep (delE L q nm) d:=deep_same h (fun _=>rfl) (fun _=>rfl) fun _ _ he=>(zbs.1 he).1
theorem deep_lnk {L:List ND} {d:Nat→Nat} (h:Deep L d) (j v:Nat):Deep (lnkE L j v) d:=deep_same h (fun _=>rfl) (fun _=>rfl) fun _ _ he=>he
theorem deep_byt {L:List ND} {d:Nat→Nat} (h:Deep L d) (j:Nat) (b:List Nat):Deep (bytE L j b) d:=deep_same h (fun _=>rfl) (fun _=>rfl) fun _ _ he=>he
theorem deep_rem {L:List ND} {d:Nat→Nat} (h:Deep L d) (j:Nat):Deep (remI L j) d:=
 ⟨h.1,fun n hn e he=>⟨(h.2 n (zcr.1 hn).1 e he).1,fun c hc=>(h.2 n (zcr.1 hn).1 e he).2 c (zcr.1 hc).1⟩⟩
theorem deep_add {L:List ND} {d:Nat→Nat} (h:Deep L d) {q:ND} (ho:OrdN L) (hq:q∈L) (nm:ByteArray) (j:Nat) (h6:d q.i+1≤6) (hj:∀c∈L,c.i=j→c.k=1→d j=d q.i+1):Deep (addE L q.i nm j) d:=by
 have kids:∀c∈addE L q.i nm j,∃x∈L,x.i=c.i∧x.k=c.k:=fun c hc=>by
  rcases zap.1 hc with ⟨x,hx,_,rfl⟩|⟨hx,_⟩
  ·exact⟨x,hx,rfl,rfl⟩
  ·exact⟨c,hx,rfl,rfl⟩
 refine⟨h.1,fun n hn e he=>?_⟩
 have old:∀m∈L,e∈m.ns→d m.i+1≤6∧∀c∈addE L q.i nm j,c.i=e.2→c.k=1→d e.2=d m.i+1:=fun m hm hem=>by
  obtain⟨h1,h2⟩:=h.2 m hm e hem;refine⟨h1,fun c hc e1 e2=>?_⟩;obtain⟨x,hx,i1,i2⟩:=kids c hc;exact h2 x hx (by omega) (by omega)
 rcases zap.1 hn with ⟨x,hx,ex,rfl⟩|⟨hx,_⟩
 ·obtain rfl:x=q:=zbe ho hx hq ex
  rcases mem_add.1 he with rfl|he
  ·refine⟨h6,fun c hc e1 e2=>?_⟩;obtain⟨y,hy,i1,i2⟩:=kids c hc;exact hj y hy (i1.trans e1) (i2.trans e2)
  ·exact old x hx he
 ·exact old n hx he
theorem deep_ins {L:List ND} {d:Nat→Nat} (h:Deep L d) {n:ND} (hn:n.i∉inos L) (h1:n.i≠1) (hz:n.ns=[]) (he:∀m∈L,∀e∈m.ns,e.2≠n.i) (v:Nat):Deep (insI n L) fun k=>if k=n.i then v else d k:=by
 refine⟨by simp only;rw[if_neg (fun e=>h1 e.symm)];exact h.1,fun m hm e hem=>?_⟩
 rcases zcx.1 hm with rfl|hm
 ·rw[hz] at hem;cases hem
 ·have hmi:m.i≠n.i:=fun e=>hn (zav.2 ⟨m,hm,e⟩)
  have hee:=he m hm e hem;simp only;rw[if_neg hmi,if_neg hee];obtain⟨a,b⟩:=h.2 m hm e hem;refine⟨a,fun c hc e1 e2=>?_⟩
  rcases zcx.1 hc with rfl|hc
  ·exact absurd e1.symm hee
  ·exact b c hc e1 e2
end
section
inductive Way (L:List ND):List ByteArray→Nat→Prop
 | root:Way L [] 1
 | more {l:List ByteArray} {n:ND} {e:ByteArray×Nat}:Way L l n.i→n∈L→e∈n.ns→Way L (l++[e.1]) e.2
theorem Rt.one {T:TT} (h:Rt T):∃r,ndI T.l 1=some r∧r.k=1:=by
 obtain⟨r,t,e,h1,h2⟩:=h.root;exact⟨r,by rw[e,ndI,if_pos h1],h2⟩
theorem Rt.root_none {T:TT} (h:Rt T) {n:ND} (hn:n∈T.l) {e:ByteArray×Nat} (he:e∈n.ns):e.2≠1:=
 cntL_none (by
  rw[h.cnt];obtain⟨r,hr,_⟩:=h.one;unfold zar;rw[hr]
  simp) hn he
theorem Way.node {T:TT} (h:Rt T) {l:List ByteArray} {j:Nat} (hw:Way T.l l j):∃n,ndI T.l j=some n:=by
 cases hw with
 | root=>obtain⟨r,hr,_⟩:=h.one;exact⟨r,hr⟩
 | more _ hn he=>exact ndI_of (h.ent _ hn _ he)
theorem Way.dep {T:TT} (h:Rt T) {d:Nat→Nat} (hd:Deep T.l d) {l:List ByteArray} {j:Nat} (hw:Way T.l l j):∀n,ndI T.l j=some n→n.k=1→d j=l.length:=by
 induction hw with
 | root=>intro _ _ _;exact hd.1
 | more hw hn he ih=>
  intro m hm hk;obtain⟨hm1,hm2⟩:=zaa hm;have h1:=ih _ (zbf h.ord hn) (fine_ns (h.fin _ hn) he)
  have:=(hd.2 _ hn _ he).2 m hm1 hm2 hk
  simp;omega
theorem Way.uniq {T:TT} (h:Rt T) {l:List ByteArray} {j:Nat} (hw:Way T.l l j):∀{l':List ByteArray} {n:ND},Way T.l l' j→ndI T.l j=some n→n.k=1→l=l':=by
 induction hw with
 | root=>
  intro l' n hw' _ _;generalize hj:1=j at hw'
  cases hw' with
  | root=>rfl
  | more _ hn he=>exact absurd hj.symm (h.root_none hn he)
 | more hw hn he ih=>
  rename_i l0 n0 e0
  intro l' n hw' hm hk;generalize hj:e0.2=j at hw' hm
  cases hw' with
  | root=>exact absurd hj (h.root_none hn he)
  | more hw2 hn2 he2=>
   obtain⟨hm1,hm2⟩:=zaa hm;have hl:n.l=1:=(zcs (h.fin n hm1) hk).1
   have hc:cntL T.l e0.2≤1:=by
    rw[h.cnt,hj,←hm2,want_of h.ord hm1,hl];split<;>omega
   obtain⟨rfl,rfl⟩:=ent_uniq hc h.ord hn hn2 he he2 rfl hj.symm;rw[ih hw2 (zbf h.ord hn) (fine_ns (h.fin _ hn) he)]
def zad (L:List ND):List ByteArray→Nat→Nat→Nat×Nat×Nat
 | [],q,j=>(q,j,0)
 | x::r,_,j=>if j=0 then (0,0,12) else match ndI L j with
  | none=>(0,0,0)
  | some n=>if n.k≠1 then (0,0,14) else zad L r j (entF n.ns x)
structure LkP (L:List ND) (g:List ByteArray) (q j:Nat):Prop where
 here:g=[]∧q=0∧j=1∨∃l x n,g=l++[x]∧Way L l q∧ndI L q=some n∧n.k=1∧j=entF n.ns x
theorem zcl {n:ND} {x:ByteArray} (hx:entF n.ns x≠0):(x,entF n.ns x)∈n.ns:=by
 by_cases hh:zbn x n.ns
 ·exact entF_mem hh
 ·exact absurd (entF_none hh) hx
theorem lookF_ok {T:TT} (h:Rt T):∀(r l:List ByteArray) (q0 j0 q j:Nat),LkP T.l l q0 j0→zad T.l r q0 j0=(q,j,0)→LkP T.l (l++r) q j
 | [],l,q0,j0,q,j,hp,he=>by
  unfold zad at he
  injection he with e1 e2
  injection e2 with e2 _
  subst e1 e2;rw[List.append_nil];exact hp
 | x::r,l,q0,j0,q,j,hp,he=>by
  unfold zad at he
  by_cases h0:j0=0
  ·rw[if_pos h0] at he;simp at he
  ·rw[if_neg h0] at he
   have hway:Way T.l l j0:=by
    rcases hp.here with ⟨rfl,rfl,rfl⟩|⟨l1,y,n,rfl,hw,hn,hk,rfl⟩
    ·exact .root
    ·obtain⟨h1,h2⟩:=zaa hn;subst h2;exact Way.more (e:=(y,entF n.ns y)) hw h1 (zcl h0)
   cases hn:ndI T.l j0 with
   | none=>obtain⟨n,e⟩:=hway.node h;rw[hn] at e;cases e
   | some n=>
    rw[hn] at he;simp only at he
    by_cases hk:n.k≠1
    ·rw[if_pos hk] at he;simp at he
    ·rw[if_neg hk] at he
     have:=lookF_ok h r (l++[x]) j0 (entF n.ns x) q j ⟨.inr ⟨l,x,n,rfl,hway,hn,by omega,rfl⟩⟩ he
     rwa [List.append_assoc] at this
theorem zbx {T:TT} (h:Rt T) {g:List ByteArray} {q j:Nat} (he:zad T.l g 0 1=(q,j,0)):LkP T.l g q j:=by
 have:=lookF_ok h g [] 0 1 q j ⟨.inl ⟨rfl,rfl,rfl⟩⟩ he
 simpa using this
def zcj:List ND→Nat→Nat
 | [],k=>k
 | n::r,k=>if n.i=k then zcj r (k+1) else k
def zbj (L:List ND):Nat:=zcj L 1
theorem freeGo_le (L:List ND) (k:Nat):k≤zcj L k∧zcj L k≤k+L.length:=by
 induction L generalizing k with
 | nil=>simp[zcj]
 | cons n r ih=>
  unfold zcj
  split
  ·have:=ih (k+1);simp;omega
  ·simp
theorem freeGo_not {L:List ND} {k:Nat} (ho:OrdN L) (hk:∀n∈L,k≤n.i):zcj L k∉inos L:=by
 induction L generalizing k with
 | nil=>simp[inos]
 | cons n r ih=>
  obtain⟨h1,h2⟩:=zcd.1 ho;unfold zcj
  split
  ·rename_i e
   have:=ih (k:=k+1) h2 (fun m hm=>by have:=h1 m hm;omega)
   intro hh;unfold inos at *
   rcases List.mem_cons.1 hh with hh|hh
   ·have h5:k+1≤zcj r (k+1):=(freeGo_le r (k+1)).1;have h6:zcj r (k+1)=n.i:=hh;omega
   ·exact this hh
  ·rename_i e
   intro hh;obtain⟨m,hm,e2⟩:=zav.1 hh
   rcases List.mem_cons.1 hm with rfl|hm
   ·exact e e2
   ·have h3:n.i < m.i:=h1 m hm;have h4:k≤n.i:=hk n (List.mem_cons_self ..);rw[e2] at h3;exact absurd (Nat.lt_of_le_of_lt h4 h3) (Nat.lt_irrefl _)
theorem freeGo_all {L:List ND} {k x:Nat} (h1:k≤x) (h2:x < zcj L k):x∈inos L:=by
 induction L generalizing k with
 | nil=>unfold zcj at h2;omega
 | cons n r ih=>
  unfold zcj at h2
  split at h2
  ·rename_i e
   by_cases hx:x=k
   ·subst hx;unfold inos;simp[e]
   ·have:=ih (k:=k+1) (by omega) h2
    unfold inos at *;exact List.mem_cons_of_mem _ this
  ·omega
theorem free_ok {T:TT} (h:Rt T):zbj T.l∉inos T.l∧2≤zbj T.l∧zbj T.l≤T.l.length+1:=by
 have h1:zbj T.l∉inos T.l:=freeGo_not h.ord fun n hn=>(h.rng n hn).1
 have h2:=freeGo_le T.l 1;refine⟨h1,?_,by unfold zbj;omega⟩;obtain⟨r,t,e,e1,_⟩:=h.root
 rcases Nat.lt_or_ge (zbj T.l) 2 with hlt|hge
 ·have:zbj T.l=1:=by unfold zbj at *;omega
  exact absurd (zav.2 ⟨r,by rw[e];exact List.mem_cons_self ..,by rw[e1,this]⟩) h1
 ·exact hge
def makeE (L:List ND) (q:Nat) (nm:ByteArray) (k:Nat):List ND:=addE (insI ⟨zbj L,k,1,[],[]⟩ L) q nm (zbj L)
def zba (L:List ND) (q:Nat) (nm:ByteArray) (j v:Nat):List ND:=if v=1 then remI (delE L q nm) j else lnkE (delE L q nm) j (v - 1)
def linkE (L:List ND) (q:Nat) (nm:ByteArray) (j v:Nat):List ND:=addE (lnkE L j (v+1)) q nm j
def moveE (L:List ND) (q:Nat) (nm:ByteArray) (r:Nat) (nm':ByteArray) (j:Nat):List ND:=addE (delE L q nm) r nm' j
theorem mem_updE {L:List ND} {j:Nat} {f:ND→ND} {n:ND} (hn:n∈L):n.i≠j∧n∈updI L j f∨n.i=j∧f n∈updI L j f:=by
 by_cases h:n.i=j
 ·exact .inr ⟨h,zap.2 (.inl ⟨n,hn,h,rfl⟩)⟩
 ·exact .inl ⟨h,zap.2 (.inr ⟨hn,h⟩)⟩
theorem rt_make {T:TT} (h:Rt T) {q:ND} (hq:q∈T.l) (hk:q.k=1) {nm:ByteArray} (hb:nameB nm=true) (hn:¬zbn nm q.ns) (hl:T.l.length < 48) {k:Nat} (hkk:k=1∨k=2)
  {d:Nat→Nat} (hd:Deep T.l d) (h6:d q.i+1≤6):Rt ⟨T.p,makeE T.l q.i nm k⟩:=by
 obtain⟨f1,f2,f3⟩:=free_ok h;unfold makeE;generalize zbj T.l=f at *;have hfi:Fine T.p ⟨f,k,1,[],[]⟩:=⟨List.Pairwise.nil,by simp,by simp,by rcases hkk with rfl|rfl;exact .inl ⟨rfl,rfl,rfl⟩;exact .inr ⟨rfl,by simp,by simp,rfl,by simp⟩⟩;have w1:=rw_ins (n:=⟨f,k,1,[],[]⟩) h.rw_ f1 f2 (by show f≤65535;omega) hfi rfl;have hq1:q∈insI ⟨f,k,1,[],[]⟩ T.l:=zcx.2 (.inr hq)
 have hqf:q.i≠f:=fun e=>f1 (zav.2 ⟨q,hq,e⟩)
 have w2:=rw_add (nm:=nm) (j:=f) w1 hq1 hk hn hb (ins_inos.2 (.inl rfl))
 have he:∀m∈T.l,∀e∈m.ns,e.2≠f:=fun m hm e hem hh=>f1 (hh ▸ h.ent m hm e hem)
 have d1:=deep_ins (n:=⟨f,k,1,[],[]⟩) hd f1 (by show f≠1;omega) rfl he (d q.i+1);have d2:=deep_add d1 w1.ord hq1 nm f (by simp only;rw[if_neg hqf];exact h6) (fun c hc e1 e2=>by simp only;rw[if_neg hqf];simp)
 have hw:(fun k'=>zar T.l k'+if f=k' then 1 else 0)=zar (addE (insI ⟨f,k,1,[],[]⟩ T.l) q.i nm f):=by
  funext x
  rw[want_add,want_ins f1 (by show f≠1;omega)];simp only
  by_cases hx:x=f
  ·subst hx;rw[if_pos rfl,if_pos rfl,want_none f1]
  ·rw[if_neg hx,if_neg (fun e=>hx e.symm)];rfl
 rw[hw] at w2;exact w2.rt h.p1 h.p2 (by rw[len_add,ins_len];omega) ⟨_,d2⟩
theorem rt_link {T:TT} (h:Rt T) {q:ND} (hq:q∈T.l) (hk:q.k=1) {nm:ByteArray} (hb:nameB nm=true) (hn:¬zbn nm q.ns) {n:ND} (hm:n∈T.l) (hf:n.k≠1) (hl:n.l < 6)
  {d:Nat→Nat} (hd:Deep T.l d) (h6:d q.i+1≤6):Rt ⟨T.p,linkE T.l q.i nm n.i n.l⟩:=by
 have hne:q.i≠n.i:=fun e=>by have:=zbe h.ord hq hm e;subst this;exact hf hk
 have hff:=zbd (h.fin n hm) hf;have w1:=rw_lnk (v:=n.l+1) h.rw_ hm hf (by omega) (by omega);have hq1:q∈lnkE T.l n.i (n.l+1):=zap.2 (.inr ⟨hq,hne⟩)
 have hin:n.i∈inos (lnkE T.l n.i (n.l+1)):=by rw[inos_lnk];exact zav.2 ⟨n,hm,rfl⟩
 have w2:=rw_add w1 hq1 hk hn hb hin
 have hn1:n.i≠1:=fun e=>by
  obtain⟨r,hr,hrk⟩:=h.one
  have:=zbf h.ord hm
  rw[e,hr] at this
  injection this with this
  subst this;exact hf hrk
 have hw:(fun k=>zar T.l k+if n.i=k then 1 else 0)=zar (linkE T.l q.i nm n.i n.l):=by
  funext x
  unfold linkE;rw[want_add,want_lnk _ _ _ (zav.2 ⟨n,hm,rfl⟩)]
  by_cases hx:x=n.i
  ·subst hx;rw[if_pos rfl,if_pos rfl,want_of h.ord hm,if_neg hn1,if_neg hn1]
  ·rw[if_neg hx,if_neg (fun e=>hx e.symm)];rfl
 rw[hw] at w2;refine w2.rt h.p1 h.p2 (by rw[len_add,len_lnk];exact h.len) ⟨d,?_⟩
 refine deep_add (deep_lnk hd _ _) w1.ord hq1 nm _ h6 fun c hc e1 e2=>?_
 rcases zap.1 hc with ⟨x,hx,ex,rfl⟩|⟨hx,hx2⟩
 ·have:=zbe h.ord hx hm ex;subst this;exact absurd e2 hf
 ·exact absurd e1 hx2
theorem rt_lose {T:TT} (h:Rt T) {q:ND} (hq:q∈T.l) {nm:ByteArray} {n:ND} (hm:n∈T.l) (he:(nm,n.i)∈q.ns) (hz:n.ns=[]):Rt ⟨T.p,zba T.l q.i nm n.i n.l⟩:=by
 obtain⟨d,hd⟩:=h.dep;have hn1:n.i≠1:=h.root_none hq he
 have hc0:zar T.l n.i=n.l:=by rw[want_of h.ord hm,if_neg hn1]
 have hl1:1≤n.l:=by
  have:=h.cnt n.i
  have:=cntL_le hq n.i
  have:1≤cntN q.ns n.i:=zcu he
  omega
 have w1:=rw_del (wt':=fun k=>zar T.l k - if n.i=k then 1 else 0) h.rw_ hq he (fun k=>by
  by_cases hx:n.i=k
  ·subst hx;rw[if_pos rfl,hc0];omega
  ·rw[if_neg hx];omega)
 have hqn:q.i≠n.i∨q=n:=by
  rcases Decidable.em (q.i=n.i) with e|e
  ·exact .inr (zbe h.ord hq hm e)
  ·exact .inl e
 have hqn:q.i≠n.i:=by
  rcases hqn with e|rfl
  ·exact e
  ·rw[hz] at he;cases he
 have hm1:n∈delE T.l q.i nm:=zap.2 (.inr ⟨hm,fun e=>hqn e.symm⟩);have hin:n.i∈inos (delE T.l q.i nm):=zav.2 ⟨n,hm1,rfl⟩
 have hdw:∀k,zar (delE T.l q.i nm) k=zar T.l k:=fun k=>want_del _ _ _ k
 have hlen:(delE T.l q.i nm).length=T.l.length:=len_del _ _ _;unfold zba
 by_cases hv:n.l=1
 ·rw[if_pos hv];have w2:=rw_rem w1 hm1 hz (by show zar T.l n.i - (if n.i=n.i then 1 else 0)=0;rw[if_pos rfl,hc0];omega) hn1
  have hw:(fun k=>zar T.l k - if n.i=k then 1 else 0)=zar (remI (delE T.l q.i nm) n.i):=by
   funext x
   rw[want_rem,hdw]
   by_cases hx:x=n.i
   ·subst hx;rw[if_pos rfl,if_pos rfl,hc0];omega
   ·rw[if_neg hx,if_neg (fun e=>hx e.symm)];rfl
  rw[hw] at w2;exact w2.rt h.p1 h.p2 (Nat.le_trans (List.length_filter_le _ _) (by rw[hlen];exact h.len)) ⟨d,deep_rem (deep_del hd _ _) _⟩
 ·rw[if_neg hv]
  have hk:n.k≠1:=fun e=>hv (zcs (h.fin n hm) e).1
  have hff:=zbd (h.fin n hm) hk;have w2:=rw_lnk (v:=n.l - 1) w1 hm1 hk (by omega) (by omega)
  have hw:(fun k=>zar T.l k - if n.i=k then 1 else 0)=zar (lnkE (delE T.l q.i nm) n.i (n.l - 1)):=by
   funext x
   rw[want_lnk _ _ _ hin,hdw]
   by_cases hx:x=n.i
   ·subst hx;rw[if_pos rfl,if_pos rfl,if_neg hn1,hc0]
   ·rw[if_neg hx,if_neg (fun e=>hx e.symm)];rfl
  rw[hw] at w2;exact w2.rt h.p1 h.p2 (by rw[len_lnk,hlen];exact h.len) ⟨d,deep_lnk (deep_del hd _ _) _ _⟩
theorem rt_byt {T:TT} (h:Rt T) {n:ND} (hm:n∈T.l) (hk:n.k≠1) {b:List Nat} (hb:∀x∈b,x < 256) (hl:b.length≤8*T.p):Rt ⟨T.p,bytE T.l n.i b⟩:=by
 obtain⟨d,hd⟩:=h.dep;have w1:=rw_byt h.rw_ hm hk hb hl
 have hw:zar T.l=zar (bytE T.l n.i b):=by funext x;exact (want_byt _ _ _ x).symm
 rw[hw] at w1;exact w1.rt h.p1 h.p2 (by rw[len_byt];exact h.len) ⟨d,deep_byt hd _ _⟩
inductive Und (L:List ND) (a:Nat):Nat→Prop
 | here:Und L a a
 | more {n:ND} {e:ByteArray×Nat}:Und L a n.i→n∈L→e∈n.ns→Und L a e.2
def hgtN (f:Nat→Nat):List (ByteArray×Nat)→Nat
 | []=>0
 | e::r=>max (1+f e.2) (hgtN f r)
def hgt (L:List ND):Nat→Nat→Nat
 | 0,_=>0
 | f+1,j=>match ndI L j with
  | none=>0
  | some n=>hgtN (hgt L f) n.ns
theorem hgtN_le {f:Nat→Nat} {ns:List (ByteArray×Nat)} {e:ByteArray×Nat} (h:e∈ns):1+f e.2≤hgtN f ns:=by
 induction ns with
 | nil=>cases h
 | cons x r ih=>
  unfold hgtN
  rcases List.mem_cons.1 h with rfl|h
  ·exact Nat.le_max_left _ _
  ·exact Nat.le_trans (ih h) (Nat.le_max_right _ _)
inductive Dn (L:List ND):Nat→Nat→Nat→Prop
 | here (a:Nat):Dn L a 0 a
 | step {n:ND} {e:ByteArray×Nat} {k c:Nat}:n∈L→e∈n.ns→Dn L e.2 k c→Dn L n.i (k+1) c
theorem Dn.last {L:List ND} {a k:Nat} {n:ND} {e:ByteArray×Nat} (hn:n∈L) (he:e∈n.ns):∀{c},c=n.i→Dn L a k c→Dn L a (k+1) e.2:=by
 intro c hc h
 induction h with
 | here a=>subst hc;exact .step hn he (.here _)
 | step h1 h2 _ ih=>exact .step h1 h2 (ih hc)
theorem Und.dn {L:List ND} {a c:Nat} (h:Und L a c):∃k,Dn L a k c:=by
 induction h with
 | here=>exact⟨0,.here _⟩
 | more _ hn he ih=>obtain⟨k,hk⟩:=ih;exact⟨k+1,hk.last hn he rfl⟩
theorem Dn.hgt_le {L:List ND} (ho:OrdN L) {a k c:Nat} (h:Dn L a k c):∀f,k≤f→k≤hgt L f a:=by
 induction h with
 | here a=>intro f _;exact Nat.zero_le _
 | step hn he _ ih=>
  intro f hf;obtain⟨f,rfl⟩:∃g,f=g+1:=⟨f - 1,by omega⟩
  have:=ih f (by omega)
  have h2:=hgtN_le (f:=hgt L f) he;unfold hgt;rw[zbf ho hn];simp only;omega
theorem Dn.dep {L:List ND} {d:Nat→Nat} (hd:Deep L d) (hf:∀n∈L,n.ns≠[]→n.k=1) {a k c:Nat} (h:Dn L a k c):∀n∈L,n.i=c→n.k=1→d c=d a+k:=by
 induction h with
 | here a=>intro _ _ _ _;rfl
 | step hn he hdn ih=>
  rename_i n1 e1 k1 c1
  intro n hnn hc hk;have h1:=ih n hnn hc hk;have kid:∀m∈L,m.i=e1.2→m.k=1→d e1.2=d n1.i+1:=(hd.2 _ hn _ he).2
  have:∃m∈L,m.i=e1.2∧m.k=1:=by
   generalize e1.2=z at hdn
   cases hdn with
   | here=>exact⟨n,hnn,hc,hk⟩
   | step h3 h4 _=>exact⟨_,h3,rfl,hf _ h3 (fun e=>by rw[e] at h4;cases h4)⟩
  obtain⟨m,hm,e1',e2'⟩:=this
  have:=kid m hm e1' e2'
  omega
theorem Way.und {L:List ND} {a:Nat} {l:List ByteArray} (hw:Way L l a) {c:Nat} (h:Und L a c):∃r,Way L (l++r) c:=by
 induction h with
 | here=>exact⟨[],by simpa using hw⟩
 | more _ hn he ih=>obtain⟨r,hr⟩:=ih;exact⟨r++[_],by rw[←List.append_assoc];exact .more hr hn he⟩
open Classical in
theorem deep_move {T:TT} (h:Rt T) {q r n:ND} (_hq:q∈T.l) (hr:r∈T.l) (hm:n∈T.l) {nm nm':ByteArray} (he:(nm,n.i)∈q.ns)
  (hu:¬Und T.l n.i r.i) {d:Nat→Nat} (hd:Deep T.l d) (h6:d r.i+1+hgt T.l 8 n.i≤6):∃d',Deep (moveE T.l q.i nm r.i nm' n.i) d':=by
 have hn1:n.i≠1:=h.root_none _hq he
 have hdir:∀m∈T.l,m.ns≠[]→m.k=1:=fun m hm hne=>by
  cases hns:m.ns with
  | nil=>exact absurd hns hne
  | cons e t=>exact fine_ns (h.fin m hm) (e:=e) (by rw[hns];exact List.mem_cons_self ..)
 have hroot:¬Und T.l n.i 1:=fun hh=>by
  generalize h1:1=z at hh
  cases hh with
  | here=>exact hn1 h1.symm
  | more _ hx hex=>exact h.root_none hx hex h1.symm
 by_cases hk:n.k=1
 ·-- a directory
  have hdn:d n.i=d q.i+1:=(hd.2 q _hq _ he).2 n hm rfl hk
  have hc1:cntL T.l n.i≤1:=by rw[h.cnt,want_of h.ord hm,(zcs (h.fin n hm) hk).1];split<;>omega
  have d0:Deep (delE T.l q.i nm) d:=deep_del hd _ _;refine⟨fun i=>if Und T.l n.i i then d i - d n.i+(d r.i+1) else d i,?_,?_⟩
  ·simp only;rw[if_neg hroot];exact hd.1
  ·have kids:∀c∈moveE T.l q.i nm r.i nm' n.i,∃x∈T.l,x.i=c.i∧x.k=c.k:=fun c hc=>by
    rcases zap.1 hc with ⟨x,hx,_,rfl⟩|⟨hx,_⟩
    ·rcases zap.1 hx with ⟨y,hy,_,rfl⟩|⟨hy,_⟩
     ·exact⟨y,hy,rfl,rfl⟩
     ·exact⟨x,hy,rfl,rfl⟩
    ·rcases zap.1 hx with ⟨y,hy,_,rfl⟩|⟨hy,_⟩
     ·exact⟨y,hy,rfl,rfl⟩
     ·exact⟨c,hy,rfl,rfl⟩
   have old:∀m∈T.l,∀e∈m.ns,¬(m.i=q.i∧e.1=nm)→(if Und T.l n.i m.i then d m.i - d n.i+(d r.i+1) else d m.i)+1≤6 ∧
     ∀c∈moveE T.l q.i nm r.i nm' n.i,c.i=e.2→c.k=1→(if Und T.l n.i e.2 then d e.2 - d n.i+(d r.i+1) else d e.2)=(if Und T.l n.i m.i then d m.i - d n.i+(d r.i+1) else d m.i)+1:=by
    intro m hmm e hem hno;have hmk:m.k=1:=fine_ns (h.fin m hmm) hem;obtain⟨a1,a2⟩:=hd.2 m hmm e hem
    by_cases hum:Und T.l n.i m.i
    ·have hue:Und T.l n.i e.2:=.more hum hmm hem;obtain⟨k,hkd⟩:=hum.dn;have hdm:=hkd.dep hd hdir m hmm rfl hmk
     have hk6:k+1≤8:=by omega
     have hh:=(hkd.last hmm hem rfl).hgt_le h.ord 8 hk6;rw[if_pos hum,if_pos hue];refine⟨by omega,fun c hc e1 e2=>?_⟩;obtain⟨x,hx,i1,i2⟩:=kids c hc
     have:=a2 x hx (by omega) (by omega)
     omega
    ·rw[if_neg hum];refine⟨a1,fun c hc e1 e2=>?_⟩;obtain⟨x,hx,i1,i2⟩:=kids c hc;have hx2:=a2 x hx (by omega) (by omega)
     have hue:¬Und T.l n.i e.2:=fun hue=>by
      have hxk:x.k=1:=by omega
      have hxe:x.i=e.2:=by omega
      have hcx:cntL T.l e.2≤1:=by rw[h.cnt,←hxe,want_of h.ord hx,(zcs (h.fin x hx) hxk).1];split<;>omega
      generalize hz:e.2=z at hue
      cases hue with
      | here=>
       obtain⟨hqm,hee⟩:=ent_uniq hc1 h.ord _hq hmm he hem rfl hz;exact hno ⟨by rw[hqm],by rw[←hee]⟩
      | more hu1 hn1 he1=>
       obtain⟨hqm,hee⟩:=ent_uniq hcx h.ord hmm hn1 hem he1 rfl hz.symm;subst hqm;exact hum hu1
     rw[if_neg hue,hx2]
   intro m hmm e hem
   rcases zap.1 hmm with ⟨x,hx,ex,rfl⟩|⟨hx,hxr⟩
   ·-- the directory that it goes to
    have hxe:e=(nm',n.i)∨e∈x.ns:=mem_add.1 hem
    have hxi:∃y∈T.l,y.i=x.i∧∀e∈x.ns,e∈y.ns∧¬(y.i=q.i∧e.1=nm):=by
     rcases zap.1 hx with ⟨y,hy,ey,rfl⟩|⟨hy,ey⟩
     ·exact⟨y,hy,rfl,fun e he=>⟨(zbs.1 he).1,fun hh=>(zbs.1 he).2 hh.2⟩⟩
     ·exact⟨x,hy,rfl,fun e he=>⟨he,fun hh=>ey hh.1⟩⟩
    obtain⟨y,hy,yi,yns⟩:=hxi
    rcases hxe with rfl|hxe
    ·have hxr:x.i=r.i:=ex
     show (if Und T.l n.i x.i then _ else _)+1≤6∧_
     simp only;rw[hxr,if_neg hu,if_pos Und.here];exact⟨by omega,fun c _ _ _=>by omega⟩
    ·have:=old y hy e (yns e hxe).1 (yns e hxe).2
     rw[yi] at this;exact this
   ·rcases zap.1 hx with ⟨y,hy,ey,rfl⟩|⟨hy,ey⟩
    ·exact old y hy e (zbs.1 hem).1 fun hh=>(zbs.1 hem).2 hh.2
    ·exact old m hy e hem fun hh=>ey hh.1
 ·-- a file
  have hqr:∀c∈delE T.l q.i nm,c.i=n.i→c.k=1→d n.i=d r.i+1:=fun c hc e1 e2=>by
   rcases zap.1 hc with ⟨x,hx,ex,rfl⟩|⟨hx,_⟩
   ·have:=zbe h.ord hx hm e1;subst this;exact absurd e2 hk
   ·have:=zbe h.ord hx hm e1;subst this;exact absurd e2 hk
  have ho:OrdN (delE T.l q.i nm):=zcq (fun _ _=>rfl) h.ord
  rcases mem_updE (f:=fun n=>{ n with ns:=zaq nm n.ns }) (j:=q.i) hr with ⟨_,hr1⟩|⟨_,hr1⟩
  ·exact⟨d,deep_add (deep_del hd _ _) ho hr1 nm' n.i (by omega) hqr⟩
  ·exact⟨d,deep_add (q:={ r with ns:=zaq nm r.ns }) (deep_del hd _ _) ho hr1 nm' n.i (by show d r.i+1≤6;omega) hqr⟩
theorem rt_move {T:TT} (h:Rt T) {q r n:ND} (hq:q∈T.l) (hr:r∈T.l) (hrk:r.k=1) (hm:n∈T.l) {nm nm':ByteArray} (he:(nm,n.i)∈q.ns)
  (hb:nameB nm'=true) (hn:¬zbn nm' (if r.i=q.i then zaq nm r.ns else r.ns)) (hu:¬Und T.l n.i r.i) {d:Nat→Nat} (hd:Deep T.l d) (h6:d r.i+1+hgt T.l 8 n.i≤6):
  Rt ⟨T.p,moveE T.l q.i nm r.i nm' n.i⟩:=by
 have hn1:n.i≠1:=h.root_none hq he
 have hc0:zar T.l n.i=n.l:=by rw[want_of h.ord hm,if_neg hn1]
 have hl1:1≤n.l:=by
  have:=h.cnt n.i
  have:=cntL_le hq n.i
  have:1≤cntN q.ns n.i:=zcu he
  omega
 have w1:=rw_del (wt':=fun k=>zar T.l k - if n.i=k then 1 else 0) h.rw_ hq he (fun k=>by
  by_cases hx:n.i=k
  ·subst hx;rw[if_pos rfl,hc0];omega
  ·rw[if_neg hx];omega)
 have hin:n.i∈inos (delE T.l q.i nm):=by rw[inos_del];exact zav.2 ⟨n,hm,rfl⟩
 have hw:(fun k=>(zar T.l k - if n.i=k then 1 else 0)+if n.i=k then 1 else 0)=zar (moveE T.l q.i nm r.i nm' n.i):=by
  funext x
  rw[moveE,want_add,want_del]
  by_cases hx:n.i=x
  ·subst hx;rw[if_pos rfl,hc0];omega
  ·rw[if_neg hx];omega
 have hdeep:=deep_move h hq hr hm (nm':=nm') he hu hd h6
 have hlen:(moveE T.l q.i nm r.i nm' n.i).length≤48:=by rw[moveE,len_add,len_del];exact h.len
 by_cases hrq:r.i=q.i
 ·rw[if_pos hrq] at hn;have hr1:({ r with ns:=zaq nm r.ns }:ND)∈delE T.l q.i nm:=zap.2 (.inl ⟨r,hr,hrq,rfl⟩);have w2:=rw_add (q:={ r with ns:=zaq nm r.ns }) w1 hr1 hrk hn hb hin;simp only at w2;rw[hw] at w2;exact w2.rt h.p1 h.p2 hlen hdeep
 ·rw[if_neg hrq] at hn;have hr1:r∈delE T.l q.i nm:=zap.2 (.inr ⟨hr,hrq⟩);have w2:=rw_add w1 hr1 hrk hn hb hin;rw[hw] at w2;exact w2.rt h.p1 h.p2 hlen hdeep
end
section
structure AN where
 e:Nat
 i:Nat
 n:Nat
 k:Nat
 l:Nat
 s:Nat
 b:List Nat
 ns:List ByteArray
def erA (e:Nat):AN:=⟨e,0,0,0,0,0,[],[]⟩
structure AC where
 k:Nat
 p:ByteArray
 t:ByteArray
 a:Int
 n:Int
 b:List Nat
def baL (x:List UInt8):ByteArray:=⟨x.toArray⟩
def pnB (s:ByteArray):List ByteArray:=(pN s.data.toList).map baL
def peB (s:ByteArray):Nat:=pE s.data.toList
def lst (g:List ByteArray):ByteArray:=g.getLastD ByteArray.empty
def twoK (k:Nat):Prop:=k=4∨k=6
instance (k:Nat):Decidable (twoK k):=by unfold twoK;infer_instance
def begL (m g:List ByteArray):Prop:=g.length < m.length∧m.take g.length=g
instance (m g:List ByteArray):Decidable (begL m g):=by unfold begL;infer_instance
def cutB (b:List Nat) (n:Nat):List Nat:=b.take n++List.replicate (n - b.length) 0
def wrB (b:List Nat) (a:Nat) (x:List Nat):List Nat:=cutB b a++(x++b.drop (a+x.length))
def bytF (T:TT) (c:AC) (j:Nat) (n:ND):TT×AN:=
 if n.k≠2 then (T,erA 14) else if c.a < 0∨c.n < 0 then (T,erA 2)
 else if c.k=9 then (T,{ erA 0 with b:=(n.b.drop c.a.toNat).take c.n.toNat })
 else if c.k=8 then (if 8*T.p < c.n.toNat then (T,erA 3) else (⟨T.p,bytE T.l j (cutB n.b c.n.toNat)⟩,erA 0))
 else if c.b=[] then (T,erA 0)
 else if 8*T.p < c.a.toNat+c.b.length then (T,erA 3)
 else (⟨T.p,bytE T.l j (wrB n.b c.a.toNat c.b)⟩,{ erA 0 with n:=c.b.length })
def wayE (T:TT) (v:Nat) (n:ND):Nat:=if v=0 then 0 else match ndI T.l v with
 | none=>0
 | some x=>if x.k≠n.k then 14 else if x.ns≠[] then 15 else 0
def zbk (T:TT) (r:Nat) (nm:ByteArray) (v:Nat):List ND:=if v=0 then T.l else match ndI T.l v with
 | none=>T.l
 | some x=>zba T.l r nm v x.l
def mvF (T:TT) (g m:List ByteArray) (q j r v:Nat) (n:ND):TT×AN:=
 if g=[]∨m=[]∨begL m g then (T,erA 2) else if j=v then (T,erA 0)
 else if wayE T v n≠0 then (T,erA (wayE T v n))
 else if 6 < m.length+hgt T.l 8 j then (T,erA 3)
 else (⟨T.p,moveE (zbk T r (lst m) v) q (lst g) r (lst m) j⟩,erA 0)
def mkF (T:TT) (c:AC) (g:List ByteArray) (q j:Nat):TT×AN:=
 if j≠0 then (T,erA 13) else if 48≤T.l.length then (T,erA 3) else (⟨T.p,makeE T.l q (lst g) c.k⟩,{ erA 0 with i:=zbj T.l })
def rmF (T:TT) (g:List ByteArray) (q j:Nat) (n:ND):TT×AN:=
 if n.k≠1 then (T,erA 14) else if j=1 then (T,erA 2) else if n.ns≠[] then (T,erA 15) else (⟨T.p,zba T.l q (lst g) j n.l⟩,erA 0)
def lnF (T:TT) (m:List ByteArray) (j r v:Nat) (n:ND):TT×AN:=
 if n.k≠2 then (T,erA 14) else if v≠0 then (T,erA 13) else if 6≤n.l then (T,erA 3) else (⟨T.p,linkE T.l r (lst m) j n.l⟩,erA 0)
def ulF (T:TT) (g:List ByteArray) (q j:Nat) (n:ND):TT×AN:=
 if n.k≠2 then (T,erA 14) else (⟨T.p,zba T.l q (lst g) j n.l⟩,erA 0)
def lsF (T:TT) (n:ND):TT×AN:=if n.k≠1 then (T,erA 14) else (T,{ erA 0 with ns:=n.ns.map (·.1) })
def actF (T:TT) (c:AC) (g m:List ByteArray) (q j r v:Nat):TT×AN:=
 if c.k=1∨c.k=2 then mkF T c g q j
 else if j=0 then (T,erA 12)
 else match ndI T.l j with
  | none=>(T,erA 12)
  | some n=>
   if c.k=3 then rmF T g q j n
   else if c.k=4 then lnF T m j r v n
   else if c.k=5 then ulF T g q j n
   else if c.k=6 then mvF T g m q j r v n
   else if c.k=10 then (T,{ erA 0 with i:=j,k:=n.k,l:=n.l,s:=n.b.length })
   else if c.k=11 then lsF T n
   else bytF T c j n
def doF (T:TT) (c:AC):TT×AN:=
 if c.k=0∨11 < c.k then (T,erA 2)
 else if peB c.p≠0 then (T,erA (peB c.p))
 else if twoK c.k∧peB c.t≠0 then (T,erA (peB c.t))
 else if (zad T.l (pnB c.p) 0 1).2.2≠0 then (T,erA (zad T.l (pnB c.p) 0 1).2.2)
 else if twoK c.k then
  (if (zad T.l (pnB c.t) 0 1).2.2≠0 then (T,erA (zad T.l (pnB c.t) 0 1).2.2)
   else actF T c (pnB c.p) (pnB c.t) (zad T.l (pnB c.p) 0 1).1 (zad T.l (pnB c.p) 0 1).2.1 (zad T.l (pnB c.t) 0 1).1 (zad T.l (pnB c.t) 0 1).2.1)
 else actF T c (pnB c.p) [] (zad T.l (pnB c.p) 0 1).1 (zad T.l (pnB c.p) 0 1).2.1 0 0
theorem pnB_len (s:ByteArray):(pnB s).length≤6:=by unfold pnB;rw[List.length_map];exact zcc _
theorem pnB_name {s x:ByteArray} (h:x∈pnB s):nameB x=true:=by
 unfold pnB at h;obtain⟨y,hy,rfl⟩:=List.mem_map.1 h;exact List.all_eq_true.1 (pN_names (l:=s.data.toList)) y hy
theorem lst_app (l:List ByteArray) (x:ByteArray):lst (l++[x])=x:=by unfold lst;simp
theorem LkP.dir {T:TT} (h:Rt T) {d:Nat→Nat} (hd:Deep T.l d) {g:List ByteArray} {q j:Nat} (hp:LkP T.l g q j) (hne:g≠[]∨j≠1):
  ∃l n,g=l++[lst g]∧Way T.l l q∧n∈T.l∧n.i=q∧n.k=1∧j=entF n.ns (lst g)∧d q+1=g.length:=by
 rcases hp.here with ⟨rfl,rfl,rfl⟩|⟨l,x,n,rfl,hw,hn,hk,hj⟩
 ·rcases hne with h|h<;>exact absurd rfl h
 ·obtain⟨h1,h2⟩:=zaa hn;refine⟨l,n,by rw[lst_app],hw,h1,h2,hk,by rw[lst_app];exact hj,?_⟩
  have:=hw.dep h hd n hn hk
  simp;omega
theorem LkP.ent {T:TT} {g:List ByteArray} {q j:Nat} (hp:LkP T.l g q j) (h1:j≠1) (h0:j≠0):∃n∈T.l,n.i=q∧n.k=1∧(lst g,j)∈n.ns∧g≠[]:=by
 rcases hp.here with ⟨rfl,rfl,rfl⟩|⟨l,x,n,rfl,hw,hn,hk,hj⟩
 ·exact absurd rfl h1
 ·obtain⟨a1,a2⟩:=zaa hn;refine⟨n,a1,a2,hk,?_,by simp⟩;rw[lst_app,hj];exact zcl (by rw[←hj];exact h0)
theorem LkP.way {T:TT} {g:List ByteArray} {q j:Nat} (hp:LkP T.l g q j) (h0:j≠0):Way T.l g j:=by
 rcases hp.here with ⟨rfl,rfl,rfl⟩|⟨l,x,n,rfl,hw,hn,hk,hj⟩
 ·exact .root
 ·obtain⟨a1,a2⟩:=zaa hn;subst a2 hj;exact Way.more (e:=(x,entF n.ns x)) hw a1 (zcl h0)
theorem lst_mem {g:List ByteArray} (h:g≠[]):lst g∈g:=by
 unfold lst;rw[List.getLastD_eq_getLast?,List.getLast?_eq_some_getLast h];exact List.getLast_mem h
theorem zci {ns:List (ByteArray×Nat)} {x:ByteArray} (hz:∀e∈ns,e.2≠0) (h:0=entF ns x):¬zbn x ns:=fun hh=>hz _ (entF_mem hh) h.symm
theorem Rt.ent_ne {T:TT} (h:Rt T) {n:ND} (hn:n∈T.l):∀e∈n.ns,e.2≠0:=fun e he e0=>by
 obtain⟨m,hm,hi⟩:=zav.1 (h.ent n hn e he)
 have:=(h.rng m hm).1
 omega
theorem rt_mk {T:TT} (h:Rt T) {c:AC} {g:List ByteArray} {q j:Nat} (hp:LkP T.l g q j) (hg:g.length≤6) (hb:∀x∈g,nameB x=true) (hk:c.k=1∨c.k=2):Rt (mkF T c g q j).1:=by
 unfold mkF
 split
 ·exact h
 ·rename_i hj
  obtain rfl:j=0:=by omega
  split
  ·exact h
  ·obtain⟨d,hd⟩:=h.dep;obtain⟨l,n,hgl,hw,hn,rfl,hkd,hj2,hdl⟩:=hp.dir h hd (.inr (by omega))
   have hgne:g≠[]:=by rw[hgl];simp
   exact rt_make h hn hkd (hb _ (lst_mem hgne)) (zci (h.ent_ne hn) hj2) (by omega) hk hd (by omega)
theorem rt_rm {T:TT} (h:Rt T) {g:List ByteArray} {q j:Nat} {n:ND} (hp:LkP T.l g q j) (h0:j≠0) (hn:ndI T.l j=some n):Rt (rmF T g q j n).1:=by
 unfold rmF
 repeat' split
 all_goals (try exact h)
 rename_i h1 h2 h3
 obtain⟨a1,rfl⟩:=zaa hn;obtain⟨m,hm,rfl,hk,he,_⟩:=hp.ent h2 h0;exact rt_lose h hm a1 he (by simpa using h3)
theorem rt_ul {T:TT} (h:Rt T) {g:List ByteArray} {q j:Nat} {n:ND} (hp:LkP T.l g q j) (h0:j≠0) (hn:ndI T.l j=some n):Rt (ulF T g q j n).1:=by
 unfold ulF
 split
 ·exact h
 ·rename_i h1
  obtain⟨a1,rfl⟩:=zaa hn
  have hk1:n.k≠1:=by omega
  have hj:n.i≠1:=fun e=>by
   obtain⟨r,hr,hrk⟩:=h.one;rw[e,hr] at hn
   injection hn with hn
   subst hn;exact hk1 hrk
  obtain⟨m,hm,rfl,hk,he,_⟩:=hp.ent hj h0;exact rt_lose h hm a1 he (zbd (h.fin n a1) hk1).2.2.2.1
theorem rt_ln {T:TT} (h:Rt T) {m:List ByteArray} {j r v:Nat} {n:ND} (hp:LkP T.l m r v) (hm6:m.length≤6) (hb:∀x∈m,nameB x=true) (hn:ndI T.l j=some n):Rt (lnF T m j r v n).1:=by
 unfold lnF
 repeat' split
 all_goals (try exact h)
 rename_i h1 h2 h3
 obtain rfl:v=0:=by omega
 obtain⟨a1,rfl⟩:=zaa hn;obtain⟨d,hd⟩:=h.dep;obtain⟨l,q,hgl,hw,hq,rfl,hkd,hj2,hdl⟩:=hp.dir h hd (.inr (by omega))
 have hgne:m≠[]:=by rw[hgl];simp
 exact rt_link h hq hkd (hb _ (lst_mem hgne)) (zci (h.ent_ne hq) hj2) a1 (by omega) (by omega) hd (by omega)
theorem rt_by {T:TT} (h:Rt T) {c:AC} {j:Nat} {n:ND} (hb:∀x∈c.b,x < 256) (hn:ndI T.l j=some n):Rt (bytF T c j n).1:=by
 obtain⟨a1,rfl⟩:=zaa hn;unfold bytF
 split
 ·exact h
 rename_i hk
 have hf:=zbd (h.fin n a1) (by omega);have hb2:=(h.fin n a1).2.2.1
 have hcut:∀k,∀x∈cutB n.b k,x < 256:=fun k x hx=>by
  unfold cutB at hx
  rcases List.mem_append.1 hx with hx|hx
  ·exact hb2 x (List.mem_of_mem_take hx)
  ·have:=List.eq_of_mem_replicate hx;omega
 have hcl:∀k,(cutB n.b k).length=k:=fun k=>by unfold cutB;simp;omega
 repeat' split
 all_goals (try exact h)
 ·exact rt_byt h a1 (by omega) (hcut _) (by rw[hcl];omega)
 ·refine rt_byt h a1 (by omega) (fun x hx=>?_) ?_
  ·unfold wrB at hx
   rcases List.mem_append.1 hx with hx|hx
   ·exact hcut _ x hx
   ·rcases List.mem_append.1 hx with hx|hx
    ·exact hb x hx
    ·exact hb2 x (List.mem_of_mem_drop hx)
  ·unfold wrB;rw[List.length_append,hcl,List.length_append,List.length_drop];omega
theorem hgt_mono {L L':List ND} (hs:∀j n',ndI L' j=some n'→∃n,ndI L j=some n∧∀e∈n'.ns,e∈n.ns):∀f j,hgt L' f j≤hgt L f j
 | 0,_=>Nat.le_refl _
 | f+1,j=>by
  have ih:=hgt_mono hs f;unfold hgt
  cases hn:ndI L' j with
  | none=>exact Nat.zero_le _
  | some n'=>
   obtain⟨n,h1,h2⟩:=hs j n' hn;rw[h1]
   show hgtN (hgt L' f) n'.ns≤hgtN (hgt L f) n.ns
   revert h2
   generalize n'.ns=ns;intro h2
   induction ns with
   | nil=>exact Nat.zero_le _
   | cons e r ih2=>
    have a:=hgtN_le (f:=hgt L f) (h2 e (List.mem_cons_self ..));have b:=ih e.2
    have c:=ih2 fun x hx=>h2 x (List.mem_cons_of_mem _ hx)
    exact Nat.max_le.2 ⟨by omega,c⟩
theorem und_mono {L L':List ND} (hs:∀n'∈L',∃n∈L,n.i=n'.i∧∀e∈n'.ns,e∈n.ns) {a c:Nat} (h:Und L' a c):Und L a c:=by
 induction h with
 | here=>exact .here
 | more _ hn he ih=>
  obtain⟨n,h1,h2,h3⟩:=hs _ hn;rw[←h2] at ih;exact .more ih h1 (h3 _ he)
theorem lose_sub {L:List ND} {q:Nat} {nm:ByteArray} {j v:Nat}:∀n'∈zba L q nm j v,∃n∈L,n.i=n'.i∧n.k=n'.k∧∀e∈n'.ns,e∈n.ns:=by
 intro n' hn
 have hdel:∀m∈delE L q nm,∃n∈L,n.i=m.i∧n.k=m.k∧∀e∈m.ns,e∈n.ns:=fun m hm=>by
  rcases zap.1 hm with ⟨x,hx,_,rfl⟩|⟨hx,_⟩
  ·exact⟨x,hx,rfl,rfl,fun e he=>(zbs.1 he).1⟩
  ·exact⟨m,hx,rfl,rfl,fun _ he=>he⟩
 unfold zba at hn
 split at hn
 ·exact hdel n' (zcr.1 hn).1
 ·rcases zap.1 hn with ⟨x,hx,_,rfl⟩|⟨hx,_⟩
  ·exact hdel x hx
  ·exact hdel n' hx
theorem lose_deep {L:List ND} {d:Nat→Nat} (hd:Deep L d) (q:Nat) (nm:ByteArray) (j v:Nat):Deep (zba L q nm j v) d:=by
 unfold zba
 split
 ·exact deep_rem (deep_del hd _ _) _
 ·exact deep_lnk (deep_del hd _ _) _ _
theorem zcz {L:List ND} {q:Nat} {nm:ByteArray} {j v:Nat} {n:ND} (hn:n∈L) (hj:n.i≠j):(if n.i=q then { n with ns:=zaq nm n.ns } else n)∈zba L q nm j v:=by
 have h1:(if n.i=q then { n with ns:=zaq nm n.ns } else n)∈delE L q nm:=by
  split
  ·rename_i e;exact zap.2 (.inl ⟨n,hn,e,rfl⟩)
  ·rename_i e;exact zap.2 (.inr ⟨hn,e⟩)
 have h2:(if n.i=q then { n with ns:=zaq nm n.ns } else n:ND).i≠j:=by split<;>exact hj
 unfold zba
 split
 ·exact zcr.2 ⟨h1,h2⟩
 ·exact zap.2 (.inr ⟨h1,h2⟩)
theorem rt_mv {T:TT} (h:Rt T) {g m:List ByteArray} {q j r v:Nat} {n:ND} (hp:LkP T.l g q j) (hp2:LkP T.l m r v) (hb:∀x∈m,nameB x=true) (h0:j≠0) (hn:ndI T.l j=some n):Rt (mvF T g m q j r v n).1:=by
 unfold mvF
 repeat' split
 all_goals (try exact h)
 rename_i h1 h2 h3 h4
 simp only[not_or] at h1;obtain⟨hg,hm,hbeg⟩:=h1;obtain⟨a1,rfl⟩:=zaa hn;obtain⟨d,hd⟩:=h.dep;have hbm:=hb _ (lst_mem hm);obtain⟨l,qn,hgl,hw,hqn,rfl,hqk,hje,hdl⟩:=hp.dir h hd (.inl hg)
 have hent:(lst g,n.i)∈qn.ns:=by rw[hje];exact zcl (by rw[←hje];exact h0)
 obtain⟨l2,rn,hml,hw2,hrn,rfl,hrk,hve,hdl2⟩:=hp2.dir h hd (.inl hm)
 have hu:¬Und T.l n.i rn.i:=fun hu=>by
  by_cases hk:n.k=1
  ·obtain⟨s,hs⟩:=(hp.way h0).und hu
   have:=hw2.uniq h hs (zbf h.ord hrn) hrk
   refine hbeg ⟨?_,?_⟩
   ·rw[hml,this];simp
   ·rw[hml,this,List.append_assoc,List.take_left' rfl]
  ·have hns:=(zbd (h.fin n a1) hk).2.2.2.1
   have hrn2:rn.i≠n.i:=fun e=>by have:=zbe h.ord hrn a1 e;subst this;exact hk hrk
   obtain⟨k,hkd⟩:=hu.dn;generalize hz:rn.i=z at hkd hrn2;generalize hy:n.i=y at hkd hrn2
   cases hkd with
   | here=>exact hrn2 rfl
   | step x1 x2 _=>
    have:=zbe h.ord x1 a1 hy.symm
    subst this;rw[hns] at x2;cases x2
 have h6:d rn.i+1+hgt T.l 8 n.i≤6:=by omega
 by_cases hv:v=0
 ·subst hv
  have hlv:zbk T rn.i (lst m) 0=T.l:=by unfold zbk;rw[if_pos rfl]
  rw[hlv];have hno:=zci (h.ent_ne hrn) hve;refine rt_move h hqn hrn hrk a1 hent hbm ?_ hu hd h6
  split
  ·exact fun ⟨e,he,hh⟩=>hno ⟨e,(zbs.1 he).1,hh⟩
  ·exact hno
 ·have hven:(lst m,v)∈rn.ns:=by rw[hve];exact zcl (by rw[←hve];exact hv)
  obtain⟨x,hx⟩:=ndI_of (h.ent _ hrn _ hven);obtain⟨b1,b2⟩:=zaa hx;have b2:x.i=v:=b2
  have hwx:x.k=n.k∧x.ns=[]:=by
   unfold wayE at h3;rw[if_neg hv,hx] at h3;simp only at h3
   by_cases e1:x.k=n.k
   ·by_cases e2:x.ns=[]
    ·exact⟨e1,e2⟩
    ·rw[if_neg (by simpa using e1),if_pos e2] at h3;simp at h3
   ·rw[if_pos e1] at h3;simp at h3
  have hlv:zbk T rn.i (lst m) v=zba T.l rn.i (lst m) v x.l:=by
   unfold zbk;rw[if_neg hv]
   show (match ndI T.l v with|none=>T.l|some x=>zba T.l rn.i (lst m) v x.l)=_
   rw[show ndI T.l v=some x from hx]
  rw[hlv]
  have hR:Rt ⟨T.p,zba T.l rn.i (lst m) v x.l⟩:=by
   have:=rt_lose h hrn b1 (nm:=lst m) (by rw[b2];exact hven) hwx.2
   rw[b2] at this;exact this
  have hqv:qn.i≠v:=fun e=>by
   have:=zbe h.ord hqn b1 (by rw[b2];exact e)
   subst this;rw[hwx.2] at hent;cases hent
  have hrv:rn.i≠v:=fun e=>by
   have:=zbe h.ord hrn b1 (by rw[b2];exact e)
   subst this;rw[hwx.2] at hven;cases hven
  have hq1:=zcz (q:=rn.i) (nm:=lst m) (v:=x.l) hqn hqv;have hr1:=zcz (q:=rn.i) (nm:=lst m) (v:=x.l) hrn hrv;have hn1:=zcz (q:=rn.i) (nm:=lst m) (v:=x.l) a1 h2;rw[if_pos rfl] at hr1
  have hnr:n.i≠rn.i:=fun e=>hu (by rw[←e];exact .here)
  rw[if_neg hnr] at hn1;have hds:=lose_deep hd rn.i (lst m) v x.l
  have hsub:∀n'∈zba T.l rn.i (lst m) v x.l,∃n∈T.l,n.i=n'.i∧∀e∈n'.ns,e∈n.ns:=fun n' hn'=>by
   obtain⟨y,y1,y2,_,y3⟩:=lose_sub n' hn';exact⟨y,y1,y2,y3⟩
  have hu':¬Und (zba T.l rn.i (lst m) v x.l) n.i rn.i:=fun hh=>hu (und_mono hsub hh)
  have hh:hgt (zba T.l rn.i (lst m) v x.l) 8 n.i≤hgt T.l 8 n.i:=hgt_mono (fun k n' hn'=>by
   obtain⟨y1,y2⟩:=zaa hn';obtain⟨y,z1,z2,z3⟩:=hsub n' y1
   exact⟨y,by rw[←y2,←z2];exact zbf h.ord z1,z3⟩) 8 n.i
  have hno:¬zbn (lst m) (zaq (lst m) rn.ns):=fun ⟨e,he,hh⟩=>(zbs.1 he).2 hh
  by_cases hqr:qn.i=rn.i
  ·have hqe:=zbe h.ord hqn hrn hqr;subst hqe;rw[if_pos rfl] at hq1
   have hnm:lst g≠lst m:=fun e=>by
    rw[e] at hent
    have:=ns_uniq (h.fin _ hrn).1 hent hven rfl
    exact h2 (congrArg (·.2) this)
   refine rt_move (q:={ qn with ns:=zaq (lst m) qn.ns }) (r:={ qn with ns:=zaq (lst m) qn.ns }) hR hq1 hr1 hrk hn1 (zbs.2 ⟨hent,hnm⟩) hbm ?_ hu' hds (by show d qn.i+1+_≤6;simp only;omega);rw[if_pos rfl]
   exact fun ⟨e,he,hh⟩=>(zbs.1 (zbs.1 he).1).2 hh
  ·rw[if_neg hqr] at hq1;refine rt_move (r:={ rn with ns:=zaq (lst m) rn.ns }) hR hq1 hr1 hrk hn1 hent hbm ?_ hu' hds (by show d rn.i+1+_≤6;simp only;omega);rw[if_neg (fun e=>hqr e.symm)];exact hno
theorem look_P {T:TT} (h:Rt T) {g:List ByteArray} (he:¬(zad T.l g 0 1).2.2≠0):LkP T.l g (zad T.l g 0 1).1 (zad T.l g 0 1).2.1:=by
 have h0:(zad T.l g 0 1).2.2=0:=by omega
 refine zbx h ?_;generalize zad T.l g 0 1=x at *;obtain⟨a,b,e⟩:=x;simp only at h0;rw[h0]
theorem zce {T:TT} {g:List ByteArray} {q j:Nat} (h:Rt T) (hp:LkP T.l g q j) (h0:j≠0):∃n,ndI T.l j=some n:=(hp.way h0).node h
theorem rt_act {T:TT} (h:Rt T) {c:AC} {g m:List ByteArray} {q j r v:Nat} (hb:∀x∈c.b,x < 256) (hp:LkP T.l g q j) (hg:g.length≤6) (hgn:∀x∈g,nameB x=true)
  (hp2:twoK c.k→LkP T.l m r v) (hm:m.length≤6) (hmn:∀x∈m,nameB x=true):Rt (actF T c g m q j r v).1:=by
 unfold actF
 split
 ·exact rt_mk h hp hg hgn (by assumption)
 split
 ·exact h
 rename_i h0
 cases hn:ndI T.l j with
 | none=>exact h
 | some n=>
  simp only
  split
  ·exact rt_rm h hp h0 hn
  split
  ·rename_i h4;exact rt_ln h (hp2 (.inl h4)) hm hmn hn
  split
  ·exact rt_ul h hp h0 hn
  split
  ·rename_i h6;exact rt_mv h hp (hp2 (.inr h6)) hmn h0 hn
  split
  ·exact h
  split
  ·unfold lsF;split<;>exact h
  ·exact rt_by h hb hn
theorem rt_do {T:TT} (h:Rt T) (c:AC) (hb:∀x∈c.b,x < 256):Rt (doF T c).1:=by
 unfold doF
 repeat' split
 all_goals (try exact h)
 ·rename_i h4 h5 h6
  exact rt_act h hb (look_P h h4) (pnB_len _) (fun x hx=>pnB_name hx) (fun _=>look_P h h6) (pnB_len _) (fun x hx=>pnB_name hx)
 ·rename_i h4 h5
  exact rt_act h hb (look_P h h4) (pnB_len _) (fun x hx=>pnB_name hx) (fun hh=>absurd hh h5) (by simp) (by simp)
theorem rt_new {p:Nat} (h1:1≤p) (h2:p≤255):Rt ⟨p,[⟨1,1,1,[],[]⟩]⟩:=
 ⟨h1,h2,by simp,⟨_,_,rfl,rfl,rfl⟩,by simp[OrdN],by simp,by simp[Fine,OrdS],by simp,fun j=>by
  simp only[cntL,cntN,zar,ndI,List.countP_nil]
  split<;>(try split)<;>simp_all,⟨fun _=>0,rfl,by simp⟩⟩
end
end Go.Proofs.YtjjamoemheljdaaGreat
