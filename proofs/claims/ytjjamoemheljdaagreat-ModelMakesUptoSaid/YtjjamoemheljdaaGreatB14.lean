/-
  Layer 7: contracts (Pr Pn Pt Wb Py).
-/
import Derived.Test.YtjjamoemheljdaaGreatB13
import Derived.Test.YtjjamoemheljdaaGreatB06
namespace Go.Proofs.YtjjamoemheljdaaGreat
set_option maxRecDepth 100000
set_option maxHeartbeats 8000000
set_option linter.unusedSimpArgs false
set_option linter.unusedVariables false
section
open Go.RowKit
structure AE where
 a:AN
 B:Option Addr
 d:Nat
 T:Option Addr
 c:Nat
def AN.g (a:AN):List (List UInt8):=a.ns.map (·.data.toList)
def AIn (w:World) (x:AE):Prop:=Bts w x.B x.a.b.length x.a.b∧Txs w x.T x.a.ns.length x.a.g
theorem AIn.new {w w':World} {x:AE} (h:AIn w x) (hk:New w w'):AIn w' x:=⟨h.1.new hk,h.2.new hk⟩
end
section
open Go.RowKit
def RowQ (w:World) (p B:Nat) (A:Option Addr) (L:List ND) (e:Ending) (w':World):Prop:=
 ∃A' c' es,e=.returned (.agg #[.int .i64 p,.slice A' es.length c'])∧nds es=L∧TOwn w' B A' c' es∧Kept (blkIs A) w w'∧(A'=A∨∀a,A'=some a→w.heap.size≤a.block)
theorem RowP.q {w w':World} {p B c:Nat} {A:Option Addr} {L:List ND} {e:Ending} (h:RowP w p B A c L e w'):RowQ w p B A L e w':=by
 obtain⟨es,h1,h2,h3,h4⟩:=h
 exact⟨A,c,es,h1,h2,h3,h4,.inl rfl⟩
theorem del_take_eq {nm:ByteArray} {ns:List (ByteArray×Nat)} {t:Nat} {e:ByteArray×Nat} (he:ns[t]?=some e):delNm nm (ns.take (t+1))=if e.1=nm then delNm nm (ns.take t) else delNm nm (ns.take t)++[e]:=by
 unfold delNm;rw[List.take_add_one,he,Option.toList_some,List.filter_append]
 by_cases h:e.1=nm
 ·rw[if_pos h,List.filter_cons,if_neg (by simpa using h)];simp
 ·rw[if_neg h,List.filter_cons,if_pos (by simpa using h)];simp
theorem entF_app (a:List (ByteArray×Nat)) (e:ByteArray×Nat) (nm:ByteArray) (h:¬hasNm nm a):entF (a++[e]) nm=if e.1=nm then e.2 else 0:=by
 induction a with
 | nil=>rfl
 | cons x r ih=>
  have hx:x.1≠nm:=fun e=>h ⟨x,List.mem_cons_self ..,e⟩
  rw[List.cons_append,entF,if_neg hx]
  exact ih fun ⟨y,hy,hh⟩=>h ⟨y,List.mem_cons_of_mem _ hy,hh⟩
theorem entF_app2 (a:List (ByteArray×Nat)) (e:ByteArray×Nat) (nm:ByteArray) (h:e.1≠nm):entF (a++[e]) nm=entF a nm:=by
 induction a with
 | nil=>show (if e.1=nm then e.2 else 0)=0;rw[if_neg h]
 | cons x r ih=>
  rw[List.cons_append,entF,entF]
  by_cases hx:x.1=nm
  ·rw[if_pos hx,if_pos hx]
  ·rw[if_neg hx,if_neg hx,ih]
theorem entF_take {nm:ByteArray} {ns:List (ByteArray×Nat)} (ho:OrdS ns) {t:Nat} {e:ByteArray×Nat} (he:ns[t]?=some e):entF (ns.take (t+1)) nm=if e.1=nm then e.2 else entF (ns.take t) nm:=by
 rw[List.take_add_one,he,Option.toList_some]
 by_cases h:e.1=nm
 ·rw[if_pos h,entF_app _ _ _ ?_,if_pos h];rintro ⟨x,hx,hh⟩;obtain⟨i,hi⟩:=List.mem_iff_getElem?.1 hx
  have hit:i < t:=by have:=(List.getElem?_eq_some_iff.1 hi).1;rw[List.length_take] at this;omega
  have hi2:ns[i]?=some x:=by rw[List.getElem?_take,if_pos hit] at hi;exact hi
  have:=ordS_at ho hit hi2 he
  rw[hh,h] at this
  exact cmpS_irr _ this
 ·rw[if_neg h,entF_app2 _ _ _ h]
def lsN (v:Nat) (L:List ND):List ND:=(L.map fun n=>if n.i=v then { n with l:=n.l - 1 } else n).filter fun n=>decide (0 < n.l)
theorem lsN_app (v:Nat) (L:List ND) (n:ND):lsN v (L++[n])=lsN v L++(if 0 < (if n.i=v then n.l - 1 else n.l) then [if n.i=v then { n with l:=n.l - 1 } else n] else []):=by
 unfold lsN;rw[List.map_append,List.filter_append]
 congr 1
 by_cases h:n.i=v
 ·simp only[List.map_cons,List.map_nil,if_pos h,List.filter_cons,List.filter_nil,decide_eq_true_eq]
 ·simp only[List.map_cons,List.map_nil,if_neg h,List.filter_cons,List.filter_nil,decide_eq_true_eq]
theorem lsN_lose {L:List ND} (ho:OrdN L) {n:ND} (hn:n∈L) (hl:∀m∈L,1≤m.l):lsN n.i L=if n.l=1 then remI L n.i else lnkE L n.i (n.l - 1):=by
 unfold lsN remI lnkE updI
 by_cases h1:n.l=1
 ·rw[if_pos h1,List.filter_map]
  have:∀m∈L,((fun m:ND=>decide (0 < m.l)) ∘ fun m=>if m.i=n.i then { m with l:=m.l - 1 } else m) m=decide (m.i≠n.i):=by
   intro m hm
   simp only[Function.comp]
   by_cases h:m.i=n.i
   ·have:=nd_uniq ho hm hn h
    subst this
    simp[h1]
   ·simp[h]
    have:=hl m hm
    omega
  rw[List.filter_congr this]
  conv=>rhs;rw[←List.map_id (List.filter _ L)]
  apply List.map_congr_left
  intro m hm
  have hm2:=(List.mem_filter.1 hm).2;rw[if_neg (by simpa using hm2)]
  rfl
 ·rw[if_neg h1];rw[List.filter_eq_self.2]
  ·apply List.map_congr_left
   intro m hm
   by_cases h:m.i=n.i
   ·have:=nd_uniq ho hm hn h
    subst this
    rfl
   ·rw[if_neg h,if_neg h]
  ·intro m hm
   obtain⟨x,hx,rfl⟩:=List.mem_map.1 hm
   have:=hl x hx
   by_cases h:x.i=n.i
   ·have:=nd_uniq ho hx hn h
    subst this
    simp;omega
   ·simp[h];omega
end
section
open Go.RowKit
def DoP (w:World) (p B:Nat) (A:Option Addr) (L:List ND) (a:AN) (e:Ending) (w':World):Prop:=
 ∃(A':Option Addr) (c':Nat) (es:List NE) (B':Option Addr) (d':Nat) (T':Option Addr) (t':Nat),
  e=.returned (.tuple #[.agg #[.int .i64 p,.slice A' es.length c'],
   .agg #[.int .i64 a.e,.int .i64 a.i,.int .i64 a.n,.int .u8 a.k,.int .i64 a.l,.int .i64 a.s,.slice B' a.b.length d',.slice T' a.ns.length t']]) ∧
  nds es=L∧TOwn w' B A' c' es∧OwnB w' 5 w.heap.size B' d' a.b∧Txs w' T' a.ns.length a.g∧Kept (blkIs A) w w'∧∀x,T'=some x→At w' x.block 9
def laid (u:World) (rt ra:Nat) (p:Nat) (A:Option Addr) (n c:Nat) (a:AN) (B':Option Addr) (m d':Nat) (T':Option Addr) (q t':Nat):World:=
 (((((((((u.setCell ⟨rt,0,none⟩ (.int .i64 p)).setCell ⟨rt,1,none⟩ (.slice A n c)).setCell ⟨ra,0,none⟩ (.int .i64 a.e)).setCell ⟨ra,1,none⟩ (.int .i64 a.i)).setCell ⟨ra,2,none⟩ (.int .i64 a.n)).setCell ⟨ra,3,none⟩ (.int .u8 a.k)).setCell ⟨ra,4,none⟩ (.int .i64 a.l)).setCell ⟨ra,5,none⟩ (.int .i64 a.s)).setCell ⟨ra,6,none⟩ (.slice B' m d')).setCell ⟨ra,7,none⟩ (.slice T' q t')
theorem laid_kept {u:World} {rt ra p:Nat} {A:Option Addr} {n c:Nat} {a:AN} {B':Option Addr} {m d':Nat} {T':Option Addr} {q t':Nat}:Kept (fun b=>b=rt∨b=ra) u (laid u rt ra p A n c a B' m d' T' q t'):=by
 unfold laid;refine ((((((((((Kept.refl _ u).setCell (p:=⟨rt,0,none⟩) ?_ _).setCell (p:=⟨rt,1,none⟩) ?_ _).setCell (p:=⟨ra,0,none⟩) ?_ _).setCell (p:=⟨ra,1,none⟩) ?_ _).setCell (p:=⟨ra,2,none⟩) ?_ _).setCell (p:=⟨ra,3,none⟩) ?_ _).setCell (p:=⟨ra,4,none⟩) ?_ _).setCell (p:=⟨ra,5,none⟩) ?_ _).setCell (p:=⟨ra,6,none⟩) ?_ _).setCell (p:=⟨ra,7,none⟩) ?_ _
 ·exact fun _=>.inl rfl
 ·exact fun _=>.inl rfl
 all_goals exact fun _=>.inr rfl
theorem laid_blk {u:World} {rt ra p:Nat} {A:Option Addr} {n c:Nat} {a:AN} {B':Option Addr} {m d':Nat} {T':Option Addr} {q t':Nat} {v0 v1 z0 z1 z2 z3 z4 z5 z6 z7:Value} (ht:Blk u rt 25 [v0,v1]) (ha:Blk u ra 41 [z0,z1,z2,z3,z4,z5,z6,z7]):
  Blk (laid u rt ra p A n c a B' m d' T' q t') rt 25 [.int .i64 p,.slice A n c] ∧
   Blk (laid u rt ra p A n c a B' m d' T' q t') ra 41 [.int .i64 a.e,.int .i64 a.i,.int .i64 a.n,.int .u8 a.k,.int .i64 a.l,.int .i64 a.s,.slice B' m d',.slice T' q t']:=by
 have hne:¬rt=ra:=fun e=>ht.at_.ne_of ha.at_ (by decide) e
 have hne2:¬ra=rt:=fun e=>hne e.symm
 have t2:=(ht.put 0 (.int .i64 p)).put 1 (.slice A n c)
 have a2:Blk ((u.setCell ⟨rt,0,none⟩ (.int .i64 p)).setCell ⟨rt,1,none⟩ (.slice A n c)) ra 41 [z0,z1,z2,z3,z4,z5,z6,z7]:=
  (ha.kept (Kept.set1 u rt 0 (.int .i64 p)) hne2).kept (Kept.set1 _ rt 1 (.slice A n c)) hne2
 have a10:=(((((((a2.put 0 (.int .i64 a.e)).put 1 (.int .i64 a.i)).put 2 (.int .i64 a.n)).put 3 (.int .u8 a.k)).put 4 (.int .i64 a.l)).put 5 (.int .i64 a.s)).put 6 (.slice B' m d')).put 7 (.slice T' q t');refine⟨?_,a10⟩;unfold laid
 exact (((((((t2.kept (Kept.set1 _ ra 0 _) hne).kept (Kept.set1 _ ra 1 _) hne).kept (Kept.set1 _ ra 2 _) hne).kept (Kept.set1 _ ra 3 _) hne).kept (Kept.set1 _ ra 4 _) hne).kept (Kept.set1 _ ra 5 _) hne).kept (Kept.set1 _ ra 6 _) hne).kept (Kept.set1 _ ra 7 _) hne
theorem laid_do {w u:World} {rt ra p B:Nat} {A A0:Option Addr} {n c:Nat} {a:AN} {B':Option Addr} {m d':Nat} {T':Option Addr} {q t':Nat} {es:List NE} {L:List ND} {v0 v1 z0 z1 z2 z3 z4 z5 z6 z7:Value} (ht:Blk u rt 25 [v0,v1]) (ha:Blk u ra 41 [z0,z1,z2,z3,z4,z5,z6,z7])
  (hrt:w.heap.size≤rt) (hra:w.heap.size≤ra) (hes:TOwn u B A c es) (hn:es.length=n) (hL:nds es=L) (hb:OwnB u 5 w.heap.size B' d' a.b) (hm:a.b.length=m) (hT:Txs u T' q a.g) (hTa:∀x,T'=some x→At u x.block 9) (hq:a.ns.length=q) (hk:Kept (blkIs A0) w u):
  DoP w p B A0 L a (.returned (.tuple #[.agg #[.int .i64 p,.slice A n c],.agg #[.int .i64 a.e,.int .i64 a.i,.int .i64 a.n,.int .u8 a.k,.int .i64 a.l,.int .i64 a.s,.slice B' m d',.slice T' q t']])) (laid u rt ra p A n c a B' m d' T' q t'):=by
 subst hn hm hq;have hK:=laid_kept (u:=u) (rt:=rt) (ra:=ra) (p:=p) (A:=A) (n:=es.length) (c:=c) (a:=a) (B':=B') (m:=a.b.length) (d':=d') (T':=T') (q:=a.ns.length) (t':=t')
 have far:∀(g:Nat) (t:TypeId),At u g t→t≠25→t≠41→¬(g=rt∨g=ra):=fun g t hg h1 h2 h=>by
  rcases h with rfl|rfl
  ·exact hg.ne_of ht.at_ h1 rfl
  ·exact hg.ne_of ha.at_ h2 rfl
 refine⟨A,c,es,B',d',T',t',rfl,hL,⟨hes.1.kept hK fun x hx=>far _ _ (hes.1.at_ x hx).1 (by decide) (by decide),fun e he=>⟨(hes.2 e he).1.kept hK fun x hx=>far _ _ ((hes.2 e he).1.at_ x hx).1 (by decide) (by decide),(hes.2 e he).2.kept hK fun x hx=>far _ _ ((hes.2 e he).2.at_ x hx).1 (by decide) (by decide)⟩⟩,
  hb.kept hK fun x hx=>far _ _ (hb.at_ x hx).1 (by decide) (by decide),hT.kept hK fun x hx=>far _ _ (hTa x hx) (by decide) (by decide),hk.trans hK fun i hi h=>?_,fun x hx=>(hTa x hx).kept hK (far _ _ (hTa x hx) (by decide) (by decide))⟩
 rcases h with rfl|rfl
 ·exact absurd hi (Nat.not_lt.2 hrt)
 ·exact absurd hi (Nat.not_lt.2 hra)
end
section
open Go.RowKit
def LT (w0 w:World) (g p:Nat) (L:List ND):Prop:=
 ∃A c es,Blk w g 25 [.int .i64 p,.slice A es.length c]∧TOwn w w0.heap.size A c es∧nds es=L∧New w0 w∧w0.heap.size≤g
def LA (w0 w:World) (g:Nat) (a:AN):Prop:=
 ∃B' d' T' t',Blk w g 41 [.int .i64 a.e,.int .i64 a.i,.int .i64 a.n,.int .u8 a.k,.int .i64 a.l,.int .i64 a.s,.slice B' a.b.length d',.slice T' a.ns.length t'] ∧
  OwnB w 5 w0.heap.size B' d' a.b∧Txs w T' a.ns.length a.g∧(∀x,T'=some x→At w x.block 9)∧w0.heap.size≤g
theorem LT.new {w0 w w':World} {g p:Nat} {L:List ND} (h:LT w0 w g p L) (hk:New w w'):LT w0 w' g p L:=by
 obtain⟨A,c,es,h1,h2,h3,h4,h5⟩:=h
 exact⟨A,c,es,h1.kept hk id,h2.new hk,h3,h4.new hk,h5⟩
theorem LA.new {w0 w w':World} {g:Nat} {a:AN} (h:LA w0 w g a) (hk:New w w'):LA w0 w' g a:=by
 obtain⟨B',d',T',t',h1,h2,h3,h4,h5⟩:=h
 exact⟨B',d',T',t',h1.kept hk id,h2.new hk,h3.new hk,fun x hx=>(h4 x hx).kept hk id,h5⟩
theorem LA.far {w0 w w':World} {g rt ra:Nat} {a:AN} (h:LA w0 w g a) (hk:Kept (fun b=>b=rt∨b=ra) w w') (ht:At w rt 25) (ha:At w ra 41) (hg:¬g=ra):LA w0 w' g a:=by
 obtain⟨B',d',T',t',h1,h2,h3,h4,h5⟩:=h
 have far:∀(b:Nat) (t:TypeId),At w b t→t≠25→t≠41→¬(b=rt∨b=ra):=fun b t hb q1 q2 q=>by
  rcases q with rfl|rfl
  ·exact hb.ne_of ht q1 rfl
  ·exact hb.ne_of ha q2 rfl
 have hgt:¬(g=rt∨g=ra):=fun q=>by
  rcases q with rfl|rfl
  ·exact h1.at_.ne_of ht (by decide) rfl
  ·exact hg rfl
 exact⟨B',d',T',t',h1.kept hk hgt,h2.kept hk fun x hx=>far _ _ (h2.at_ x hx).1 (by decide) (by decide),h3.kept hk fun x hx=>far _ _ (h4 x hx) (by decide) (by decide),fun x hx=>(h4 x hx).kept hk (far _ _ (h4 x hx) (by decide) (by decide)),h5⟩
theorem LT.far {w0 w w':World} {g rt ra p:Nat} {L:List ND} (h:LT w0 w g p L) (hk:Kept (fun b=>b=rt∨b=ra) w w') (ht:At w rt 25) (ha:At w ra 41) (hg:¬g=rt) (hrt:w0.heap.size≤rt) (hra:w0.heap.size≤ra):LT w0 w' g p L:=by
 obtain⟨A,c,es,h1,h2,h3,h4,h5⟩:=h
 have far:∀(b:Nat) (t:TypeId),At w b t→t≠25→t≠41→¬(b=rt∨b=ra):=fun b t hb q1 q2 q=>by
  rcases q with rfl|rfl
  ·exact hb.ne_of ht q1 rfl
  ·exact hb.ne_of ha q2 rfl
 have hgt:¬(g=rt∨g=ra):=fun q=>by
  rcases q with rfl|rfl
  ·exact hg rfl
  ·exact h1.at_.ne_of ha (by decide) rfl
 refine⟨A,c,es,h1.kept hk hgt,⟨h2.1.kept hk fun x hx=>far _ _ (h2.1.at_ x hx).1 (by decide) (by decide),fun e he=>⟨(h2.2 e he).1.kept hk fun x hx=>far _ _ ((h2.2 e he).1.at_ x hx).1 (by decide) (by decide),(h2.2 e he).2.kept hk fun x hx=>far _ _ ((h2.2 e he).2.at_ x hx).1 (by decide) (by decide)⟩⟩,h3,h4.trans hk fun i hi q=>?_,h5⟩
 rcases q with rfl|rfl
 ·exact absurd hi (Nat.not_lt.2 hrt)
 ·exact absurd hi (Nat.not_lt.2 hra)
def laidN (u:World) (rt p:Nat) (A:Option Addr) (n c:Nat) (a:AN) (B':Option Addr) (m d':Nat) (T':Option Addr) (q t':Nat):World:=
 ((u.setCell ⟨rt,0,none⟩ (.int .i64 p)).setCell ⟨rt,1,none⟩ (.slice A n c)).alloc (.cells #[.int .i64 a.e,.int .i64 a.i,.int .i64 a.n,.int .u8 a.k,.int .i64 a.l,.int .i64 a.s,.slice B' m d',.slice T' q t'] 41)
theorem laidN_kept {u:World} {rt p:Nat} {A:Option Addr} {n c:Nat} {a:AN} {B':Option Addr} {m d':Nat} {T':Option Addr} {q t':Nat}:Kept (·=rt) u (laidN u rt p A n c a B' m d' T' q t'):=by
 unfold laidN;have h0:Kept (·=rt) u u:=Kept.refl _ u
 exact ((h0.setCell (p:=⟨rt,0,none⟩) (fun _=>rfl) _).setCell (p:=⟨rt,1,none⟩) (fun _=>rfl) _).alloc _
theorem lt_laidN {w0 u:World} {rt p B B2:Nat} {A:Option Addr} {n c:Nat} {a:AN} {B':Option Addr} {m d':Nat} {T':Option Addr} {q t':Nat} {es:List NE} {L:List ND} {v0 v1:Value} (ht:Blk u rt 25 [v0,v1])
  (hrt:w0.heap.size≤rt) (hes:TOwn u B A c es) (hB:w0.heap.size≤B) (hn:es.length=n) (hL:nds es=L) (hb:OwnB u 5 B2 B' d' a.b) (hB2:w0.heap.size≤B2) (hm:a.b.length=m) (hT:Txs u T' q a.g) (hTa:∀x,T'=some x→At u x.block 9) (hq:a.ns.length=q) (hk:New w0 u):
  LT w0 (laidN u rt p A n c a B' m d' T' q t') rt p L∧LA w0 (laidN u rt p A n c a B' m d' T' q t') u.heap.size a:=by
 subst hn hm hq;have hK:=laidN_kept (u:=u) (rt:=rt) (p:=p) (A:=A) (n:=es.length) (c:=c) (a:=a) (B':=B') (m:=a.b.length) (d':=d') (T':=T') (q:=a.ns.length) (t':=t')
 have far:∀(b:Nat) (t:TypeId),At u b t→t≠25→¬b=rt:=fun b t hb q1 q=>by
  subst q
  exact hb.ne_of ht.at_ q1 rfl
 have hN:New w0 (laidN u rt p A es.length c a B' a.b.length d' T' a.ns.length t'):=hk.trans hK fun i hi q=>by
  subst q
  exact absurd hi (Nat.not_lt.2 hrt)
 have hes2:=hes.mono hB;have hb2:=hb.mono hB2;have h1:Blk (laidN u rt p A es.length c a B' a.b.length d' T' a.ns.length t') rt 25 [.int .i64 p,.slice A es.length c]:=((ht.put 0 _).put 1 _).alloc _
 have h2:Blk (laidN u rt p A es.length c a B' a.b.length d' T' a.ns.length t') u.heap.size 41 [.int .i64 a.e,.int .i64 a.i,.int .i64 a.n,.int .u8 a.k,.int .i64 a.l,.int .i64 a.s,.slice B' a.b.length d',.slice T' a.ns.length t']:=by
  have:=Blk.made ((u.setCell ⟨rt,0,none⟩ (.int .i64 p)).setCell ⟨rt,1,none⟩ (.slice A es.length c)) 41 #[.int .i64 a.e,.int .i64 a.i,.int .i64 a.n,.int .u8 a.k,.int .i64 a.l,.int .i64 a.s,.slice B' a.b.length d',.slice T' a.ns.length t']
  have hsz:((u.setCell ⟨rt,0,none⟩ (.int .i64 p)).setCell ⟨rt,1,none⟩ (.slice A es.length c)).heap.size=u.heap.size:=by simp[World.setCell]
  rw[hsz] at this
  exact this
 exact⟨⟨A,c,es,h1,⟨hes2.1.kept hK fun x hx=>far _ _ (hes2.1.at_ x hx).1 (by decide),fun e he=>⟨(hes2.2 e he).1.kept hK fun x hx=>far _ _ ((hes2.2 e he).1.at_ x hx).1 (by decide),(hes2.2 e he).2.kept hK fun x hx=>far _ _ ((hes2.2 e he).2.at_ x hx).1 (by decide)⟩⟩,hL,hN,hrt⟩,
  ⟨B',d',T',t',h2,hb2.kept hK fun x hx=>far _ _ (hb2.at_ x hx).1 (by decide),hT.kept hK fun x hx=>far _ _ (hTa x hx) (by decide),fun x hx=>(hTa x hx).kept hK (far _ _ (hTa x hx) (by decide)),hk.size⟩⟩
theorem LA.far1 {w0 w w':World} {g rt:Nat} {a:AN} (h:LA w0 w g a) (hk:Kept (·=rt) w w') (ht:At w rt 25):LA w0 w' g a:=by
 obtain⟨B',d',T',t',h1,h2,h3,h4,h5⟩:=h
 have far:∀(b:Nat) (t:TypeId),At w b t→t≠25→¬b=rt:=fun b t hb q1 q=>by
  subst q
  exact hb.ne_of ht q1 rfl
 exact⟨B',d',T',t',h1.kept hk (far _ _ h1.at_ (by decide)),h2.kept hk fun x hx=>far _ _ (h2.at_ x hx).1 (by decide),h3.kept hk fun x hx=>far _ _ (h4 x hx) (by decide),fun x hx=>(h4 x hx).kept hk (far _ _ (h4 x hx) (by decide)),h5⟩
theorem lt_two {w0 u:World} {p B B2:Nat} {A:Option Addr} {n c:Nat} {a:AN} {B':Option Addr} {m d':Nat} {T':Option Addr} {q t':Nat} {es:List NE} {L:List ND}
  (hes:TOwn u B A c es) (hB:w0.heap.size≤B) (hn:es.length=n) (hL:nds es=L) (hb:OwnB u 5 B2 B' d' a.b) (hB2:w0.heap.size≤B2) (hm:a.b.length=m) (hT:Txs u T' q a.g) (hTa:∀x,T'=some x→At u x.block 9) (hq:a.ns.length=q) (hk:New w0 u):
  LT w0 ((u.alloc (.cells #[.int .i64 p,.slice A n c] 25)).alloc (.cells #[.int .i64 a.e,.int .i64 a.i,.int .i64 a.n,.int .u8 a.k,.int .i64 a.l,.int .i64 a.s,.slice B' m d',.slice T' q t'] 41)) u.heap.size p L ∧
   LA w0 ((u.alloc (.cells #[.int .i64 p,.slice A n c] 25)).alloc (.cells #[.int .i64 a.e,.int .i64 a.i,.int .i64 a.n,.int .u8 a.k,.int .i64 a.l,.int .i64 a.s,.slice B' m d',.slice T' q t'] 41)) (u.heap.size+1) a:=by
 subst hn hm hq;have k1:New u (u.alloc (.cells #[.int .i64 p,.slice A es.length c] 25)):=kR.alloc _;have k2:=k1.alloc (.cells #[.int .i64 a.e,.int .i64 a.i,.int .i64 a.n,.int .u8 a.k,.int .i64 a.l,.int .i64 a.s,.slice B' a.b.length d',.slice T' a.ns.length t'] 41);have h2:=Blk.made (u.alloc (.cells #[.int .i64 p,.slice A es.length c] 25)) 41 #[.int .i64 a.e,.int .i64 a.i,.int .i64 a.n,.int .u8 a.k,.int .i64 a.l,.int .i64 a.s,.slice B' a.b.length d',.slice T' a.ns.length t'];rw[World.size_alloc] at h2
 exact⟨⟨A,c,es,(Blk.made u _ _).alloc _,(hes.mono hB).new k2,hL,hk.new k2,hk.size⟩,
  ⟨B',d',T',t',h2,(hb.mono hB2).new k2,hT.new k2,fun x hx=>(hTa x hx).kept k2 id,Nat.le_trans hk.size (Nat.le_succ _)⟩⟩
end
section
theorem Rt.l1 {T:TT} (h:Rt T):∀m∈T.l,1≤m.l∧m.l≤1000000:=fun m hm=>by
 by_cases hk:m.k=1
 ·have:=(fine_dir (h.fin m hm) hk).1;omega
 ·have:=fine_file (h.fin m hm) hk;omega
theorem dir_nd {T:TT} (h:Rt T) {g:List ByteArray} {q j:Nat} (hp:LkP T.l g q j) (hg:g≠[]):∃n,ndI T.l q=some n∧n.k=1∧j=entF n.ns (lst g)∧OrdS n.ns:=by
 obtain⟨d,hd⟩:=h.dep;obtain⟨l,n,hgl,hw,hn,rfl,hk,hj,_⟩:=hp.dir h hd (.inl hg)
 exact⟨n,ndI_mem h.ord hn,hk,hj,(h.fin n hn).1⟩
theorem del_nd {L:List ND} {r k:Nat} {nm:ByteArray} {n:ND} (h:ndI L k=some n):ndI (delE L r nm) k=some (if k=r then { n with ns:=delNm nm n.ns } else n):=by
 have:=upd_nd (L:=L) (j:=r) (f:=fun n=>{ n with ns:=delNm nm n.ns }) (fun _ _=>rfl) k
 show ndI (updI L r _) k=_
 rw[this]
 split
 ·rename_i e;subst e;rw[h];rfl
 ·exact h
theorem del_no {nm x:ByteArray} {ns:List (ByteArray×Nat)} (h:¬hasNm nm ns):¬hasNm nm (delNm x ns):=fun ⟨e,he,hh⟩=>h ⟨e,(mem_del.1 he).1,hh⟩
theorem del_le (nm:ByteArray) (ns:List (ByteArray×Nat)):(delNm nm ns).length≤ns.length:=List.length_filter_le _ _
theorem mv_parts {T:TT} (h:Rt T) {g m:List ByteArray} {q j r v:Nat} {n:ND} (hp:LkP T.l g q j) (hp2:LkP T.l m r v) (h0:j≠0) (hg:g≠[]) (hm:m≠[]) (hw:wayE T v n=0):
  (v=0∧lessV T r (lst m) v=T.l∨v≠0∧∃rn,ndI T.l r=some rn∧OrdS rn.ns∧rn.ns.length≤300∧lessV T r (lst m) v=lsN (entF rn.ns (lst m)) (delE T.l r (lst m))) ∧
  Rt ⟨T.p,lessV T r (lst m) v⟩∧(∃q1,ndI (lessV T r (lst m) v) q=some q1∧OrdS q1.ns∧q1.ns.length≤300) ∧
  (∃r2,ndI (delE (lessV T r (lst m) v) q (lst g)) r=some r2∧¬hasNm (lst m) r2.ns∧OrdS r2.ns∧r2.ns.length≤300):=by
 obtain⟨qn,hq,hqk,hje,hqo⟩:=dir_nd h hp hg;obtain⟨rn,hr,hrk,hve,hro⟩:=dir_nd h hp2 hm;obtain⟨hqm,hqi⟩:=ndI_some hq;obtain⟨hrm,hri⟩:=ndI_some hr
 have hent:(lst g,j)∈qn.ns:=by rw[hje];exact ent_pos (by rw[←hje];exact h0)
 have hle:∀y∈T.l,y.ns.length≤288:=fun y hy=>h.ns_le hy
 by_cases hv:v=0
 ·subst hv
  have hlv:lessV T r (lst m) 0=T.l:=by unfold lessV;rw[if_pos rfl]
  have hno:=hasNm_none (h.ent_ne hrm) hve;rw[hlv];refine⟨.inl ⟨rfl,rfl⟩,h,⟨qn,hq,hqo,by have:=hle qn hqm;omega⟩,⟨_,del_nd hr,?_⟩⟩
  have:=hle rn hrm
  split
  ·exact⟨del_no hno,del_ord hro,by have:=del_le (lst g) rn.ns;show (delNm (lst g) rn.ns).length≤300;omega⟩
  ·exact⟨hno,hro,by omega⟩
 ·have hven:(lst m,v)∈rn.ns:=by rw[hve];exact ent_pos (by rw[←hve];exact hv)
  obtain⟨x,hx⟩:=ndI_of (h.ent _ hrm _ hven);obtain⟨b1,b2⟩:=ndI_some hx;have b2:x.i=v:=b2
  have hwx:x.ns=[]:=by
   unfold wayE at hw;rw[if_neg hv,show ndI T.l v=some x from hx] at hw
   simp only at hw
   by_cases e1:x.k=n.k
   ·by_cases e2:x.ns=[]
    ·exact e2
    ·rw[if_neg (by simpa using e1),if_pos e2] at hw;simp at hw
   ·rw[if_pos e1] at hw;simp at hw
  have hlv:lessV T r (lst m) v=loseE T.l r (lst m) v x.l:=by
   unfold lessV;rw[if_neg hv]
   show (match ndI T.l v with|none=>T.l|some x=>loseE T.l r (lst m) v x.l)=_
   rw[show ndI T.l v=some x from hx]
  have hqv:qn.i≠v:=fun e=>by
   have:=nd_uniq h.ord hqm b1 (by rw[b2];exact e)
   subst this;rw[hwx] at hent;cases hent
  have hrv:rn.i≠v:=fun e=>by
   have:=nd_uniq h.ord hrm b1 (by rw[b2];exact e)
   subst this;rw[hwx] at hven;cases hven
  have hls:loseE T.l r (lst m) v x.l=lsN (entF rn.ns (lst m)) (delE T.l r (lst m)):=by
   have hxm:x∈delE T.l r (lst m):=mem_upd.2 (.inr ⟨b1,by rw[b2,←hri];exact fun e=>hrv e.symm⟩)
   have hl:∀y∈delE T.l r (lst m),1≤y.l:=fun y hy=>by
    rcases mem_upd.1 hy with ⟨z,hz,_,rfl⟩|⟨hz,_⟩
    ·exact (h.l1 z hz).1
    ·exact (h.l1 y hz).1
   have ho:OrdN (delE T.l r (lst m)):=upd_ord (fun _ _=>rfl) h.ord
   have:=lsN_lose ho hxm hl
   rw[b2] at this;rw[←hve,this]
   rfl
  have hR:Rt ⟨T.p,loseE T.l r (lst m) v x.l⟩:=by
   have:=rt_lose h hrm b1 (nm:=lst m) (by rw[b2];exact hven) hwx
   rw[b2,hri] at this;exact this
  have hq1:=lose_keep (q:=r) (nm:=lst m) (v:=x.l) hqm hqv;have hr1:=lose_keep (q:=r) (nm:=lst m) (v:=x.l) hrm hrv;rw[if_pos hri] at hr1;have hqle:=hle qn hqm;have hrle:=hle rn hrm;have hdle:=del_le (lst m) qn.ns;have hdle2:=del_le (lst m) rn.ns;have hdle3:=del_le (lst g) (delNm (lst m) rn.ns)
  have hno:¬hasNm (lst m) (delNm (lst m) rn.ns):=fun ⟨e,he,hh⟩=>(mem_del.1 he).2 hh
  have hr2:=ndI_mem hR.ord hr1;have hq2:=ndI_mem hR.ord hq1;rw[hlv];refine⟨.inr ⟨hv,rn,hr,hro,by omega,hls⟩,hR,?_,?_⟩
  ·split at hq2
   ·exact⟨_,by rw[←hqi];exact hq2,del_ord hqo,by show (delNm (lst m) qn.ns).length≤300;omega⟩
   ·exact⟨_,by rw[←hqi];exact hq2,hqo,by omega⟩
  ·have hr3:ndI (loseE T.l r (lst m) v x.l) r=some { rn with ns:=delNm (lst m) rn.ns }:=by rw[←hri];rw[←hri] at hr2;exact hr2
   refine⟨_,del_nd hr3,?_⟩
   split
   ·exact⟨del_no hno,del_ord (del_ord hro),by show (delNm (lst g) (delNm (lst m) rn.ns)).length≤300;omega⟩
   ·exact⟨hno,del_ord hro,by show (delNm (lst m) rn.ns).length≤300;omega⟩
end
end Go.Proofs.YtjjamoemheljdaaGreat
