/-
  Layer 7: contracts (Ma Mb Mc Md Me).
-/
import Derived.Test.YtbiihjdjbknibaaGreatC28
namespace Go.Proofs.YtbiihjdjbknibaaGreat
set_option maxRecDepth 100000
set_option maxHeartbeats 8000000
set_option linter.unusedSimpArgs false
set_option linter.unusedVariables false
section
set_option maxRecDepth 100000
structure FT where
 k:KY
 v:List Nat
structure CT where
 k:KY
 v:List Nat
 g:Bool
def allB (k:KY) (l:List FT):Prop:=∀f∈l,befK k f.k=true
def ordF:List FT→Bool
 | []=>true
 | [_]=>true
 | f::h::r=>befK f.k h.k && ordF (h::r)
theorem ordF_cons {f:FT} {l:List FT}:ordF (f::l)=true↔allB f.k l∧ordF l=true:=by
 induction l generalizing f with
 | nil=>simp[ordF,allB]
 | cons h r ih=>
  simp only[ordF,Bool.and_eq_true]
  constructor
  ·rintro ⟨h1,h2⟩;refine⟨fun x hx=>?_,h2⟩
   rcases List.mem_cons.1 hx with rfl|hx
   ·exact h1
   ·exact befK_trans h1 ((ih.1 h2).1 x hx)
  ·rintro ⟨h1,h2⟩;exact⟨h1 h (by simp),h2⟩
theorem ordF_append {a b:List FT}:ordF (a++b)=true↔ordF a=true∧ordF b=true∧∀f∈a,allB f.k b:=by
 induction a with
 | nil=>simp[ordF]
 | cons x a ih=>
  rw[List.cons_append,ordF_cons,ih,ordF_cons]
  constructor
  ·rintro ⟨h1,h2,h3,h4⟩;refine⟨⟨fun f hf=>h1 f (List.mem_append_left _ hf),h2⟩,h3,fun f hf=>?_⟩
   rcases List.mem_cons.1 hf with rfl|hf
   ·exact fun y hy=>h1 y (List.mem_append_right _ hy)
   ·exact h4 f hf
  ·rintro ⟨⟨h1,h2⟩,h3,h4⟩;refine⟨fun f hf=>?_,h2,h3,fun f hf=>h4 f (List.mem_cons_of_mem _ hf)⟩
   rcases List.mem_append.1 hf with hf|hf
   ·exact h1 f hf
   ·exact h4 x (by simp) f hf
def findF:List FT→KY→Option (List Nat)
 | [],_=>none
 | f::r,k=>if f.k=k then some f.v else findF r k
theorem findF_none {l:List FT} {k:KY} (h:∀f∈l,f.k≠k):findF l k=none:=by
 induction l with
 | nil=>rfl
 | cons f r ih=>
  unfold findF;rw[if_neg (h f (by simp))]
  exact ih fun x hx=>h x (by simp[hx])
theorem findF_append (a b:List FT) (k:KY):findF (a++b) k=(findF a k).or (findF b k):=by
 induction a with
 | nil=>rfl
 | cons f r ih=>
  simp only[List.cons_append,findF]
  split
  ·rfl
  ·exact ih
theorem ne_of_bef {a b:KY} (h:befK a b=true):a≠b:=fun e=>by rw[e,befK_irr] at h;cases h
theorem ord_ext:∀{a b:List FT},ordF a=true→ordF b=true→(∀k,findF a k=findF b k)→a=b
 | [],[],_,_,_=>rfl
 | [],y::b,_,_,h=>by
  have:=h y.k
  simp[findF] at this
 | x::a,[],_,_,h=>by
  have:=h x.k
  simp[findF] at this
 | x::a,y::b,ha,hb,h=>by
  obtain⟨a1,a2⟩:=ordF_cons.1 ha;obtain⟨b1,b2⟩:=ordF_cons.1 hb
  have hk:x.k=y.k:=by
   rcases befK_tri x.k y.k with h1|h1|h1
   ·exfalso
    have:=h x.k
    rw[show findF (x::a) x.k=some x.v from if_pos rfl] at this;rw[findF_none (l:=y::b)] at this
    ·cases this
    ·intro f hf
     rcases List.mem_cons.1 hf with rfl|hf
     ·exact (ne_of_bef h1).symm
     ·exact (ne_of_bef (befK_trans h1 (b1 f hf))).symm
   ·exact h1
   ·exfalso
    have:=h y.k
    rw[show findF (y::b) y.k=some y.v from if_pos rfl] at this;rw[findF_none (l:=x::a)] at this
    ·cases this
    ·intro f hf
     rcases List.mem_cons.1 hf with rfl|hf
     ·exact (ne_of_bef h1).symm
     ·exact (ne_of_bef (befK_trans h1 (a1 f hf))).symm
  have hv:x.v=y.v:=by
   have:=h x.k
   rw[show findF (x::a) x.k=some x.v from if_pos rfl,hk,show findF (y::b) y.k=some y.v from if_pos rfl] at this;injection this
  have hr:a=b:=by
   refine ord_ext a2 b2 fun k=>?_
   have:=h k
   unfold findF at this
   by_cases e:x.k=k
   ·rw[findF_none (l:=a) fun f hf=>e ▸ (ne_of_bef (a1 f hf)).symm,findF_none (l:=b) fun f hf=>e ▸ hk ▸ (ne_of_bef (b1 f hf)).symm]
   ·rw[if_neg e,if_neg (hk ▸ e)] at this;exact this
  cases x;cases y;simp only at hk hv;rw[hk,hv,hr]
def updF (l:List FT) (c:CT):List FT:=l.filter (fun f=>befK f.k c.k)++((if c.g then [] else [⟨c.k,c.v⟩])++l.filter (fun f=>befK c.k f.k))
theorem ord_filter {l:List FT} (p:FT→Bool) (h:ordF l=true):ordF (l.filter p)=true:=by
 induction l with
 | nil=>rfl
 | cons f r ih=>
  obtain⟨h1,h2⟩:=ordF_cons.1 h;rw[List.filter_cons]
  split
  ·exact ordF_cons.2 ⟨fun x hx=>h1 x (List.mem_filter.1 hx).1,ih h2⟩
  ·exact ih h2
theorem ord_upd {l:List FT} (c:CT) (h:ordF l=true):ordF (updF l c)=true:=by
 unfold updF;refine ordF_append.2 ⟨ord_filter _ h,?_,fun f hf=>?_⟩
 ·split
  ·simpa using ord_filter _ h
  ·exact ordF_cons.2 ⟨fun x hx=>by have:=(List.mem_filter.1 hx).2;simpa using this,ord_filter _ h⟩
 ·have hfc:befK f.k c.k=true:=by have:=(List.mem_filter.1 hf).2;simpa using this
  intro x hx
  rcases List.mem_append.1 hx with hx|hx
  ·split at hx
   ·cases hx
   ·simp only[List.mem_cons,List.not_mem_nil,or_false] at hx;subst hx;exact hfc
  ·have:befK c.k x.k=true:=by have:=(List.mem_filter.1 hx).2;simpa using this
   exact befK_trans hfc this
theorem find_filter {l:List FT} {p:FT→Bool} {k:KY} (h:∀f:FT,f.k=k→p f=true):findF (l.filter p) k=findF l k:=by
 induction l with
 | nil=>rfl
 | cons f r ih=>
  rw[List.filter_cons]
  by_cases e:f.k=k
  ·rw[if_pos (h f e)];simp only[findF];rw[if_pos e,if_pos e]
  ·simp only[findF];rw[if_neg e]
   split
   ·simp only[findF];rw[if_neg e];exact ih
   ·exact ih
theorem find_filter_no {l:List FT} {p:FT→Bool} {k:KY} (h:∀f:FT,f.k=k→p f=false):findF (l.filter p) k=none:=by
 refine findF_none fun f hf e=>?_
 have:=(List.mem_filter.1 hf).2
 rw[h f e] at this;cases this
theorem find_upd (l:List FT) (c:CT) (k:KY):findF (updF l c) k=if c.k=k then (if c.g then none else some c.v) else findF l k:=by
 unfold updF;rw[findF_append,findF_append]
 by_cases e:c.k=k
 ·rw[if_pos e];subst e;rw[find_filter_no (fun f hf=>by rw[hf];exact befK_irr _),find_filter_no (fun f hf=>by rw[hf];exact befK_irr _)];cases c.g
  ·simp[findF]
  ·simp[findF]
 ·rw[if_neg e]
  have hm:findF (if c.g then [] else [⟨c.k,c.v⟩]) k=none:=by
   split
   ·rfl
   ·simp[findF,e]
  rw[hm]
  rcases befK_tri c.k k with h|h|h
  ·rw[find_filter_no (fun f hf=>by rw[hf];exact befK_anti h),find_filter (fun f hf=>by rw[hf];exact h)]
   rfl
  ·exact absurd h e
  ·rw[find_filter (fun f hf=>by rw[hf];exact h),find_filter_no (fun f hf=>by rw[hf];exact befK_anti h)];simp
def apF (l:List FT) (cs:List CT):List FT:=cs.foldl updF l
theorem ord_ap {l:List FT} (cs:List CT) (h:ordF l=true):ordF (apF l cs)=true:=by
 induction cs generalizing l with
 | nil=>exact h
 | cons c cs ih=>exact ih (ord_upd c h)
def lastC:List CT→KY→Option CT
 | [],_=>none
 | c::r,k=>(lastC r k).or (if c.k=k then some c else none)
theorem find_ap (l:List FT) (cs:List CT) (k:KY):findF (apF l cs) k=match lastC cs k with
  | some c=>if c.g then none else some c.v
  | none=>findF l k:=by
 induction cs generalizing l with
 | nil=>rfl
 | cons c cs ih=>
  show findF (apF (updF l c) cs) k=_
  rw[ih];have hl:lastC (c::cs) k=(lastC cs k).or (if c.k=k then some c else none):=rfl;rw[hl]
  cases h:lastC cs k with
  | some d=>rfl
  | none=>
   rw[Option.none_or];simp only;rw[find_upd]
   by_cases e:c.k=k
   ·rw[if_pos e,if_pos e]
   ·rw[if_neg e,if_neg e]
theorem ap_same {l:List FT} {cs ds:List CT} (h:ordF l=true) (he:∀k,lastC cs k=lastC ds k):apF l cs=apF l ds:=
 ord_ext (ord_ap cs h) (ord_ap ds h) fun k=>by rw[find_ap,find_ap,he k]
end
section
set_option maxRecDepth 100000
open Go.RowKit
structure FE where
 f:FT
 A:Option Addr
 c:Nat
def FE.cells (e:FE):List Value:=kcells e.f.k++[.slice e.A e.f.v.length e.c]
def fes:List FE→List Value
 | []=>[]
 | e::r=>e.cells++fes r
theorem fe_len (e:FE):e.cells.length=5:=rfl
theorem fes_len:∀(es:List FE),(fes es).length=es.length*5
 | []=>rfl
 | e::r=>by simp only[fes,List.length_append,fe_len,fes_len r,List.length_cons];omega
theorem fes_append:∀(a b:List FE),fes (a++b)=fes a++fes b
 | [],b=>rfl
 | e::a,b=>by simp only[List.cons_append,fes,fes_append a b,List.append_assoc]
theorem fes_at:∀(es:List FE) (i j:Nat) (e:FE) (u:Value),es[i]?=some e→j < 5→e.cells[j]?=some u→(fes es)[i*5+j]?=some u
 | [],i,j,e,u,h,_,_=>by simp at h
 | x::r,0,j,e,u,h,hj,hu=>by
  simp at h;subst h;simp only[fes,Nat.zero_mul,Nat.zero_add];rw[List.getElem?_append_left (by rw[fe_len];exact hj)];exact hu
 | x::r,i+1,j,e,u,h,hj,hu=>by
  simp only[fes];rw[List.getElem?_append_right (by rw[fe_len];omega),fe_len,show (i+1)*5+j - 5=i*5+j by omega];exact fes_at r i j e u (by simpa using h) hj hu
theorem fes_take (es:List FE) (k:Nat):fes (es.take k)=(fes es).take (k*5):=by
 induction es generalizing k with
 | nil=>simp[fes]
 | cons e r ih=>
  cases k with
  | zero=>simp[fes]
  | succ k=>
   simp only[List.take_succ_cons,fes,ih];rw[List.take_append,fe_len,show (k+1)*5 - 5=k*5 by omega,List.take_of_length_le (l:=e.cells) (by rw[fe_len];omega)]
theorem fes_drop (es:List FE) (k:Nat):fes (es.drop k)=(fes es).drop (k*5):=by
 induction es generalizing k with
 | nil=>simp[fes]
 | cons e r ih=>
  cases k with
  | zero=>simp
  | succ k=>
   simp only[List.drop_succ_cons,fes,ih];rw[List.drop_append,fe_len,show (k+1)*5 - 5=k*5 by omega,List.drop_of_length_le (l:=e.cells) (by rw[fe_len];omega)]
   rfl
def EOk (w:World) (e:FE):Prop:=Bts w e.A e.f.v.length e.f.v∧(e.A=none→e.c=0∧e.f.v.length=0)∧e.f.v.length≤140737488351232∧e.f.k.n.size≤maxLen
def FIn (w:World) (A:Option Addr) (n:Nat) (es:List FE):Prop:=RowV w A n 5 (fes es)∧∀e∈es,EOk w e
def FOwn (w:World) (B:Nat) (A:Option Addr) (c:Nat) (es:List FE):Prop:=
 OwnV w 94 5 B A es.length c (fes es)∧∀e∈es,OwnB w 5 B e.A e.c e.f.v∧e.f.v.length≤140737488351232∧e.f.k.n.size≤maxLen
section
variable {S:Nat→Prop} {w w':World} {A:Option Addr} {n c B:Nat} {es:List FE}
theorem EOk.kept {e:FE} (h:EOk w e) (hk:Kept S w w') (hn:∀a,e.A=some a→¬S a.block):EOk w' e:=⟨h.1.kept hk hn,h.2⟩
theorem FIn.new (h:FIn w A n es) (hk:New w w'):FIn w' A n es:=⟨h.1.new hk,fun e he=>(h.2 e he).kept hk fun _ _ f=>f⟩
theorem FIn.len (h:FIn w A n es):es.length=n:=by have:=h.1.1;rw[fes_len] at this;omega
theorem FIn.drewN (h:FIn w A n es) (q:Nat):FIn (w.drewN q) A n es:=h.new (kR.drewN q)
theorem FIn.nil (w:World) (A:Option Addr):FIn w A 0 []:=⟨RowV.nil w A 5,by simp⟩
theorem FOwn.nil (w:World) (B:Nat):FOwn w B none 0 []:=⟨OwnV.nil _ _ _ _,by simp⟩
theorem FOwn.new (h:FOwn w B A c es) (hk:New w w'):FOwn w' B A c es:=⟨h.1.new hk,fun e he=>⟨(h.2 e he).1.new hk,(h.2 e he).2⟩⟩
theorem FOwn.in_ (h:FOwn w B A c es):FIn w A es.length es:=by
 refine⟨h.1.row,fun e he=>?_⟩;obtain⟨h1,h2,h3⟩:=h.2 e he;refine⟨h1.bts,fun hA=>?_,h2,h3⟩
 rcases h1.2 with ⟨_,e1,e2⟩|⟨g,sp,e1,_⟩
 ·exact⟨e1,by rw[e2];rfl⟩
 ·rw[hA] at e1;cases e1
theorem FIn.cut {k:Nat} (h:FIn w A n es) (hk:k≤n) (hc:n≤c):FIn w (if c=k then A else A.map (·.add (k*5))) (n - k) (es.drop k):=by
 have hl:=h.len;obtain⟨⟨h1,h2⟩,h3⟩:=h;refine⟨⟨by rw[fes_len,List.length_drop];omega,fun h0=>?_⟩,fun e he=>h3 e (List.mem_of_mem_drop he)⟩;obtain⟨g,o,rfl,hat⟩:=h2 (by omega);rw[if_neg (by omega)];refine⟨g,o+k*5,by simp[Addr.add_lit],fun j x hx=>?_⟩;rw[fes_drop,List.getElem?_drop] at hx;rw[Nat.add_assoc];exact hat _ _ hx
theorem FIn.take {k:Nat} (h:FIn w A n es) (hk:k≤n):FIn w A k (es.take k):=by
 have hl:=h.len;obtain⟨⟨h1,h2⟩,h3⟩:=h;refine⟨⟨by rw[fes_len,List.length_take];congr 1;omega,fun h0=>?_⟩,fun e he=>h3 e (List.mem_of_mem_take he)⟩;obtain⟨g,o,rfl,hat⟩:=h2 (by omega);refine⟨g,o,rfl,fun j x hx=>hat j x ?_⟩;rw[fes_take,List.getElem?_take] at hx
 split at hx
 ·exact hx
 ·cases hx
theorem FIn.at_ {i:Nat} (h:FIn w A n es) (hi:i < n):∃(g o:Nat) (e:FE),A=some ⟨g,o,none⟩∧es[i]?=some e∧EOk w e ∧
  w.cell? ⟨g,o+i*5,none⟩=some (.int .i64 e.f.k.i)∧w.cell? ⟨g,o+i*5+1,none⟩=some (.int .u8 (e.f.k.t:Nat))∧w.cell? ⟨g,o+i*5+2,none⟩=some (.string e.f.k.n) ∧
  w.cell? ⟨g,o+i*5+3,none⟩=some (.int .i64 e.f.k.c)∧w.cell? ⟨g,o+i*5+4,none⟩=some (.slice e.A e.f.v.length e.c):=by
 have hl:=h.len;obtain⟨⟨h1,h2⟩,h3⟩:=h;obtain⟨g,o,rfl,hat⟩:=h2 (by omega)
 have hi':i < es.length:=by omega
 have he:es[i]?=some es[i]:=List.getElem?_eq_getElem hi'
 have key:∀j u,j < 5→es[i].cells[j]?=some u→w.cell? ⟨g,o+i*5+j,none⟩=some u:=fun j u hj hu=>by
  rw[Nat.add_assoc];exact hat _ _ (fes_at es i j _ u he hj hu)
 exact⟨g,o,es[i],rfl,he,h3 _ (List.getElem_mem hi'),key 0 _ (by omega) rfl,key 1 _ (by omega) rfl,key 2 _ (by omega) rfl,key 3 _ (by omega) rfl,key 4 _ (by omega) rfl⟩
end
def fts (es:List FE):List FT:=es.map (·.f)
theorem ord_at {l:List FT} (h:ordF l=true) {i j:Nat} {x y:FT} (hi:l[i]?=some x) (hj:l[j]?=some y) (hij:i < j):befK x.k y.k=true:=by
 induction l generalizing i j with
 | nil=>simp at hi
 | cons f r ih=>
  obtain⟨h1,h2⟩:=ordF_cons.1 h
  cases j with
  | zero=>omega
  | succ j=>
   have hj':r[j]?=some y:=by simpa using hj
   cases i with
   | zero=>
    simp at hi;subst hi;exact h1 y (List.mem_of_getElem? hj')
   | succ i=>exact ih h2 (by simpa using hi) hj' (by omega)
theorem ord_upto {l:List FT} {k:Nat} {x y:FT} (h:ordF (l.take (k+1))=true) (hx:l[k]?=some x) (hy:l[k+1]?=some y):ordF (l.take (k+2))=befK x.k y.k:=by
 have e:l.take (k+2)=l.take (k+1)++[y]:=by rw[List.take_add_one,hy];rfl
 cases hb:befK x.k y.k with
 | true=>
  rw[e];refine ordF_append.2 ⟨h,rfl,fun f hf=>?_⟩;intro z hz;simp only[List.mem_cons,List.not_mem_nil,or_false] at hz;subst hz;obtain⟨i,hi⟩:=List.mem_iff_getElem?.1 hf
  have hil:i < k+1:=by
   have:=(List.getElem?_eq_some_iff.1 hi).1
   rw[List.length_take] at this;omega
  have hxk:(l.take (k+1))[k]?=some x:=by rw[List.getElem?_take,if_pos (by omega),hx]
  rcases Nat.lt_or_ge i k with hik|hik
  ·exact befK_trans (ord_at h hi hxk hik) hb
  ·rw[show i=k by omega,hxk] at hi
   injection hi with hi
   rw[←hi];exact hb
 | false=>
  cases ho:ordF (l.take (k+2)) with
  | false=>rfl
  | true=>
   have:=ord_at ho (i:=k) (j:=k+1) (x:=x) (y:=y) (by rw[List.getElem?_take,if_pos (by omega),hx]) (by rw[List.getElem?_take,if_pos (by omega),hy]) (by omega)
   rw[hb] at this;cases this
theorem ord_take {l:List FT} (h:ordF l=true) (k:Nat):ordF (l.take k)=true:=by
 have:=List.take_append_drop k l
 rw[←this] at h;exact (ordF_append.1 h).1
end
section
set_option maxRecDepth 100000
open Go.RowKit
theorem before_new (a b:KY) (r:Bool) (h:befK a b=r) (u:World):
  Calls Tryz.prog 90 #[.agg #[.int .i64 a.i,.int .u8 (a.t:Nat),.string a.n,.int .i64 a.c],.agg #[.int .i64 b.i,.int .u8 (b.t:Nat),.string b.n,.int .i64 b.c]] u fun e w'=>e=.returned (.bool r)∧Below u.heap.size u w':=
 (before_any a b u).mono fun e w' hh=>⟨by rw[hh.1,h],hh.2.below⟩
theorem new_regrown {w wr:World} (h:New w wr) (d:Nat) (os:Array Obj):New w (Go.Sort.grow (redrawn wr d) os):=h.new (New.of_below (below_regrown wr d os))
theorem inOrder_any (A:Option Addr) (n c:Nat) (es:List FE) (w:World) (h:FIn w A n es) (hn:n≤maxLen):
  Calls Tryz.prog 60 #[.slice A n c] w (NewBool w (ordF (fts es))):=by
 have HL:Hid ((fts es).length=n):=by show _=_;unfold fts;rw[List.length_map,h.len]
 have H:=jH h;unfold maxLen at hn;clear h;go_enter Tryz.func60,Tryz.ntmps60;go_wp2_with fail
 go_loopw [3] (fun i wr=>∃k:Nat,(k+1≤n∨k=0)∧i=.int .i64 ((k:Int)+1)∧Hid (New w wr)∧Hid (ordF ((fts es).take (k+1))=true)) (fun i _=>n - (intOf i).toNat)
 case atStart=>
  refine⟨0,.inr rfl,rfl,kR,?_⟩
  show ordF ((fts es).take 1)=true
  match fts es with
  | []=>rfl
  | [_]=>rfl
  | _::_::_=>rfl
 case round=>
  obtain⟨k,hk,rfl,HN,HO⟩:=hrel
  by_cases hlt:k+1 < n
  ·obtain⟨g,o,x,eA,hx,_,x0,x1,x2,x3,_⟩:=(H.out.new HN.out).at_ (i:=k) (by omega);obtain⟨g',o',y,eA',hy,_,y0,y1,y2,y3,_⟩:=(H.out.new HN.out).at_ (i:=k+1) hlt;subst eA
   injection eA' with eA'
   injection eA' with e1 e2
   subst e1 e2
   have hfx:(fts es)[k]?=some x.f:=by unfold fts;rw[List.getElem?_map,hx];rfl
   have hfy:(fts es)[k+1]?=some y.f:=by unfold fts;rw[List.getElem?_map,hy];rfl
   have HB:=jH (ord_upto HO.out hfx hfy)
   have HNO:Hid (ordF ((fts es).take (k+2))=false→ordF (fts es)=false):=by
    intro hh
    cases e:ordF (fts es) with
    | false=>rfl
    | true=>rw[ord_take e] at hh;cases hh
   clear hx hy hfx hfy
   have s0:IntKind.i64.wrap (k:Int)=(k:Int):=by rw[IntKind.wrap_i64];omega
   have s1:(0:Int)≤(k:Int)+1:=by omega
   have s2:((k:Int)+1).toNat=k+1:=by omega
   have s3:(k:Int) < (n:Int):=by omega
   have s4:(k:Int)+1 < (n:Int):=by omega
   have p0:=fun d os=>cell_regrown x0 d os
   have p1:=fun d os=>cell_regrown x1 d os
   have p2:=fun d os=>cell_regrown x2 d os
   have p3:=fun d os=>cell_regrown x3 d os
   have r0:=fun d os=>cell_regrown y0 d os
   have r1:=fun d os=>cell_regrown y1 d os
   have r2:=fun d os=>cell_regrown y2 d os
   have r3:=fun d os=>cell_regrown y3 d os
   have cB:=jH (fun (d:Nat) (os:Array Obj)=>Calls.regrown_of (d:=d) (os:=os) (before_new x.f.k y.f.k _ rfl (Go.Sort.grow (redrawn wr d) os)));clear x0 x1 x2 x3 y0 y1 y2 y3;generalize befK x.f.k y.f.k=b at *;cases b
   ·have HZ:=jH (HNO.out HB.out);go_wp2_with fail;refine wp_region_quiet_below (by kernel_rfl) (by kernel_rfl) ?_
    repeat (quiet_step (first
     | (go_at_call 90;exact cB.out _ _)))
    refine wpQuiet_nil ?_;intro _ hw';obtain⟨⟨dq,osq⟩,hw''⟩:=hw';subst hw'';have K9:Hid (New w (Go.Sort.grow (redrawn wr dq) osq)):=new_regrown HN.out dq osq;go_wp2;go_ret;exact⟨by rw[HZ.out];rfl,K9.out⟩
   ·go_wp2_with fail;refine wp_region_quiet_below (by kernel_rfl) (by kernel_rfl) ?_
    repeat (quiet_step (first
     | (go_at_call 90;exact cB.out _ _)))
    refine wpQuiet_nil ?_;intro _ hw';obtain⟨⟨dq,osq⟩,hw''⟩:=hw';subst hw'';have K9:Hid (New w (Go.Sort.grow (redrawn wr dq) osq)):=new_regrown HN.out dq osq;clear cB p0 p1 p2 p3 r0 r1 r2 r3;go_wp2;go_roundw
    case rel=>exact⟨k+1,.inl (by omega),by go_num,K9,HB⟩
    case measure=>simp[intOf];omega
  ·have HZ:Hid (ordF (fts es)=true):=by
    have:=HO.out
    rwa [List.take_of_length_le (by rw[HL.out];omega)] at this
   clear HO;go_wp2;go_ret;exact⟨by rw[HZ.out];rfl,HN.out⟩
end
section
set_option maxRecDepth 100000
open Go.RowKit
def plN (l:List FT) (k:KY):Nat:=(l.takeWhile fun f=>befK f.k k).length
def plB (l:List FT) (k:KY):Bool:=match l[plN l k]? with
 | some x=>decide (x.k=k)
 | none=>false
theorem plN_le (l:List FT) (k:KY):plN l k≤l.length:=by
 unfold plN
 induction l with
 | nil=>simp
 | cons f r ih=>rw[List.takeWhile_cons];split<;>simp<;>omega
theorem plN_iff {l:List FT} (h:ordF l=true) (k:KY) {i:Nat} {x:FT} (hx:l[i]?=some x):befK x.k k=decide (i < plN l k):=by
 induction l generalizing i with
 | nil=>simp at hx
 | cons f r ih=>
  obtain⟨h1,h2⟩:=ordF_cons.1 h;unfold plN;rw[List.takeWhile_cons]
  cases hf:befK f.k k with
  | true=>
   simp only[if_true,List.length_cons]
   cases i with
   | zero=>
    simp at hx;subst hx;rw[hf];simp
   | succ i=>
    rw[ih h2 (by simpa using hx)];unfold plN;simp
  | false=>
   simp only[Bool.false_eq_true,if_false,List.length_nil,Nat.not_lt_zero,decide_false]
   cases i with
   | zero=>
    simp at hx;subst hx;exact hf
   | succ i=>
    cases hb:befK x.k k with
    | false=>rfl
    | true=>rw[befK_trans (h1 x (List.mem_of_getElem? (by simpa using hx))) hb] at hf;cases hf
def PlP (w:World) (l:List FT) (k:KY) (e:Ending) (w':World):Prop:=e=.returned (.tuple #[.int .i64 (plN l k:Nat),.bool (plB l k)])∧New w w'
theorem place_any (A:Option Addr) (n c:Nat) (es:List FE) (k:KY) (w:World) (h:FIn w A n es) (ho:ordF (fts es)=true) (hn:n≤maxLen):
  Calls Tryz.prog 62 #[.slice A n c,.agg #[.int .i64 k.i,.int .u8 (k.t:Nat),.string k.n,.int .i64 k.c]] w (PlP w (fts es) k):=by
 have HL:Hid ((fts es).length=n):=by show _=_;unfold fts;rw[List.length_map,h.len]
 have HI:Hid (∀i x,(fts es)[i]?=some x→befK x.k k=decide (i < plN (fts es) k)):=fun i x hx=>plN_iff ho k hx
 have HP:Hid (plN (fts es) k≤n):=by have:=plN_le (fts es) k;rw[HL.out] at this;exact this
 have HF:Hid (plB (fts es) k=match (fts es)[plN (fts es) k]? with|some x=>decide (x.k=k)|none=>false):=rfl;unfold PlP;generalize plN (fts es) k=p at *;generalize plB (fts es) k=q at *;obtain⟨w1,hw1⟩:∃w1,w1=w.alloc (.cells #[.int .i64 k.i,.int .u8 (k.t:Nat),.string k.n,.int .i64 k.c] 92):=⟨_,rfl⟩
 have n1:New w w1:=by rw[hw1];exact kR.alloc _
 have BK:Hid (∀u,New w1 u→Blk u w.heap.size 92 [.int .i64 k.i,.int .u8 (k.t:Nat),.string k.n,.int .i64 k.c]):=fun u hu=>by rw[hw1] at hu;exact (Blk.made w _ _).kept hu id
 have H:=jH (h.new n1);have N1:=jH n1;have HW:=jH hw1;unfold maxLen at hn;clear h ho n1 hw1;go_enter Tryz.func62,Tryz.ntmps62;go_wp2_with fail;rw[←HW.out];clear HW;generalize w.heap.size=gk at *
 go_loopw [6,7] (fun x y wr=>∃a b:Nat,a≤b∧b≤n∧x=.int .i64 a∧y=.int .i64 b∧Hid (a≤p∧p≤b)∧Hid (New w1 wr)) (fun x y _=>(intOf y).toNat - (intOf x).toNat)
 case atStart=>exact⟨0,n,Nat.zero_le _,Nat.le_refl _,rfl,rfl,⟨Nat.zero_le _,HP.out⟩,kR⟩
 case round=>
  obtain⟨a,b,hab,hbn,rfl,rfl,HAB,HN⟩:=hrel
  by_cases hlt:a < b
  ·obtain⟨m,hm⟩:∃m:Nat,m=a+(b - a) / 2:=⟨_,rfl⟩
   have hm1:a≤m:=by omega
   have hm2:m < b:=by omega
   obtain⟨g,o,x,eA,hx,_,x0,x1,x2,x3,_⟩:=(H.out.new HN.out).at_ (i:=m) (by omega);subst eA
   have hfx:(fts es)[m]?=some x.f:=by unfold fts;rw[List.getElem?_map,hx];rfl
   have HB:=jH (HI.out m x.f hfx);obtain⟨b0,b1,b2,b3⟩:=cells4 (BK.out wr HN.out);clear hx hfx
   have s0:(a:Int)+((b:Int) - (a:Int)) / 2=(m:Int):=by omega
   clear hm
   have s1:(m:Int) < (n:Int):=by omega
   have p0:=fun d os=>cell_regrown x0 d os
   have p1:=fun d os=>cell_regrown x1 d os
   have p2:=fun d os=>cell_regrown x2 d os
   have p3:=fun d os=>cell_regrown x3 d os
   have r0:=fun d os=>cell_regrown b0 d os
   have r1:=fun d os=>cell_regrown b1 d os
   have r2:=fun d os=>cell_regrown b2 d os
   have r3:=fun d os=>cell_regrown b3 d os
   have cB:=jH (fun (d:Nat) (os:Array Obj)=>Calls.regrown_of (d:=d) (os:=os) (before_new x.f.k k _ rfl (Go.Sort.grow (redrawn wr d) os)));clear x0 x1 x2 x3 b0 b1 b2 b3;generalize befK x.f.k k=bb at *;cases bb
   ·have HB2:Hid (a≤p∧p≤m):=⟨HAB.out.1,by have:=of_decide_eq_false HB.out.symm;omega⟩;clear HB HAB;go_wp2_with fail;refine wp_region_quiet_below (by kernel_rfl) (by kernel_rfl) ?_
    repeat (quiet_step (first
     | (go_at_call 90;exact cB.out _ _)))
    refine wpQuiet_nil ?_;intro _ hw';obtain⟨⟨dq,osq⟩,hw''⟩:=hw';subst hw'';have K9:Hid (New w1 (Go.Sort.grow (redrawn wr dq) osq)):=new_regrown HN.out dq osq;clear cB p0 p1 p2 p3 r0 r1 r2 r3;go_wp2;go_roundw
    case rel=>exact⟨a,m,by omega,by omega,rfl,rfl,HB2,K9⟩
    case measure=>simp[intOf];omega
   ·have HB2:Hid (m+1≤p∧p≤b):=⟨by have:=of_decide_eq_true HB.out.symm;omega,HAB.out.2⟩;clear HB HAB;go_wp2_with fail;refine wp_region_quiet_below (by kernel_rfl) (by kernel_rfl) ?_
    repeat (quiet_step (first
     | (go_at_call 90;exact cB.out _ _)))
    refine wpQuiet_nil ?_;intro _ hw';obtain⟨⟨dq,osq⟩,hw''⟩:=hw';subst hw'';have K9:Hid (New w1 (Go.Sort.grow (redrawn wr dq) osq)):=new_regrown HN.out dq osq;clear cB p0 p1 p2 p3 r0 r1 r2 r3;go_wp2;go_roundw
    case rel=>exact⟨m+1,b,by omega,by omega,by go_num,rfl,HB2,K9⟩
    case measure=>simp[intOf];omega
  ·obtain rfl:a=b:=by omega
   have hap:a=p:=by have:=HAB.out;omega
   subst hap;clear HAB
   by_cases hpn:a < n
   ·obtain⟨g,o,x,eA,hx,_,x0,x1,x2,x3,_⟩:=(H.out.new HN.out).at_ (i:=a) hpn;subst eA
    have hfx:(fts es)[a]?=some x.f:=by unfold fts;rw[List.getElem?_map,hx];rfl
    have HQ:Hid (q=decide (x.f.k=k)):=by
     have:=HF.out
     rw[hfx] at this;exact this
    obtain⟨b0,b1,b2,b3⟩:=cells4 (BK.out wr HN.out)
    have HEQ:=fun u=>key_eql x.f.k k u
    clear hx hfx HF;rw[←HQ.out] at HEQ;clear HQ;generalize x.f.k=kx at *;go_wp2_with fail;go_quiet (fail);go_wp2;go_ret2;exact⟨rfl,(N1.out.new HN.out).drewN _⟩
   ·have HQ:Hid (q=false):=by
     have:=HF.out
     rw[List.getElem?_eq_none (by rw[HL.out];omega)] at this;exact this
    have d1:decide ((a:Int) < (n:Int))=false:=decide_eq_false (by omega);clear HF;go_wp2_with fail;go_quiet (fail);go_wp2;go_ret2;exact⟨by rw[HQ.out];rfl,(N1.out.new HN.out).drewN _⟩
end
section
set_option maxRecDepth 100000
open Go.RowKit
end
end Go.Proofs.YtbiihjdjbknibaaGreat
