/-
  Layer 7: contracts (Oa Ob).
-/
import Derived.Test.YtbiihjdjbknibaaGreatC33
namespace Go.Proofs.YtbiihjdjbknibaaGreat
set_option maxRecDepth 100000
set_option maxHeartbeats 8000000
set_option linter.unusedSimpArgs false
set_option linter.unusedVariables false
section
set_option maxRecDepth 100000
open Go.RowKit
theorem updF_nil (c:CT):updF [] c=if c.g then [] else [⟨c.k,c.v⟩]:=by
 unfold updF;simp
theorem upd_all {l:List FT} {c:CT} (h:∀f∈l,befK f.k c.k=true) (hg:c.g=false):updF l c=l++[⟨c.k,c.v⟩]:=by
 unfold updF;rw[List.filter_eq_self.2 h,List.filter_eq_nil_iff.2 fun f hf he=>(by rw[befK_anti (h f hf)] at he;cases he),hg];simp
theorem upd_gt {l:List FT} {c:CT} {x:FT} (h:befK c.k x.k=true):updF (l++[x]) c=updF l c++[x]:=by
 unfold updF;have h1:befK x.k c.k=false:=befK_anti h;simp[List.filter_append,h1,h]
theorem upd_len (l:List FT) (c:CT):(updF l c).length≤l.length+1:=by
 induction l with
 | nil=>rw[updF_nil];split<;>simp
 | cons f r ih=>
  unfold updF at *;simp only[List.length_append,List.filter_cons,List.length_cons] at *
  have hd:¬(befK f.k c.k=true∧befK c.k f.k=true):=fun ⟨h1,h2⟩=>by rw[befK_anti h1] at h2;cases h2
  by_cases h1:befK f.k c.k=true<;>by_cases h2:befK c.k f.k=true
  ·exact absurd ⟨h1,h2⟩ hd
  all_goals
   simp only[h1,h2,if_true,List.length_cons,Bool.false_eq_true,if_false];omega
def OneI (l:List FT) (c:CT) (i:Nat) (o:List FT) (d:Bool):Prop:=
 (d=false∧c.g=false∧o=l.take i∧∀f∈l.take i,befK f.k c.k=true)∨(d=true∧o=updF (l.take i) c∧(c.g=true∨∃y∈l.take i,befK y.k c.k=false))
theorem OneI.start (l:List FT) (c:CT):OneI l c 0 [] c.g:=by
 cases h:c.g
 ·exact .inl ⟨rfl,h,rfl,by simp⟩
 ·exact .inr ⟨rfl,by rw[List.take_zero,updF_nil,h];rfl,.inl h⟩
theorem OneI.len0 {l:List FT} {c:CT} {i:Nat} {o:List FT} (h:OneI l c i o false):o.length≤i:=by
 rcases h with ⟨_,_,rfl,_⟩|⟨h,_⟩
 ·rw[List.length_take];omega
 ·cases h
theorem OneI.len {l:List FT} {c:CT} {i:Nat} {o:List FT} {d:Bool} (h:OneI l c i o d):o.length≤i+1:=by
 rcases h with ⟨_,_,rfl,_⟩|⟨_,rfl,_⟩
 ·rw[List.length_take];omega
 ·have:=upd_len (l.take i) c
  rw[List.length_take] at this;omega
section
variable {l:List FT} {c:CT} {i:Nat} {o:List FT} {x:FT}
theorem OneI.put (h:OneI l c i o false) (hx:l[i]?=some x) (he:befK c.k x.k=true):OneI l c (i+1) ((o++[⟨c.k,c.v⟩])++[x]) true:=by
 rcases h with ⟨_,hg,rfl,h⟩|⟨h,_⟩
 ·have ht:l.take (i+1)=l.take i++[x]:=by rw[List.take_add_one,hx];rfl
  refine .inr ⟨rfl,?_,.inr ⟨x,?_,befK_anti he⟩⟩
  ·rw[ht,upd_gt he,upd_all h hg]
  ·rw[ht];simp
 ·cases h
end
def Mix (w:World) (B:Nat) (A:Option Addr) (c:Nat) (es:List FE):Prop:=OwnV w 94 5 B A es.length c (fes es)∧∀e∈es,∀u,Kept (InRow A) w u→EOk u e
section
variable {w w' w5 w7:World} {B k c c2:Nat} {A A2:Option Addr} {es:List FE}
theorem Mix.nil (w:World) (B:Nat):Mix w B none 0 []:=⟨OwnV.nil _ _ _ _,by simp⟩
theorem Mix.new (h:Mix w B A c es) (hk:New w w'):Mix w' B A c es:=⟨h.1.new hk,fun e he u hu=>h.2 e he u ((hk.mono (S':=InRow A) fun _ _ f=>f.elim).trans hu fun _ _ h=>h)⟩
theorem Mix.in_ (h:Mix w B A c es):FIn w A es.length es:=⟨h.1.row,fun e he=>h.2 e he w kR⟩
theorem Mix.more {e:FE} (h:Mix w5 B A c es) (hk:es.length=k) (O7:OwnV w7 94 5 B A2 (k+1) c2 (fes es++e.cells)) (K7:Kept (InRow A) w5 w7) (D7:A2=A∨∃y,A2=some y∧w5.heap.size≤y.block)
  (he:∀u,Kept (InRow A2) w7 u→EOk u e):Mix w7 B A2 c2 (es++[e]):=by
 refine⟨?_,fun x hx u hu=>?_⟩
 ·rw[fes_append,List.length_append,hk];simpa [fes] using O7
 ·rcases List.mem_append.1 hx with hx|hx
  ·refine h.2 x hx u (K7.trans hu fun i hi ⟨b,hb,e2⟩=>?_)
   rcases D7 with rfl|⟨y,rfl,hy⟩
   ·exact⟨b,hb,e2⟩
   ·injection hb with hb
    subst hb;omega
  ·simp only[List.mem_cons,List.not_mem_nil,or_false] at hx;subst hx;exact he u hu
theorem new_row {t:TypeId} {sz n:Nat} {vs:List Value} (k:New w w5) (h:OwnV w5 t sz w.heap.size A n c vs) (K7:Kept (InRow A) w5 w7):New w w7:=
 k.trans K7 fun i hi ⟨b,hb,e⟩=>by
  have:=(h.at_ b hb).2
  omega
end
end
section
set_option maxRecDepth 100000
open Go.ChangeShapes Go.WideShapes Go.ChangeAt Go.RowKit
end
end Go.Proofs.YtbiihjdjbknibaaGreat
