/-
  Layer 7: contracts (Mm Mn Mo Mp).
-/
import Derived.Test.YtbiihjdjbknibaaGreatC32
namespace Go.Proofs.YtbiihjdjbknibaaGreat
set_option maxRecDepth 100000
set_option maxHeartbeats 8000000
set_option linter.unusedSimpArgs false
set_option linter.unusedVariables false
section
set_option maxRecDepth 100000
open Go.RowKit Go.ChangeShapes Go.WideShapes Go.ChangeAt Go.Deep
theorem getElem_take_drop {cs us:List Value} {o n:Nat} (h:(cs.drop o).take n=us) {j:Nat} (hj:j < n):cs[o+j]?=us[j]?:=by
 rw[←h,List.getElem?_take,if_pos hj,List.getElem?_drop]
section
variable {H:Type} {enc:TypeId×Value→H} {W:World}
theorem Rds.change_ {cs:List Value} {d:DataW H} (h:Rds enc Tryz.prog W 105 cs d):∃e:CE,cs=e.cells∧COk W e∧KyIn e.f.k:=by
 obtain⟨hl,hf⟩:=h.field Tryz.underlying105
 have h6:Tryz.prog.cellsOf 105=6:=by kernel_rfl
 have c4:Tryz.prog.cellsOf 92=4:=by kernel_rfl
 have c1:Tryz.prog.cellsOf 52=1:=by kernel_rfl
 have c0:Tryz.prog.cellsOf 4=1:=by kernel_rfl
 rw[h6] at hl;obtain⟨d0,r0⟩:=hf 0 _ rfl;obtain⟨d1,r1⟩:=hf 1 _ rfl;obtain⟨d2,r2⟩:=hf 2 _ rfl;obtain⟨k,e0,hk⟩:=r0.key_;obtain⟨A,n,c,l,e1,hb⟩:=r1.bytes_ Tryz.underlying52 Tryz.underlying5 (by kernel_rfl) (by kernel_rfl);obtain⟨g,e2⟩:=r2.bool_ Tryz.underlying4;have e0:(cs.drop 0).take (Tryz.prog.cellsOf 92)=kcells k:=e0;have e1:(cs.drop 4).take (Tryz.prog.cellsOf 52)=[.slice A n c]:=e1;have e2:(cs.drop 5).take (Tryz.prog.cellsOf 4)=[.bool g]:=e2;rw[c4] at e0;rw[c1] at e1;rw[c0] at e2;have hn:l.length=n:=hb.bts.1;subst hn;refine⟨⟨⟨k,l,g⟩,A,c⟩,?_,⟨hb.bts,hb.nil,Nat.le_trans hb.le hb.cap,hk.2.2.1⟩,hk⟩
 apply List.ext_getElem?
 intro i
 match i with
 | 0=>exact getElem_take_drop e0 (j:=0) (by omega)
 | 1=>exact getElem_take_drop e0 (j:=1) (by omega)
 | 2=>exact getElem_take_drop e0 (j:=2) (by omega)
 | 3=>exact getElem_take_drop e0 (j:=3) (by omega)
 | 4=>exact getElem_take_drop e1 (j:=0) (by omega)
 | 5=>exact getElem_take_drop e2 (j:=0) (by omega)
 | i+6=>rw[List.getElem?_eq_none (by omega),List.getElem?_eq_none (by simp[CE.cells,kcells])]
theorem ces_get:∀(es:List CE) (j:Nat),j < es.length*6→∃e,es[j / 6]?=some e∧(ces es)[j]?=e.cells[j % 6]?
 | [],j,h=>by simp at h
 | x::r,j,h=>by
  rcases Nat.lt_or_ge j 6 with hj|hj
  ·refine⟨x,by rw[Nat.div_eq_of_lt hj];rfl,?_⟩;rw[Nat.mod_eq_of_lt hj];simp only[ces];rw[List.getElem?_append_left (by rw[ce_len];exact hj)]
  ·obtain⟨e,h1,h2⟩:=ces_get r (j - 6) (by simp at h;omega);refine⟨e,?_,?_⟩
   ·rw[show j / 6=(j - 6) / 6+1 by omega,List.getElem?_cons_succ];exact h1
   ·simp only[ces];rw[List.getElem?_append_right (by rw[ce_len];exact hj),ce_len,h2,show j % 6=(j - 6) % 6 by omega]
def CsIn (W:World) (A:Option Addr) (n c:Nat) (es:List CE):Prop:=CIn W A n es∧(A=none→c=0∧n=0)∧n≤c∧c≤maxLen∧n*72≤140737488351232∧∀e∈es,KyIn e.f.k
theorem Arg.changes_ {base:Nat} {v:Value} {d:DataW H} {p:List MemPlace} (h:Arg enc Tryz.prog W base 44 v d p):∃A n c es,v=.slice A n c∧CsIn W A n c es:=by
 have c6:Tryz.prog.cellsOf 105=6:=by kernel_rfl
 have b72:Tryz.prog.bytesOf 105=72:=by kernel_rfl
 obtain⟨A,n,c,hcs,hA,h1,h2,h3,h4⟩:=(h.rdsS Tryz.underlying44).list_ Tryz.underlying44 (by rw[c6];omega);rw[c6] at h4;rw[b72] at h3
 injection hcs with hv _
 subst hv
 rcases Nat.eq_zero_or_pos n with h0|h0
 ·subst h0;exact⟨A,0,c,[],rfl,CIn.nil _ _,hA,h1,h2,by simp,by simp⟩
 obtain⟨g,o,rfl,hi⟩:=h4 h0
 obtain⟨es,hl,he⟩:=listOf (R:=fun i (e:CE)=>(∀(j:Nat) (u:Value),e.cells[j]?=some u→W.cell? ⟨g,o+(i*6+j),none⟩=some u)∧COk W e∧KyIn e.f.k) n fun i hin=>by
  obtain⟨us,d',_,hu,hr⟩:=hi i hin;obtain⟨e,rfl,ho,hk⟩:=hr.change_;exact⟨e,hu,ho,hk⟩
 refine⟨some ⟨g,o,none⟩,n,c,es,rfl,⟨⟨by rw[ces_len,hl],fun _=>⟨g,o,rfl,fun j u hj=>?_⟩⟩,fun e hm=>?_⟩,hA,h1,h2,h3,fun e hm=>?_⟩
 ·have hjl:j < es.length*6:=by have:=(List.getElem?_eq_some_iff.1 hj).1;rwa [ces_len] at this
  obtain⟨e,e1,e2⟩:=ces_get es j hjl
  have:=(he _ _ e1).1 (j % 6) u (e2 ▸ hj)
  rwa [show j / 6*6+j % 6=j by omega] at this
 ·obtain⟨i,hi2⟩:=List.mem_iff_getElem?.1 hm;exact (he i e hi2).2.1
 ·obtain⟨i,hi2⟩:=List.mem_iff_getElem?.1 hm;exact (he i e hi2).2.2
theorem Arg.change_ {base:Nat} {v:Value} {d:DataW H} {p:List MemPlace} (h:Arg enc Tryz.prog W base 105 v d p):∃e:CE,v=.agg #[.int .i64 e.f.k.i,.int .u8 (e.f.k.t:Nat),.string e.f.k.n,.int .i64 e.f.k.c,.slice e.A e.f.v.length e.c,.bool e.f.g]∧COk W e∧KyIn e.f.k:=by
 obtain⟨cs,rfl,hr⟩:=h.rds Tryz.underlying105;obtain⟨e,he,ho,hk⟩:=hr.change_;exact⟨e,congrArg Value.agg (Array.toList_inj.1 he),ho,hk⟩
end
end
section
set_option maxRecDepth 100000
open Go.RowKit
def LsA (u:World) (A:Option Addr) (n c:Nat) (l:List FT):Prop:=∃es,FIn u A n es∧fts es=l∧n≤c∧c≤maxLen
theorem LsA.new {u v:World} {A:Option Addr} {n c:Nat} {l:List FT} (h:LsA u A n c l) (hk:New u v):LsA v A n c l:=by
 obtain⟨es,h1,h2⟩:=h;exact⟨es,h1.new hk,h2⟩
theorem LsA.len {u:World} {A:Option Addr} {n c:Nat} {l:List FT} (h:LsA u A n c l):l.length=n:=by
 obtain⟨es,h1,h2,_⟩:=h;rw[←h2,fts_len,h1.len]
theorem LsA.nil (u:World):LsA u none 0 0 []:=⟨[],FIn.nil _ _,rfl,Nat.le_refl _,by simp⟩
theorem LsA.at_ {u:World} {A:Option Addr} {n c:Nat} {l:List FT} {i:Nat} (h:LsA u A n c l) (hi:i < n):∃(g o:Nat) (x:FT),A=some ⟨g,o,none⟩∧l[i]?=some x ∧
  u.cell? ⟨g,o+i*5,none⟩=some (.int .i64 x.k.i)∧u.cell? ⟨g,o+i*5+1,none⟩=some (.int .u8 (x.k.t:Nat))∧u.cell? ⟨g,o+i*5+2,none⟩=some (.string x.k.n)∧u.cell? ⟨g,o+i*5+3,none⟩=some (.int .i64 x.k.c):=by
 obtain⟨es,h1,h2,_⟩:=h;obtain⟨g,o,x,e1,e2,_,x0,x1,x2,x3,_⟩:=h1.at_ hi;refine⟨g,o,x.f,e1,?_,x0,x1,x2,x3⟩;rw[←h2];unfold fts;rw[List.getElem?_map,e2]
 rfl
end
section
set_option maxRecDepth 100000
open Go.RowKit
theorem ordC_append:∀{a b:List CT},ordC (a++b)↔ordC a∧ordC b∧∀x∈a,∀y∈b,befK y.k x.k=false
 | [],b=>by simp[ordC]
 | c::a,b=>by
  show (∀d∈a++b,befK d.k c.k=false)∧ordC (a++b)↔((∀d∈a,befK d.k c.k=false)∧ordC a)∧ordC b∧_
  rw[ordC_append (a:=a)]
  constructor
  ·rintro ⟨h1,h2,h3,h4⟩;refine⟨⟨fun d hd=>h1 d (List.mem_append_left _ hd),h2⟩,h3,fun x hx y hy=>?_⟩
   rcases List.mem_cons.1 hx with rfl|hx
   ·exact h1 y (List.mem_append_right _ hy)
   ·exact h4 x hx y hy
  ·rintro ⟨⟨h1,h2⟩,h3,h4⟩;refine⟨fun d hd=>?_,h2,h3,fun x hx y hy=>h4 x (List.mem_cons_of_mem _ hx) y hy⟩
   rcases List.mem_append.1 hd with hd|hd
   ·exact h1 d hd
   ·exact h4 c List.mem_cons_self d hd
theorem cts_append (a b:List CE):cts (a++b)=cts a++cts b:=by unfold cts;rw[List.map_append]
theorem mem_cts {l:List CE} {t:CT} (h:t∈cts l):∃e∈l,e.f=t:=List.mem_map.1 h
theorem ordC_ins {Q R:List CE} {x:CE} (h:ordC (cts (Q++R))) (hR:∀r∈R,befK x.f.k r.f.k=true) (hQ:∀q∈Q,befK x.f.k q.f.k=false):ordC (cts (Q++x::R)):=by
 rw[cts_append,ordC_append] at h ⊢;obtain⟨h1,h2,h3⟩:=h;refine⟨h1,⟨fun d hd=>?_,h2⟩,fun a ha b hb=>?_⟩
 ·obtain⟨e,he,rfl⟩:=mem_cts hd;exact befK_anti (hR e he)
 ·obtain⟨q,hq,rfl⟩:=mem_cts ha
  rcases List.mem_cons.1 hb with rfl|hb
  ·exact hQ q hq
  ·exact h3 _ ha b hb
theorem last_all {Q:List CE} {x y:CE} (h:ordC (cts (Q++[y]))) (hy:befK x.f.k y.f.k=false):∀q∈Q++[y],befK x.f.k q.f.k=false:=by
 rw[cts_append,ordC_append] at h;intro q hq
 rcases List.mem_append.1 hq with hq|hq
 ·exact befK_le_trans (h.2.2 q.f (List.mem_map.2 ⟨q,hq,rfl⟩) y.f (List.mem_cons_self ..)) hy
 ·simp only[List.mem_cons,List.not_mem_nil,or_false] at hq;rw[hq];exact hy
theorem filt_ins {Q R:List CE} {x:CE} (hR:∀r∈R,befK x.f.k r.f.k=true) (k:KY):
  (Q++x::R).filter (fun d=>decide (d.f.k=k))=(Q++R).filter (fun d=>decide (d.f.k=k))++[x].filter (fun d=>decide (d.f.k=k)):=by
 rw[List.filter_append,List.filter_append,List.append_assoc]
 congr 1
 rw[List.filter_cons]
 by_cases e:x.f.k=k
 ·have hn:R.filter (fun d=>decide (d.f.k=k))=[]:=List.filter_eq_nil_iff.2 fun r hr hc=>by
   have h1:=ne_of_bef (hR r hr);exact h1 (e.trans (of_decide_eq_true hc).symm)
  rw[hn,List.filter_cons,decide_eq_true e]
  rfl
 ·rw[List.filter_cons,decide_eq_false e];simp
theorem set_swap {α:Type} (P:List α) (x y:α) (S:List α):((P++y::x::S).set (P.length+1) y).set P.length x=P++x::y::S:=by
 induction P with
 | nil=>rfl
 | cons p P ih=>simp only[List.cons_append,List.length_cons,List.set_cons_succ,ih]
theorem ces_set (sp:List Value):∀(es:List CE) (i:Nat) (b:CE),i < es.length →
  ((((((ces es++sp).set (i*6) (.int .i64 b.f.k.i)).set (i*6+1) (.int .u8 (b.f.k.t:Nat))).set (i*6+2) (.string b.f.k.n)).set (i*6+3) (.int .i64 b.f.k.c)).set (i*6+4) (.slice b.A b.f.v.length b.c)).set (i*6+5) (.bool b.f.g)=ces (es.set i b)++sp
 | [],i,b,h=>by simp at h
 | c::es,0,b,h=>by simp[ces,CE.cells,kcells]
 | c::es,i+1,b,h=>by
  have h1:=ces_set sp es i b (by simpa using h)
  have e0:(i+1)*6=i*6+1+1+1+1+1+1:=by omega
  simp only[ces,List.set_cons_succ,CE.cells,kcells,e0,List.cons_append,List.nil_append];rw[←h1]
theorem crow_cell {w:World} {g i j:Nat} {l:List CE} {sp:List Value} {t:CE} {v:Value} (h:Blk w g 105 (ces l++sp)) (ht:l[i]?=some t) (hj:j < 6) (hv:t.cells[j]?=some v):w.cell? ⟨g,i*6+j,none⟩=some v:=by
 have h1:=ces_at l i j t v ht hj hv;rw[h.cell,List.getElem?_append_left (List.getElem?_eq_some_iff.1 h1).1,h1]
theorem crow_put {w w':World} {g i:Nat} {l:List CE} {sp:List Value} {b:CE} (h:Blk w g 105 (ces l++sp)) (hi:i < l.length)
  (hw:w'=(((((w.setCell ⟨g,i*6,none⟩ (.int .i64 b.f.k.i)).setCell ⟨g,i*6+1,none⟩ (.int .u8 (b.f.k.t:Nat))).setCell ⟨g,i*6+2,none⟩ (.string b.f.k.n)).setCell ⟨g,i*6+3,none⟩ (.int .i64 b.f.k.c)).setCell ⟨g,i*6+4,none⟩ (.slice b.A b.f.v.length b.c)).setCell ⟨g,i*6+5,none⟩ (.bool b.f.g)):
  Blk w' g 105 (ces (l.set i b)++sp)∧Kept (·=g) w w':=by
 subst hw;refine⟨?_,(((((Kept.set1 w g _ _).setCell (p:=⟨g,_,none⟩) (fun _=>rfl) _).setCell (p:=⟨g,_,none⟩) (fun _=>rfl) _).setCell (p:=⟨g,_,none⟩) (fun _=>rfl) _).setCell (p:=⟨g,_,none⟩) (fun _=>rfl) _).setCell (p:=⟨g,_,none⟩) (fun _=>rfl) _⟩
 have:=(((((h.put (i*6) (.int .i64 b.f.k.i)).put (i*6+1) (.int .u8 (b.f.k.t:Nat))).put (i*6+2) (.string b.f.k.n)).put (i*6+3) (.int .i64 b.f.k.c)).put (i*6+4) (.slice b.A b.f.v.length b.c)).put (i*6+5) (.bool b.f.g)
 rw[ces_set sp l i b hi] at this;exact this
theorem cmpC_any (x y:CE) (u:World):
  Calls Tryz.prog 94 #[.agg #[.int .i64 x.f.k.i,.int .u8 (x.f.k.t:Nat),.string x.f.k.n,.int .i64 x.f.k.c,.slice x.A x.f.v.length x.c,.bool x.f.g],.agg #[.int .i64 y.f.k.i,.int .u8 (y.f.k.t:Nat),.string y.f.k.n,.int .i64 y.f.k.c,.slice y.A y.f.v.length y.c,.bool y.f.g]] u (NewNum u (cmpK x.f.k y.f.k)):=by
 have HC:Hid (∀v,New u v→Calls Tryz.prog 95 #[.agg #[.int .i64 x.f.k.i,.int .u8 (x.f.k.t:Nat),.string x.f.k.n,.int .i64 x.f.k.c],.agg #[.int .i64 y.f.k.i,.int .u8 (y.f.k.t:Nat),.string y.f.k.n,.int .i64 y.f.k.c]] v (NewNum u (cmpK x.f.k y.f.k))):=fun v hv=>
  (compare_any x.f.k y.f.k v).mono fun e w' h=>⟨h.1,hv.new h.2⟩
 generalize cmpK x.f.k y.f.k=z at *;go_enter Tryz.func94,Tryz.ntmps94;go_wp2_with fail;refine (HC.out _ ((kR.alloc _).alloc _)).mono ?_;rintro e w2 ⟨rfl,h2⟩;go_wp2;go_ret;exact⟨rfl,h2⟩
end
section
set_option maxRecDepth 100000
open Go.ChangeShapes Go.WideShapes Go.ChangeAt Go.RowKit
def InsP (w:World) (g:Nat) (sp:List Value) (P O S:List CE) (e:Ending) (w':World):Prop:=
 e=.returned (.tuple #[])∧∃M:List CE,M.length=O.length∧ordC (cts M)∧(∀k,M.filter (fun d=>decide (d.f.k=k))=O.filter (fun d=>decide (d.f.k=k)))∧Blk w' g 105 (ces (P++(M++S))++sp)∧Kept (·=g) w w'
def InsM (O:List CE) (k:Nat) (M:List CE):Prop:=M.length=(O.take k).length∧ordC (cts M)∧∀q,M.filter (fun d=>decide (d.f.k=q))=(O.take k).filter (fun d=>decide (d.f.k=q))
theorem ins_step {O M Q R:List CE} {x:CE} {k:Nat} (h:InsM O k M) (hx:O[k]?=some x) (hM:M=Q++R) (hR:∀r∈R,befK x.f.k r.f.k=true) (hQ:∀q∈Q,befK x.f.k q.f.k=false):InsM O (k+1) (Q++x::R):=by
 subst hM;obtain⟨h1,h2,h3⟩:=h
 have e:O.take (k+1)=O.take k++[x]:=by rw[List.take_add_one,hx];rfl
 refine⟨?_,ordC_ins h2 hR hQ,fun q=>?_⟩
 ·have h5:(O.take k++[x]).length=(O.take k).length+1:=List.length_append;rw[e,h5,←h1];simp only[List.length_append,List.length_cons];omega
 ·rw[filt_ins hR,h3 q,e,List.filter_append]
theorem insC_any (g n c a b:Nat) (P O S:List CE) (sp:List Value) (w:World) (hb:Blk w g 105 (ces (P++(O++S))++sp)) (ha:P.length=a) (hO:a+O.length=b) (hbn:b≤n) (hn:n≤140737488351232):
  Calls Tryz.prog 136 #[.slice (some ⟨g,0,none⟩) n c,.int .i64 (a:Nat),.int .i64 (b:Nat),.func (.func 94) #[] #[]] w (InsP w g sp P O S):=by
 have HB:=jH hb;have HP:Hid (P.length=a):=ha
 have I1:Hid (InsM O 1 (O.take 1)):=by
  refine⟨rfl,?_,fun _=>rfl⟩
  match O with
  | []=>trivial
  | x::_=>exact⟨by simp,trivial⟩
 clear hb ha;go_enter Tryz.func136,Tryz.ntmps136;go_wp2_with fail
 go_loopw [8,9] (fun ti _ wr=>∃(k:Nat) (M:List CE),1≤k∧(k≤O.length∨k=1)∧ti=.int .i64 ((a:Int)+(k:Int))∧Hid (InsM O k M)∧Hid (Blk wr g 105 (ces (P++(M++(O.drop k++S)))++sp))∧Hid (Kept (·=g) w wr)) (fun ti _ _=>b - (intOf ti).toNat)
 case atStart=>exact⟨1,O.take 1,Nat.le_refl _,.inr rfl,by go_num,I1,by rw[Hid,←List.append_assoc (O.take 1),List.take_append_drop];exact HB.out,kR⟩
 case round=>
  obtain⟨k,M,hk1,hk2,rfl,VM,VB,VK⟩:=hrel
  by_cases hlt:k < O.length
  ·have hw1:(a:Int)+(k:Int) < (b:Int):=by omega
   obtain⟨x,hx⟩:∃x,O[k]?=some x:=⟨_,List.getElem?_eq_getElem hlt⟩;have HX:=jH hx
   have hdk:O.drop k=x::O.drop (k+1):=by
    obtain⟨h1,e1⟩:=List.getElem?_eq_some_iff.1 hx;rw[List.drop_eq_getElem_cons h1,e1]
   have B0:Hid (Blk wr g 105 (ces ((P++M)++x::([]++(O.drop (k+1)++S)))++sp)):=by
    have:=VB.out
    rw[hdk] at this;rw[Hid,List.append_assoc,List.nil_append];exact this
   have hml:M.length=k:=by have:=VM.out.1;rw[List.length_take] at this;omega
   have HML:=jH hml;clear hdk hx;go_wp2_with fail
   go_loopw [9] (fun tj wx=>∃(Q R:List CE) (j:Nat),j=a+Q.length∧tj=.int .i64 (j:Int)∧Hid (M=Q++R)∧Hid (∀r∈R,befK x.f.k r.f.k=true)∧Hid (Blk wx g 105 (ces ((P++Q)++x::(R++(O.drop (k+1)++S)))++sp))∧Hid (Kept (·=g) w wx)) (fun tj _=>(intOf tj).toNat)
   case atStart=>exact⟨M,[],a+M.length,rfl,by rw[hml];go_num,(List.append_nil _).symm,by simp[Hid],B0,VK⟩
   case round=>
    obtain⟨Q,R,j,hj,rfl,UM,UR,UB,UK⟩:=hrel
    have hjb:j < b:=by
     have h1:=congrArg List.length UM.out;rw[List.length_append,hml] at h1;omega
    clear VB VK B0 hml
    rcases List.eq_nil_or_concat Q with h0|⟨Q',y,h0⟩
    ·subst h0;have d1:decide (a < j)=false:=decide_eq_false (by simp at hj;omega);have E1:=jH (ins_step VM.out HX.out UM.out UR.out (by simp))
     have E2:Hid (Blk wr g 105 (ces (P++(([]++x::R)++(O.drop (k+1)++S)))++sp)):=by
      have:=UB.out
      rw[List.append_nil] at this;exact this
     have UK2:=jH UK.out;clear UM UR UB UK hj;go_wp2_with fail;go_quiet (fail);have E3:=jH (E2.out.drewN nq);have UK3:Hid (Kept (·=g) w (wr.drewN nq)):=UK2.out.drewN nq;go_wp2;go_roundw
     case rel=>exact⟨k+1,_,by omega,by omega,by go_num,E1,E3,UK3⟩
     case measure=>simp[intOf];omega
    ·rw[List.concat_eq_append] at h0;subst h0;obtain⟨m,hm⟩:∃m,m=a+Q'.length:=⟨_,rfl⟩
     have hmj:m+1=j:=by rw[hm,hj,List.length_append,List.length_singleton];omega
     have hx:((P++(Q'++[y]))++x::(R++(O.drop (k+1)++S)))[j]?=some x:=by
      rw[List.getElem?_append_right (by rw[List.length_append,HP.out];omega),List.length_append,HP.out,show j - (a+(Q'++[y]).length)=0 by omega]
      rfl
     have hy:((P++(Q'++[y]))++x::(R++(O.drop (k+1)++S)))[m]?=some y:=by
      rw[List.getElem?_append_left (by rw[List.length_append,HP.out,List.length_append,List.length_singleton];omega),List.getElem?_append_right (by rw[HP.out];omega),HP.out,List.getElem?_append_right (by omega),show m - a - Q'.length=0 by omega]
      rfl
     have hlen:j < ((P++(Q'++[y]))++x::(R++(O.drop (k+1)++S))).length:=(List.getElem?_eq_some_iff.1 hx).1;have HLEN:=jH hlen
     have SA:Hid (∀wx,New wr wx→wx.cell? ⟨g,j*6,none⟩=some (.int .i64 x.f.k.i)∧wx.cell? ⟨g,j*6+1,none⟩=some (.int .u8 (x.f.k.t:Nat))∧wx.cell? ⟨g,j*6+2,none⟩=some (.string x.f.k.n)∧wx.cell? ⟨g,j*6+3,none⟩=some (.int .i64 x.f.k.c)∧wx.cell? ⟨g,j*6+4,none⟩=some (.slice x.A x.f.v.length x.c)∧wx.cell? ⟨g,j*6+5,none⟩=some (.bool x.f.g)∧wx.cell? ⟨g,m*6,none⟩=some (.int .i64 y.f.k.i)∧wx.cell? ⟨g,m*6+1,none⟩=some (.int .u8 (y.f.k.t:Nat))∧wx.cell? ⟨g,m*6+2,none⟩=some (.string y.f.k.n)∧wx.cell? ⟨g,m*6+3,none⟩=some (.int .i64 y.f.k.c)∧wx.cell? ⟨g,m*6+4,none⟩=some (.slice y.A y.f.v.length y.c)∧wx.cell? ⟨g,m*6+5,none⟩=some (.bool y.f.g)):=fun wx h1=>by
      have q:=UB.out.kept h1 id;exact⟨crow_cell (j:=0) q hx (by omega) rfl,crow_cell (j:=1) q hx (by omega) rfl,crow_cell (j:=2) q hx (by omega) rfl,crow_cell (j:=3) q hx (by omega) rfl,crow_cell (j:=4) q hx (by omega) rfl,crow_cell (j:=5) q hx (by omega) rfl,crow_cell (j:=0) q hy (by omega) rfl,crow_cell (j:=1) q hy (by omega) rfl,crow_cell (j:=2) q hy (by omega) rfl,crow_cell (j:=3) q hy (by omega) rfl,crow_cell (j:=4) q hy (by omega) rfl,crow_cell (j:=5) q hy (by omega) rfl⟩
     have D1:Hid (New wr wr.drew):=kR.drew
     have HMM:Hid (m=P.length+Q'.length):=by rw[HP.out];exact hm
     obtain⟨a0,a1,a2,a3,a4,a5,b0,b1,b2,b3,b4,b5⟩:=SA.out wr kR
     have v1:(j:Int) < (n:Int):=by omega
     have v2:(m:Int) < (n:Int):=by omega
     have v3:(0:Int)≤(j:Int):=by omega
     have v4:(0:Int)≤(m:Int):=by omega
     have v5:IntKind.i64.wrap ((j:Int) - 1)=(m:Int):=by rw[IntKind.wrap_i64];omega
     have v6:decide (a < j)=true:=decide_eq_true (by omega)
     have hm2:m+1≤j:=by omega
     have hm3:j≤m+1:=by omega
     have HJ:=jH hmj;have HM0:=jH hm;clear hx hy hlen hmj hm hj
     have CMP:Hid (∀v:World,Calls Tryz.prog 94 #[.agg #[.int .i64 x.f.k.i,.int .u8 (x.f.k.t:Nat),.string x.f.k.n,.int .i64 x.f.k.c,.slice x.A x.f.v.length x.c,.bool x.f.g],.agg #[.int .i64 y.f.k.i,.int .u8 (y.f.k.t:Nat),.string y.f.k.n,.int .i64 y.f.k.c,.slice y.A y.f.v.length y.c,.bool y.f.g]] v (NewNum v (cmpK x.f.k y.f.k))):=fun v=>cmpC_any x y v
     obtain⟨z,hz⟩:∃z,cmpK x.f.k y.f.k=z:=⟨_,rfl⟩;rw[hz] at CMP
     have HZ:Hid (befK x.f.k y.f.k=decide (z < 0)):=by rw[←hz];rfl
     clear hz
     by_cases hlt2:z < 0
     ·have d2:decide (z < 0)=true:=decide_eq_true hlt2;have HBF:Hid (befK x.f.k y.f.k=true):=HZ.out.trans d2;clear hlt2;go_wp2_with fail
      go_region_held3 (fun wx=>wx.cell? ⟨g,j*6,none⟩=some (.int .i64 x.f.k.i)∧wx.cell? ⟨g,j*6+1,none⟩=some (.int .u8 (x.f.k.t:Nat))∧wx.cell? ⟨g,j*6+2,none⟩=some (.string x.f.k.n)∧wx.cell? ⟨g,j*6+3,none⟩=some (.int .i64 x.f.k.c)∧wx.cell? ⟨g,j*6+4,none⟩=some (.slice x.A x.f.v.length x.c)∧wx.cell? ⟨g,j*6+5,none⟩=some (.bool x.f.g)∧wx.cell? ⟨g,m*6,none⟩=some (.int .i64 y.f.k.i)∧wx.cell? ⟨g,m*6+1,none⟩=some (.int .u8 (y.f.k.t:Nat))∧wx.cell? ⟨g,m*6+2,none⟩=some (.string y.f.k.n)∧wx.cell? ⟨g,m*6+3,none⟩=some (.int .i64 y.f.k.c)∧wx.cell? ⟨g,m*6+4,none⟩=some (.slice y.A y.f.v.length y.c)∧wx.cell? ⟨g,m*6+5,none⟩=some (.bool y.f.g))
       (first
        | assumption
        | exact SA.out _ kR
        | exact SA.out _ D1.out
        | exact SA.out _ (D1.out.new KC.out)
        | fail)
       (first
        | (go_at_call 94;refine (CMP.out _).mono ?_;rintro e wC ⟨rfl,h1⟩;have KC:=jH h1;clear h1))
      all_goals
       have N5:Hid (New wr wC):=D1.out.new KC.out;have URC:=jH (UB.out.kept N5.out id);have UKC:=jH (UK.out.new N5.out);clear a0 a1 a2 a3 a4 a5 b0 b1 b2 b3 b4 b5;obtain⟨a0,a1,a2,a3,a4,a5,b0,b1,b2,b3,b4,b5⟩:=SA.out wC N5.out;have f0:=URC.out.free (j*6);have f1:=URC.out.free (j*6+1);have f2:=URC.out.free (j*6+2);have f3:=URC.out.free (j*6+3);have f4:=URC.out.free (j*6+4);have f5:=URC.out.free (j*6+5);have h0:=URC.out.free (m*6);have h1:=URC.out.free (m*6+1);have h2:=URC.out.free (m*6+2);have h3:=URC.out.free (m*6+3);have h4:=URC.out.free (m*6+4);have h5:=URC.out.free (m*6+5);clear SA UB UK D1 KC N5
       go_wp2_with fail
       go_region
       all_goals
        obtain⟨w5,hw5⟩:∃w5,w5=((((((wC.setCell ⟨g,j*6,none⟩ (.int .i64 y.f.k.i)).setCell ⟨g,j*6+1,none⟩ (.int .u8 (y.f.k.t:Nat))).setCell ⟨g,j*6+2,none⟩ (.string y.f.k.n)).setCell ⟨g,j*6+3,none⟩ (.int .i64 y.f.k.c)).setCell ⟨g,j*6+4,none⟩ (.slice y.A y.f.v.length y.c)).setCell ⟨g,j*6+5,none⟩ (.bool y.f.g)):=⟨_,rfl⟩;obtain⟨bs5,ks5⟩:=crow_put (b:=y) URC.out HLEN.out hw5;obtain⟨w6,hw6⟩:∃w6,w6=((((((w5.setCell ⟨g,m*6,none⟩ (.int .i64 x.f.k.i)).setCell ⟨g,m*6+1,none⟩ (.int .u8 (x.f.k.t:Nat))).setCell ⟨g,m*6+2,none⟩ (.string x.f.k.n)).setCell ⟨g,m*6+3,none⟩ (.int .i64 x.f.k.c)).setCell ⟨g,m*6+4,none⟩ (.slice x.A x.f.v.length x.c)).setCell ⟨g,m*6+5,none⟩ (.bool x.f.g)):=⟨_,rfl⟩
        obtain⟨bs6,ks6⟩:=crow_put (i:=m) (b:=x) bs5 (by rw[List.length_set];have:=HLEN.out;omega) hw6
        have ESW:(((P++(Q'++[y]))++x::(R++(O.drop (k+1)++S))).set j y).set m x=(P++Q')++x::((y::R)++(O.drop (k+1)++S)):=by
         have:=set_swap (P++Q') x y (R++(O.drop (k+1)++S))
         rw[List.length_append,←HMM.out,HJ.out] at this;simpa only[List.append_assoc,List.cons_append,List.nil_append] using this
        rw[ESW] at bs6;have E6:Hid (Blk w6.drew g 105 (ces ((P++Q')++x::((y::R)++(O.drop (k+1)++S)))++sp)):=bs6.drew;have K6:Hid (Kept (·=g) w w6.drew):=((UKC.out.trans ks5 fun _ _ h=>h).trans ks6 fun _ _ h=>h).drew
        have UR2:Hid (∀r∈y::R,befK x.f.k r.f.k=true):=fun r hr=>by
         rcases List.mem_cons.1 hr with rfl|hr
         ·exact HBF.out
         ·exact UR.out r hr
        have UM2:Hid (M=Q'++(y::R)):=by rw[Hid,UM.out,List.append_assoc];rfl
        rw[hw5] at hw6;have HW:=jH hw6;clear hw5 hw6 bs5 bs6 ks5 ks6 ESW a0 a1 a2 a3 a4 a5 b0 b1 b2 b3 b4 b5 f0 f1 f2 f3 f4 f5 h0 h1 h2 h3 h4 h5;go_wp2;go_roundw
        case rel=>
         refine⟨Q',y::R,m,HM0.out,by first|rfl|go_num,UM2,UR2,?_,?_⟩
         ·have:=E6;rw[HW.out] at this;exact this
         ·have:=K6;rw[HW.out] at this;exact this
        case measure=>simp[intOf];omega
     ·have d2:decide (z < 0)=false:=decide_eq_false hlt2;have HBF:Hid (befK x.f.k y.f.k=false):=HZ.out.trans d2;clear hlt2;have E1:=jH (ins_step VM.out HX.out UM.out UR.out (last_all (by have:=VM.out.2.1;rw[UM.out,cts_append,ordC_append] at this;exact this.1) HBF.out));go_wp2_with fail
      go_region_held3 (fun wx=>wx.cell? ⟨g,j*6,none⟩=some (.int .i64 x.f.k.i)∧wx.cell? ⟨g,j*6+1,none⟩=some (.int .u8 (x.f.k.t:Nat))∧wx.cell? ⟨g,j*6+2,none⟩=some (.string x.f.k.n)∧wx.cell? ⟨g,j*6+3,none⟩=some (.int .i64 x.f.k.c)∧wx.cell? ⟨g,j*6+4,none⟩=some (.slice x.A x.f.v.length x.c)∧wx.cell? ⟨g,j*6+5,none⟩=some (.bool x.f.g)∧wx.cell? ⟨g,m*6,none⟩=some (.int .i64 y.f.k.i)∧wx.cell? ⟨g,m*6+1,none⟩=some (.int .u8 (y.f.k.t:Nat))∧wx.cell? ⟨g,m*6+2,none⟩=some (.string y.f.k.n)∧wx.cell? ⟨g,m*6+3,none⟩=some (.int .i64 y.f.k.c)∧wx.cell? ⟨g,m*6+4,none⟩=some (.slice y.A y.f.v.length y.c)∧wx.cell? ⟨g,m*6+5,none⟩=some (.bool y.f.g))
       (first
        | assumption
        | exact SA.out _ kR
        | exact SA.out _ D1.out
        | exact SA.out _ (D1.out.new KC.out)
        | fail)
       (first
        | (go_at_call 94;refine (CMP.out _).mono ?_;rintro e wC ⟨rfl,h1⟩;have KC:=jH h1;clear h1))
      all_goals
       have N5:Hid (New wr wC):=D1.out.new KC.out
       have E2:Hid (Blk wC g 105 (ces (P++((Q'++[y]++x::R)++(O.drop (k+1)++S)))++sp)):=by
        have:=UB.out.kept N5.out id
        simpa only[List.append_assoc,List.cons_append,Hid] using this
       have UK3:Hid (Kept (·=g) w wC):=UK.out.new N5.out;clear a0 a1 a2 a3 a4 a5 b0 b1 b2 b3 b4 b5 SA UB UM UR UK;go_wp2;go_roundw
       case rel=>exact⟨k+1,_,by omega,by omega,by go_num,E1,E2,UK3⟩
       case measure=>simp[intOf];omega
  ·have E:Hid (InsP w g sp P O S (.returned (.tuple #[])) wr):=by
    have h1:O.take k=O:=List.take_of_length_le (by omega);have h2:O.drop k=[]:=List.drop_of_length_le (by omega);obtain⟨m1,m2,m3⟩:=VM.out;rw[h1] at m1 m3
    have:=VB.out
    rw[h2,List.nil_append] at this;exact⟨rfl,M,m1,m2,m3,this,VK.out⟩
   have d9:¬((a:Int)+(k:Int) < (b:Int)):=by omega
   go_wp2
   go_end0
   exact E.out
end
end Go.Proofs.YtbiihjdjbknibaaGreat
