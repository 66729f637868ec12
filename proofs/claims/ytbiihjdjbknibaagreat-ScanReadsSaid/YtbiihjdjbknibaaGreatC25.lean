/-
  Layer 7: contracts (Fg Fh Fi).
-/
import Derived.Test.YtbiihjdjbknibaaGreatC24
import Derived.Laws.StructEq
import Derived.Lib.QuietBelow
import Derived.Deep.Slices
import Derived.Deep.Fields
namespace Go.Proofs.YtbiihjdjbknibaaGreat
set_option maxRecDepth 100000
set_option maxHeartbeats 8000000
set_option linter.unusedSimpArgs false
set_option linter.unusedVariables false
section
set_option maxRecDepth 100000
open Go.RowKit Go.ChangeShapes Go.WideShapes Go.ChangeAt Go.Deep
theorem key_parts (a b:KY):decide (a=b)=(a.i == b.i && (((a.t:Int) == (b.t:Int)) && (a.n.toList == b.n.toList && a.c == b.c))):=by
 rw[Bool.eq_iff_iff];simp only[decide_eq_true_eq,Bool.and_eq_true,beq_iff_eq]
 constructor
 ·rintro rfl;exact⟨rfl,rfl,rfl,rfl⟩
 ·rintro ⟨h1,h2,h3,h4⟩;exact KY.ext_ h1 (by omega) (ba_ext (by rw[←Lib.toList_data,←Lib.toList_data];exact h3)) h4
theorem key_eql (a b:KY) (w:World):
  Sem.run Tryz.prog (binOp .eql 92 (.agg #[.int .i64 a.i,.int .u8 (a.t:Nat),.string a.n,.int .i64 a.c]) (.agg #[.int .i64 b.i,.int .u8 (b.t:Nat),.string b.n,.int .i64 b.c])) w=.ok (.bool (decide (a=b))) w:=by
 have hS:Tryz.prog.underlying 92=some (.struct (Tryz.prog.fieldsOf 92)):=by kernel_rfl
 have hp:Tryz.prog.stoodInHeld 92=false:=by kernel_rfl
 rw[key_parts];obtain⟨ai,at_,an,ac⟩:=a;obtain⟨bi,bt,bn,bc⟩:=b
 dsimp only
 rw[run_eql_struct,show (10000:Nat)=9999+1 from rfl,run_equalIn_agg w 9999 92 _ _ hS hp];simp only[Program.fieldsOf,Tryz.underlying92]
 go_simp
 by_cases h1:ai=bi<;>by_cases h2:(at_:Int)=(bt:Int)<;>by_cases h3:an.toList=bn.toList<;>by_cases h4:ac=bc<;>simp[h1,h2,h3,h4]
theorem key_neq (a b:KY) (w:World):
  Sem.run Tryz.prog (binOp .neq 92 (.agg #[.int .i64 a.i,.int .u8 (a.t:Nat),.string a.n,.int .i64 a.c]) (.agg #[.int .i64 b.i,.int .u8 (b.t:Nat),.string b.n,.int .i64 b.c])) w=.ok (.bool (!decide (a=b))) w:=by
 have hS:Tryz.prog.underlying 92=some (.struct (Tryz.prog.fieldsOf 92)):=by kernel_rfl
 have hp:Tryz.prog.stoodInHeld 92=false:=by kernel_rfl
 rw[key_parts];obtain⟨ai,at_,an,ac⟩:=a;obtain⟨bi,bt,bn,bc⟩:=b
 dsimp only
 rw[run_neq_struct,show (10000:Nat)=9999+1 from rfl,run_equalIn_agg w 9999 92 _ _ hS hp];simp only[Program.fieldsOf,Tryz.underlying92]
 go_simp
 by_cases h1:ai=bi<;>by_cases h2:(at_:Int)=(bt:Int)<;>by_cases h3:an.toList=bn.toList<;>by_cases h4:ac=bc<;>simp[h1,h2,h3,h4]
end
section
set_option maxRecDepth 100000
open Go.RowKit Go.ChangeShapes Go.WideShapes Go.ChangeAt Go.Deep
section
variable {H:Type} {enc:TypeId×Value→H} {P:Program} {W:World}
def Rds (enc:TypeId×Value→H) (P:Program) (W:World) (t:TypeId) (cs:List Value) (d:DataW H):Prop:=
 (∃n p,DataW.trod enc P W 0 (fun _=>true) true n t cs=some (d,p))∧∀m∈d.weights P t,m≤reachBytes
theorem Rds.field {t:TypeId} {fs:Array Field} {cs:List Value} {d:DataW H} (h:Rds enc P W t cs d) (ht:P.underlying t=some (.struct fs)):
  cs.length=P.cellsOf t∧∀(j:Nat) (f:Field),fs[j]?=some f→∃d',Rds enc P W f.type ((cs.drop f.offset).take (P.cellsOf f.type)) d':=by
 obtain⟨⟨n,p,h⟩,hw⟩:=h;obtain⟨xs,n',rfl,hx,hlen,hxl,hf⟩:=DataW.trod_struct ht h
 injection hx with hx1 hx2
 refine⟨hlen,fun j f hj=>?_⟩;have hlt:j < fs.size:=(Array.getElem?_eq_some_iff.1 hj).1;have h1:=hf j f hj;have hxj:xs[j]?=some (xs[j]'(by omega)):=List.getElem?_eq_getElem (by omega);refine⟨(xs[j]'(by omega)).1,⟨n',(xs[j]'(by omega)).2,?_⟩,fun m hm=>hw m ?_⟩
 ·rw[hxj] at h1;exact h1
 ·rw[hx1];simp only[DataW.weights,ht];refine DataW.weights_mem_each (j:=j) (t:=f.type) (d:=(xs[j]'(by omega)).1) ?_ ?_ m hm
  ·rw[List.getElem?_map,Array.getElem?_toList,hj];rfl
  ·rw[List.getElem?_map,hxj];rfl
theorem Rds.int_ {t:TypeId} {cs:List Value} {d:DataW H} {k:IntKind} (h:Rds enc P W t cs d) (ht:P.underlying t=some (.int k)):∃x:Int,cs=[.int k x]∧(Lit.int k x).wf=true:=by
 obtain⟨⟨n,p,h⟩,_⟩:=h;obtain⟨x,hx,_,hw⟩:=DataW.trod_int ht h;exact⟨x,hx,hw⟩
theorem Rds.bool_ {t:TypeId} {cs:List Value} {d:DataW H} (h:Rds enc P W t cs d) (ht:P.underlying t=some .bool):∃x:Bool,cs=[.bool x]:=by
 obtain⟨⟨n,p,h⟩,_⟩:=h;obtain⟨x,hx,_⟩:=DataW.trod_bool ht h;exact⟨x,hx⟩
theorem Rds.string_ {t:TypeId} {cs:List Value} {d:DataW H} (h:Rds enc P W t cs d) (ht:P.underlying t=some .string):∃s:ByteArray,cs=[.string s]∧s.size≤maxLen:=by
 obtain⟨⟨n,p,h⟩,_⟩:=h;obtain⟨s,hx,_,hl⟩:=DataW.trod_string ht h;exact⟨s,hx,hl⟩
theorem Rds.bytes_ {t e:TypeId} {cs:List Value} {d:DataW H} (h:Rds enc P W t cs d) (ht:P.underlying t=some (.slice e)) (he:P.underlying e=some (.int .u8)) (hc:P.cellsOf e=1) (hby:P.bytesOf e=1):
  ∃A n c l,cs=[.slice A n c]∧IsB W (.slice A n c) A n c l:=by
 obtain⟨⟨fuel,p,hf⟩,hsz⟩:=h
 rcases open_ints ht he hc hf with ⟨hcs,hx⟩|⟨a,len,cap,zs,hcs,_,hl,hm,hz,hx,hcell,hwz⟩
 ·exact⟨none,0,0,[],hcs,rfl,Bts.nil _ _,fun _=>⟨rfl,rfl⟩,Nat.le_refl _,by omega⟩
 ·simp only[if_true] at hz;simp only[Prod.mk.injEq] at hx;have hs2:=hsz ((zs.take len).length+(zs.drop len).length) (by rw[hx.1];simp[DataW.weights,ht,hby,lits])
  have hcap:cap≤140737488351232:=by simp[reachBytes] at hs2;omega
  refine⟨some a,len,cap,(zs.take len).map Int.toNat,hcs,rfl,⟨by simp;omega,?_,?_⟩,fun h=>(by cases h),hl,hcap⟩
  ·intro x hx;obtain⟨z,hz2,rfl⟩:=List.mem_map.1 hx;obtain⟨m,rfl,hm⟩:=u8_nat (hwz z (List.mem_of_mem_take hz2));simpa using hm
  ·intro h0;obtain⟨b,off,rfl,hc2⟩:=ints_at hcell (by omega);refine⟨b,off,rfl,fun j x hx=>?_⟩;rw[List.getElem?_map] at hx;obtain⟨z,hz2,rfl⟩:=Option.map_eq_some_iff.1 hx;rw[List.getElem?_take] at hz2
   split at hz2
   ·obtain⟨m,rfl,_⟩:=u8_nat (hwz z (List.mem_of_getElem? hz2));have hj:j < zs.length:=(List.getElem?_eq_some_iff.1 hz2).1
    have:=hc2 j hj
    rw[this,List.getD_eq_getElem?_getD,hz2];simp
   ·cases hz2
theorem weightsAll_in {e:TypeId}:∀{l:List (DataW H)} {d:DataW H},d∈l→∀n∈d.weights P e,n∈DataW.weightsAll P e l:=by
 intro l
 induction l with
 | nil=>intro d hd;cases hd
 | cons x l ih=>
  intro d hd n hn;unfold DataW.weightsAll
  rcases List.mem_cons.1 hd with rfl|hd
  ·exact List.mem_append_left _ hn
  ·exact List.mem_append_right _ (ih hd n hn)
theorem Rds.list_ {t e:TypeId} {cs:List Value} {d:DataW H} (h:Rds enc P W t cs d) (ht:P.underlying t=some (.slice e)) (h0:0 < P.cellsOf e):
  ∃A n c,cs=[.slice A n c]∧(A=none→c=0∧n=0)∧n≤c∧c≤maxLen∧n*P.bytesOf e≤reachBytes ∧
   (0 < n→∃g o,A=some ⟨g,o,none⟩∧∀i,i < n→∃(us:List Value) (d':DataW H),us.length=P.cellsOf e∧(∀(j:Nat) (u:Value),us[j]?=some u→W.cell? ⟨g,o+(i*P.cellsOf e+j),none⟩=some u)∧Rds enc P W e us d'):=by
 obtain⟨⟨fuel,p,hf⟩,hsz⟩:=h
 rcases open_slice ht hf with ⟨hcs,hx⟩|⟨a,len,cap,m,n',D,Pl,hcs,_,hl,hm,hmm,hx,hi⟩
 ·exact⟨none,0,0,hcs,fun _=>⟨rfl,rfl⟩,Nat.le_refl _,by simp,by simp,fun h=>absurd h (by omega)⟩
 ·simp only[if_true] at hmm;subst hmm;simp only[Prod.mk.injEq] at hx
  have hlen:((List.range len).map D).length=len:=by simp
  have hw1:(((List.range len).map D).length+((List.range (m - len)).map fun j=>D (len+j)).length)*P.bytesOf e≤reachBytes:=hsz _ (by rw[hx.1];simp[DataW.weights,ht])
  have hD:∀i,i < len→∀q∈(D i).weights P e,q≤reachBytes:=fun i hil q hq=>hsz q (by
   rw[hx.1];simp only[DataW.weights,ht]
   exact List.mem_cons_of_mem _ (List.mem_append_left _ (weightsAll_in (List.mem_map.2 ⟨i,List.mem_range.2 hil,rfl⟩) q hq)))
  refine⟨some a,len,m,hcs,fun h=>(by cases h),hl,hm,?_,fun hp=>?_⟩
  ·rw[hlen] at hw1;exact Nat.le_trans (Nat.mul_le_mul_right _ (Nat.le_add_right _ _)) hw1
  ·have each:∀i,i < len→∃(us:List Value) (d':DataW H),us.length=P.cellsOf e∧(∀(j:Nat) (u:Value),us[j]?=some u→W.cell? (a.add (i*P.cellsOf e+j))=some u)∧Rds enc P W e us d':=fun i hil=>by
    obtain⟨cs',hc,ht'⟩:=hi i (by omega);obtain⟨_,hcl,hcell⟩:=World.cells?_some hc;refine⟨cs',D i,hcl,fun j u hu=>?_,⟨n',Pl i,ht'⟩,hD i hil⟩;have hj:j < cs'.length:=(List.getElem?_eq_some_iff.1 hu).1;rw[←add_add,hcell j (by omega),hu]
   obtain⟨g,o,spot⟩:=a;obtain⟨us,d',hul,hu,_⟩:=each 0 hp
   have hspot:spot=none:=by
    have:=World.cell?_spot (hu 0 us[0] (List.getElem?_eq_getElem (by omega)))
    simpa [Addr.add] using this
   subst hspot
   exact⟨g,o,rfl,fun i hil=>by
    obtain⟨us,d',e1,e2,e3⟩:=each i hil
    exact⟨us,d',e1,fun j u hu=>by rw[←add_plain];exact e2 j u hu,e3⟩⟩
theorem listOf {α:Type} {R:Nat→α→Prop}:∀(n:Nat),(∀i,i < n→∃x,R i x)→∃l:List α,l.length=n∧∀i x,l[i]?=some x→R i x:=by
 intro n
 induction n with
 | zero=>intro _;exact⟨[],rfl,by simp⟩
 | succ n ih=>
  intro h
  obtain⟨l,hl,hr⟩:=ih fun i hi=>h i (by omega)
  obtain⟨x,hx⟩:=h n (by omega);refine⟨l++[x],by simp[hl],fun i y hy=>?_⟩
  rcases Nat.lt_or_ge i l.length with hi|hi
  ·rw[List.getElem?_append_left hi] at hy;exact hr i y hy
  ·rw[List.getElem?_append_right hi] at hy
   have:i - l.length=0:=by
    have:=(List.getElem?_eq_some_iff.1 hy).1
    simp at this;omega
   rw[this] at hy;simp at hy;subst hy;rw[show i=n by omega];exact hx
theorem Arg.rdsS {base:Nat} {t e:TypeId} {v:Value} {d:DataW H} {p:List MemPlace} (h:Arg enc P W base t v d p) (ht:P.underlying t=some (.slice e)):Rds enc P W t [v] d:=by
 obtain⟨A,n,c,rfl⟩:=okWide_slice ht h.ok;obtain⟨fuel,hf⟩:=h.tr;exact⟨⟨fuel,p,by simpa [Value.cells] using hf⟩,h.sz⟩
theorem Arg.rds {base:Nat} {t:TypeId} {fs:Array Field} {v:Value} {d:DataW H} {p:List MemPlace} (h:Arg enc P W base t v d p) (ht:P.underlying t=some (.struct fs)):∃cs,v=.agg cs∧Rds enc P W t cs.toList d:=by
 obtain⟨cs,rfl,hsz⟩:=okWide_struct ht h.ok;obtain⟨fuel,hf⟩:=h.tr;exact⟨cs,rfl,⟨fuel,p,by simpa [Value.cells] using hf⟩,h.sz⟩
theorem cut1 {cs:List Value} {j:Nat} {v:Value} (h:(cs.drop j).take 1=[v]):cs[j]?=some v:=by
 have:=congrArg (fun l:List Value=>l[0]?) h
 simpa using this
end
def KyIn (k:KY):Prop:=(-9223372036854775808≤k.i∧k.i≤9223372036854775807)∧k.t < 256∧k.n.size≤maxLen∧(-9223372036854775808≤k.c∧k.c≤9223372036854775807)
section
variable {H:Type} {enc:TypeId×Value→H} {W:World}
theorem Rds.key_ {cs:List Value} {d:DataW H} (h:Rds enc Tryz.prog W 92 cs d):∃k:KY,cs=kcells k∧KyIn k:=by
 obtain⟨hl,hf⟩:=h.field Tryz.underlying92
 have h4:Tryz.prog.cellsOf 92=4:=by kernel_rfl
 have ci:Tryz.prog.cellsOf 3=1:=by kernel_rfl
 have c8:Tryz.prog.cellsOf 5=1:=by kernel_rfl
 have cs1:Tryz.prog.cellsOf 9=1:=by kernel_rfl
 rw[h4] at hl;obtain⟨d0,r0⟩:=hf 0 _ rfl;obtain⟨d1,r1⟩:=hf 1 _ rfl;obtain⟨d2,r2⟩:=hf 2 _ rfl;obtain⟨d3,r3⟩:=hf 3 _ rfl;obtain⟨x0,e0,b0⟩:=r0.int_ Tryz.underlying3;obtain⟨x1,e1,b1⟩:=r1.int_ Tryz.underlying5;obtain⟨x2,e2,b2⟩:=r2.string_ Tryz.underlying9;obtain⟨x3,e3,b3⟩:=r3.int_ Tryz.underlying3;have e0:(cs.drop 0).take (Tryz.prog.cellsOf 3)=[.int .i64 x0]:=e0;have e1:(cs.drop 1).take (Tryz.prog.cellsOf 5)=[.int .u8 x1]:=e1;have e2:(cs.drop 2).take (Tryz.prog.cellsOf 9)=[.string x2]:=e2;have e3:(cs.drop 3).take (Tryz.prog.cellsOf 3)=[.int .i64 x3]:=e3;rw[ci] at e0 e3;rw[c8] at e1;rw[cs1] at e2;obtain⟨y1,rfl,h8⟩:=u8_nat b1
 refine⟨⟨x0,y1,x2,x3⟩,?_,i64_bounds b0,h8,b2,i64_bounds b3⟩
 apply List.ext_getElem?
 intro i
 match i with
 | 0=>exact cut1 e0
 | 1=>exact cut1 e1
 | 2=>exact cut1 e2
 | 3=>exact cut1 e3
 | i+4=>rw[List.getElem?_eq_none (by omega),List.getElem?_eq_none (by simp[kcells])]
theorem Arg.key_ {base:Nat} {v:Value} {d:DataW H} {p:List MemPlace} (h:Arg enc Tryz.prog W base 92 v d p):∃k:KY,v=.agg #[.int .i64 k.i,.int .u8 (k.t:Nat),.string k.n,.int .i64 k.c]∧KyIn k:=by
 obtain⟨cs,rfl,hr⟩:=h.rds Tryz.underlying92;obtain⟨k,hk,hi⟩:=hr.key_;refine⟨k,?_,hi⟩;exact congrArg Value.agg (Array.toList_inj.1 hk)
end
theorem cells4 {w:World} {g:Nat} {k:KY} (h:Blk w g 92 [.int .i64 k.i,.int .u8 (k.t:Nat),.string k.n,.int .i64 k.c]):
  w.cell? ⟨g,0,none⟩=some (.int .i64 k.i)∧w.cell? ⟨g,1,none⟩=some (.int .u8 (k.t:Nat))∧w.cell? ⟨g,2,none⟩=some (.string k.n)∧w.cell? ⟨g,3,none⟩=some (.int .i64 k.c):=
 ⟨h.cell 0,h.cell 1,h.cell 2,h.cell 3⟩
end
section
set_option maxRecDepth 100000
open Go.RowKit
variable {Q:Nat→Prop}
def tkT (l:List Nat):Nat:=takeV (takeL l 2) 1
def tk3 (l:List Nat):List Nat:=takeL (takeL l 2) 1
def tkE (l:List Nat):Int:=
 if takeE l 2≠0 then takeE l 2 else if takeE (takeL l 2) 1≠0 then takeE (takeL l 2) 1 else if tkT l=2 then rwE (tk3 l) else if tkT l=3 then takeE (tk3 l) 1 else 0
def tkR (l:List Nat):List Nat:=
 if takeE l 2≠0 then takeL l 2 else if takeE (takeL l 2) 1≠0 then takeL (takeL l 2) 1 else if tkT l=2 then rwR (tk3 l) else if tkT l=3 then takeL (tk3 l) 1 else tk3 l
def tkK (l:List Nat):KY:=⟨(takeV l 2:Nat),tkT l,if tkT l=2 then strN (rwL (tk3 l)) else ⟨#[]⟩,if tkT l=3 then (takeV (tk3 l) 1:Nat) else 0⟩
def gkE (l:List Nat):Int:=if tkE l≠0 then tkE l else if mayK (tkK l)=true then 0 else 5
def gkK (l:List Nat):KY:=if gkE l=0 then tkK l else ⟨0,0,⟨#[]⟩,0⟩
theorem sz1:isSz 1:=.inl rfl
theorem sz2:isSz 2:=.inr (.inl rfl)
theorem takeV_lt {l:List Nat} (h:∀x∈l,x < 256) {s:Nat} (hs:isSz (s:Nat)):takeV l (s:Nat) < 256 ^ s:=by
 unfold takeV;rw[if_pos hs,Int.toNat_natCast]
 split
 ·rename_i hl
  have:=leV_lt (l.take s) fun x hx=>h x (List.mem_of_mem_take hx)
  rwa [List.length_take,Nat.min_eq_left hl] at this
 ·exact Nat.pow_pos (by omega)
theorem takeL_in {l:List Nat} (h:∀x∈l,x < 256) (s:Int):∀x∈takeL l s,x < 256:=by
 unfold takeL
 split
 ·split
  ·exact fun x hx=>h x (List.mem_of_mem_drop hx)
  ·simp
 ·exact h
theorem rwL_len {l:List Nat} (h:∀x∈l,x < 256):(rwL l).length≤255:=by
 cases l with
 | nil=>simp[rwL]
 | cons n r=>
  have:=h n (by simp)
  simp only[rwL]
  split
  ·rw[List.length_take];omega
  ·simp
theorem tkK_name {l:List Nat} (h:∀x∈l,x < 256):(tkK l).n.size≤255:=by
 unfold tkK
 dsimp only
 split
 ·rw[strN_size];exact rwL_len (takeL_in (takeL_in h 2) 1)
 ·exact Nat.zero_le _
theorem key_store {w w':World} {g:Nat} {k0 k:KY} (h:Blk w g 92 (kcells k0))
  (hw:w'=(((w.setCell ⟨g,0,none⟩ (.int .i64 k.i)).setCell ⟨g,1,none⟩ (.int .u8 (k.t:Nat))).setCell ⟨g,2,none⟩ (.string k.n)).setCell ⟨g,3,none⟩ (.int .i64 k.c)):
  Blk w' g 92 (kcells k)∧Kept (·=g) w w':=by
 subst hw;exact⟨(((h.put 0 (.int .i64 k.i)).put 1 (.int .u8 (k.t:Nat))).put 2 (.string k.n)).put 3 (.int .i64 k.c),(((Kept.set1 w g _ _).setCell (p:=⟨g,_,none⟩) (fun _=>rfl) _).setCell (p:=⟨g,_,none⟩) (fun _=>rfl) _).setCell (p:=⟨g,_,none⟩) (fun _=>rfl) _⟩
theorem kcells4 {w:World} {g:Nat} {k:KY} (h:Blk w g 92 (kcells k)):
  w.cell? ⟨g,0,none⟩=some (.int .i64 k.i)∧w.cell? ⟨g,1,none⟩=some (.int .u8 (k.t:Nat))∧w.cell? ⟨g,2,none⟩=some (.string k.n)∧w.cell? ⟨g,3,none⟩=some (.int .i64 k.c):=
 ⟨h.cell 0,h.cell 1,h.cell 2,h.cell 3⟩
theorem kfree4 {w:World} {g:Nat} {k:KY} (h:Blk w g 92 (kcells k)):
  w.frozen? ⟨g,0,none⟩=false∧w.frozen? ⟨g,1,none⟩=false∧w.frozen? ⟨g,2,none⟩=false∧w.frozen? ⟨g,3,none⟩=false:=
 ⟨h.free 0,h.free 1,h.free 2,h.free 3⟩
def TkKP (Q:Nat→Prop) (w:World) (g:Nat) (l:List Nat) (e:Ending) (w':World):Prop:=
 ∃k:KY,e=.returned (.tuple #[.agg #[.int .i64 k.i,.int .u8 (k.t:Nat),.string k.n,.int .i64 k.c],.int .i64 (tkE l)])∧(tkE l=0→k=tkK l)∧Rdr Q w' g (tkR l)∧Kept (·=g) w w'
theorem takeKey_any (g:Nat) (l:List Nat) (w:World) (h:Rdr Q w g l):
  Calls Tryz.prog 154 #[.pointer (some ⟨g,0,none⟩)] w (TkKP Q w g l):=by
 have HL:Hid (∀x∈l,x < 256):=by obtain⟨_,_,_,h2,_⟩:=h;exact h2.2.1
 have hg:=h.at_.lt;have HTE:Hid (tkE l=if takeE l 2≠0 then takeE l 2 else if takeE (takeL l 2) 1≠0 then takeE (takeL l 2) 1 else if takeV (takeL l 2) 1=2 then rwE (takeL (takeL l 2) 1) else if takeV (takeL l 2) 1=3 then takeE (takeL (takeL l 2) 1) 1 else 0):=rfl;have HTR:Hid (tkR l=if takeE l 2≠0 then takeL l 2 else if takeE (takeL l 2) 1≠0 then takeL (takeL l 2) 1 else if takeV (takeL l 2) 1=2 then rwR (takeL (takeL l 2) 1) else if takeV (takeL l 2) 1=3 then takeL (takeL (takeL l 2) 1) 1 else takeL (takeL l 2) 1):=rfl;have HTK:Hid (tkK l=⟨(takeV l 2:Nat),takeV (takeL l 2) 1,if takeV (takeL l 2) 1=2 then strN (rwL (takeL (takeL l 2) 1)) else ⟨#[]⟩,if takeV (takeL l 2) 1=3 then (takeV (takeL (takeL l 2) 1) 1:Nat) else 0⟩):=rfl
 have HV1:Hid (takeV l 2 < 65536):=takeV_lt HL.out (s:=2) sz2;have HV2:Hid (takeV (takeL l 2) 1 < 256):=takeV_lt (takeL_in HL.out 2) (s:=1) sz1;have HV3:Hid (takeV (takeL (takeL l 2) 1) 1 < 256):=takeV_lt (takeL_in (takeL_in HL.out 2) 1) (s:=1) sz1
 have HT1:Hid (∀(w:World),Rdr Q w g l→Calls Tryz.prog 128 #[.pointer (some ⟨g,0,none⟩),.int .i64 2] w (fun e w'=>e=.returned (.tuple #[.int .u64 (takeV l 2:Nat),.int .i64 (takeE l 2)])∧Rdr Q w' g (takeL l 2)∧Kept (·=g) w w')):=fun w h=>etake_any g l 2 w h
 have HT2:Hid (∀(w:World),Rdr Q w g (takeL l 2)→Calls Tryz.prog 128 #[.pointer (some ⟨g,0,none⟩),.int .i64 1] w (fun e w'=>e=.returned (.tuple #[.int .u64 (takeV (takeL l 2) 1:Nat),.int .i64 (takeE (takeL l 2) 1)])∧Rdr Q w' g (takeL (takeL l 2) 1)∧Kept (·=g) w w')):=fun w h=>etake_any g _ 1 w h
 have HT3:Hid (∀(w:World),Rdr Q w g (takeL (takeL l 2) 1)→Calls Tryz.prog 128 #[.pointer (some ⟨g,0,none⟩),.int .i64 1] w (fun e w'=>e=.returned (.tuple #[.int .u64 (takeV (takeL (takeL l 2) 1) 1:Nat),.int .i64 (takeE (takeL (takeL l 2) 1) 1)])∧Rdr Q w' g (takeL (takeL (takeL l 2) 1) 1)∧Kept (·=g) w w')):=fun w h=>etake_any g _ 1 w h
 have HT4:Hid (∀(w:World),Rdr Q w g (takeL (takeL l 2) 1)→Calls Tryz.prog 156 #[.pointer (some ⟨g,0,none⟩)] w (ERowP Q w g (takeL (takeL l 2) 1))):=fun w h=>erow2_any g _ w h
 have FIN:Hid (∀(k:KY) (z:Int) (r:List Nat) (w':World),tkE l=z→(tkE l=0→k=tkK l)→tkR l=r→Rdr Q w' g r→Kept (·=g) w w'→TkKP Q w g l (.returned (.tuple #[.agg #[.int .i64 k.i,.int .u8 (k.t:Nat),.string k.n,.int .i64 k.c],.int .i64 z])) w'):=by
  intro k z r w' h1 h2 h3 h4 h5;exact⟨k,by rw[h1],h2,by rw[h3];exact h4,h5⟩
 generalize tkE l=te at *;generalize tkR l=tr at *;generalize tkK l=tk at *;generalize takeE (takeL (takeL l 2) 1) 1=ce at *;generalize takeV (takeL (takeL l 2) 1) 1=cv at *;generalize takeL (takeL (takeL l 2) 1) 1=l4 at *;generalize takeL (takeL l 2) 1=l3 at *;generalize takeE (takeL l 2) 1=be at *;generalize takeV (takeL l 2) 1=bv at *;generalize takeL l 2=l2 at *;generalize takeE l 2=ae at *;generalize takeV l 2=av at *;have hv1:=HV1.out;have hv2:=HV2.out;have hv3:=HV3.out;obtain⟨w0,hw0⟩:∃w0,w0=w.alloc (.cells #[.int .i64 0,.int .u8 0,.string ⟨#[]⟩,.int .i64 0] 92):=⟨_,rfl⟩
 have B0:Hid (Blk w0 w.heap.size 92 (kcells ⟨0,0,⟨#[]⟩,0⟩)):=by rw[hw0];exact Blk.made w _ _
 have K0:Hid (Kept (·=g) w w0):=by rw[hw0];exact kR.alloc _
 have R0:Hid (Rdr Q w0 g l):=by rw[hw0];exact h.new (kR.alloc _)
 have HW:=jH hw0;clear hw0 h;go_enter Tryz.func154,Tryz.ntmps154;go_wp2_with fail;rw[←HW.out];clear HW;generalize hgr:w.heap.size=gr at *;have HGR:=jH hgr;clear hgr;refine (HT1.out _ R0.out).mono ?_;rintro e w1 ⟨rfl,r1,k1⟩;have R1:=jH r1;have B1:=jH (B0.out.kept k1 (by omega));have K1:=jH (K0.out.trans k1 fun _ _ h=>h);clear r1 k1 R0 B0 K0 HT1
 by_cases he:ae=0
 ·have HA:=jH he;rw[HA.out];clear he;go_wp2_with fail;refine (HT2.out _ R1.out).mono ?_;rintro e w2 ⟨rfl,r2,k2⟩;have R2:=jH r2;have B2:=jH (B1.out.kept k2 (by omega));have K2:=jH (K1.out.trans k2 fun _ _ h=>h);clear r2 k2 R1 B1 K1 HT2
  by_cases he:be=0
  ·have HB:=jH he;rw[HB.out];clear he;have EAV:Hid (tk=⟨(av:Nat),bv,if bv=2 then strN (rwL l3) else ⟨#[]⟩,if bv=3 then (cv:Nat) else 0⟩):=HTK;obtain⟨w3,hw3⟩:∃w3,w3=w2.alloc (.cells #[.int .i64 (av:Nat),.int .u8 (bv:Nat),.string ⟨#[]⟩,.int .i64 0] 92):=⟨_,rfl⟩
   have n23:New w2 w3:=by rw[hw3];exact kR.alloc _
   have C3:Hid (Blk w3 w2.heap.size 92 (kcells ⟨(av:Nat),bv,⟨#[]⟩,0⟩)):=by rw[hw3];exact Blk.made w2 _ _
   have R3:=jH (R2.out.new n23);have B3:=jH (B2.out.kept n23 id);have K3:=jH (K2.out.new n23);have hg7:w.heap.size≤w2.heap.size:=K2.out.size;have hgr7:gr < w2.heap.size:=B2.out.lt;have HW3:=jH hw3;clear hw3 n23
   by_cases t2:bv=2
   ·subst t2;clear R2 K2;have HWX:Hid (w3=w2.alloc (.cells #[.int .i64 (av:Nat),.int .u8 2,.string ⟨#[]⟩,.int .i64 0] 92)):=HW3.out;go_wp2_with fail;rw[←HWX.out];clear HW3 HWX;generalize w2.heap.size=g7 at *;refine (HT4.out _ R3.out).mono ?_;rintro e w4 ⟨A4,c4,rfl,o4,r4,k4⟩;have hbs:=run_bs A4 _ c4 _ w4 o4.bts;have R4:=jH r4;have B4:=jH (B3.out.kept k4 (by omega));have C4:=jH (C3.out.kept k4 (by omega));have K4:=jH (K3.out.trans k4 fun _ _ h=>h);have x0:w4.frozen? ⟨g7,2,none⟩=false:=C4.out.free 2;have y0:=C4.out.q2;obtain⟨w5,hw5⟩:∃w5,w5=w4.setCell ⟨g7,2,none⟩ (.string (strN (rwL l3))):=⟨_,rfl⟩
    have k5:Kept (·=g7) w4 w5:=by rw[hw5];exact Kept.set1 _ _ _ _
    have C5:Hid (Blk w5 g7 92 (kcells ⟨(av:Nat),2,strN (rwL l3),0⟩)):=by rw[hw5];exact C4.out.put 2 _
    have R5:=jH (R4.out.kept k5 (by omega) fun _ e _ ht=>by subst e;exact ht.ne_of C4.out.at_ (by decide) rfl);have B5:=jH (B4.out.kept k5 (by omega));have K5:=jH (K4.out.trans k5 fun i hi e=>by omega);have HW5:=jH hw5;clear hw5 k5 r4 k4 o4 R3 B3 C3 K3 HT3 HT4 R4 K4 B2;generalize hs5:strN (rwL l3)=s5 at *;have HS5:=jH hs5;clear hs5;obtain⟨q0,q1,q2,q3⟩:=kcells4 C4.out;clear y0;have bs0:=B5.out;obtain⟨c0,c1,c2,c3⟩:=kcells4 B4.out;obtain⟨f0,f1,f2,f3⟩:=kfree4 B4.out;obtain⟨w9,hw9⟩:∃w9,w9=(((w5.setCell ⟨gr,0,none⟩ (.int .i64 (av:Nat))).setCell ⟨gr,1,none⟩ (.int .u8 2)).setCell ⟨gr,2,none⟩ (.string s5)).setCell ⟨gr,3,none⟩ (.int .i64 0):=⟨_,rfl⟩
    obtain⟨bs,ks⟩:=key_store (k:=⟨(av:Nat),2,s5,0⟩) B5.out hw9
    have E9:Hid (TkKP Q w g l (.returned (.tuple #[.agg #[.int .i64 (av:Nat),.int .u8 2,.string s5,.int .i64 0],.int .i64 (rwE l3)])) w9):=by
     refine FIN.out ⟨(av:Nat),2,s5,0⟩ _ _ _ ?_ ?_ ?_ (R5.out.kept ks (by omega) fun _ e _ ht=>?_) (K5.out.trans ks fun i hi e=>by have:=HGR.out;omega)
     ·rw[HTE.out];simp[HA.out,HB.out]
     ·intro _;rw[EAV.out];simp
     ·rw[HTR.out];simp[HA.out,HB.out]
     ·subst e;exact ht.ne_of bs0.at_ (by decide) rfl
    obtain⟨d0,d1,d2,d3⟩:=kcells4 bs;have HW9:=jH hw9;clear hw9 bs ks bs0;go_wp2;rw[←HW5.out,←HW9.out];clear HW9 c0 c1 c2 c3 f0 f1 f2 f3
    (try simp only[Exit.inBlock,Exit.then])
    refine bodyPost_ret (by simp[results,Tryz.results154,go_sem,d0,d1,d2,d3];try rfl) rfl ?_;exact E9.out
   ·have d2:((bv:Int) == 2)=false:=beq_eq_false_iff_ne.2 (by omega)
    by_cases t3:bv=3
    ·subst t3;clear R2 K2;have HWX:Hid (w3=w2.alloc (.cells #[.int .i64 (av:Nat),.int .u8 3,.string ⟨#[]⟩,.int .i64 0] 92)):=HW3.out;go_wp2_with fail;rw[←HWX.out];clear HW3 HWX;generalize w2.heap.size=g7 at *;refine (HT3.out _ R3.out).mono ?_;rintro e w4 ⟨rfl,r4,k4⟩;have R4:=jH r4;have B4:=jH (B3.out.kept k4 (by omega));have C4:=jH (C3.out.kept k4 (by omega));have K4:=jH (K3.out.trans k4 fun _ _ h=>h);have x0:w4.frozen? ⟨g7,3,none⟩=false:=C4.out.free 3;have y0:=C4.out.q3;obtain⟨w5,hw5⟩:∃w5,w5=w4.setCell ⟨g7,3,none⟩ (.int .i64 (cv:Nat)):=⟨_,rfl⟩
     have k5:Kept (·=g7) w4 w5:=by rw[hw5];exact Kept.set1 _ _ _ _
     have C5:Hid (Blk w5 g7 92 (kcells ⟨(av:Nat),3,⟨#[]⟩,(cv:Nat)⟩)):=by rw[hw5];exact C4.out.put 3 _
     have R5:=jH (R4.out.kept k5 (by omega) fun _ e _ ht=>by subst e;exact ht.ne_of C4.out.at_ (by decide) rfl);have B5:=jH (B4.out.kept k5 (by omega));have K5:=jH (K4.out.trans k5 fun i hi e=>by omega);have HW5:=jH hw5;clear hw5 k5 r4 k4 R3 B3 C3 K3 HT3 HT4 R4 K4 B2;obtain⟨q0,q1,q2,q3⟩:=kcells4 C4.out;clear y0;have bs0:=B5.out;obtain⟨c0,c1,c2,c3⟩:=kcells4 B4.out;obtain⟨f0,f1,f2,f3⟩:=kfree4 B4.out;obtain⟨w9,hw9⟩:∃w9,w9=(((w5.setCell ⟨gr,0,none⟩ (.int .i64 (av:Nat))).setCell ⟨gr,1,none⟩ (.int .u8 3)).setCell ⟨gr,2,none⟩ (.string ⟨#[]⟩)).setCell ⟨gr,3,none⟩ (.int .i64 (cv:Nat)):=⟨_,rfl⟩;obtain⟨bs,ks⟩:=key_store (k:=⟨(av:Nat),3,⟨#[]⟩,(cv:Nat)⟩) B5.out hw9
     have E9:Hid (TkKP Q w g l (.returned (.tuple #[.agg #[.int .i64 (av:Nat),.int .u8 3,.string ⟨#[]⟩,.int .i64 (cv:Nat)],.int .i64 ce])) w9):=by
      refine FIN.out ⟨(av:Nat),3,⟨#[]⟩,(cv:Nat)⟩ _ _ _ ?_ ?_ ?_ (R5.out.kept ks (by omega) fun _ e _ ht=>?_) (K5.out.trans ks fun i hi e=>by have:=HGR.out;omega)
      ·rw[HTE.out];simp[HA.out,HB.out]
      ·intro _;rw[EAV.out];simp
      ·rw[HTR.out];simp[HA.out,HB.out]
      ·subst e;exact ht.ne_of bs0.at_ (by decide) rfl
     obtain⟨d0,d1,d2,d3⟩:=kcells4 bs;have HW9:=jH hw9;clear hw9 bs ks bs0;go_wp2;rw[←HW5.out,←HW9.out];clear HW9 c0 c1 c2 c3 f0 f1 f2 f3
     (try simp only[Exit.inBlock,Exit.then])
     refine bodyPost_ret (by simp[results,Tryz.results154,go_sem,d0,d1,d2,d3];try rfl) rfl ?_;exact E9.out
    ·have d3:((bv:Int) == 3)=false:=beq_eq_false_iff_ne.2 (by omega);have T2:=jH t2;have T3:=jH t3;clear t2 t3;have bs0:=B2.out;obtain⟨c0,c1,c2,c3⟩:=kcells4 B2.out;obtain⟨f0,f1,f2,f3⟩:=kfree4 B2.out;obtain⟨w9,hw9⟩:∃w9,w9=(((w2.setCell ⟨gr,0,none⟩ (.int .i64 (av:Nat))).setCell ⟨gr,1,none⟩ (.int .u8 (bv:Nat))).setCell ⟨gr,2,none⟩ (.string ⟨#[]⟩)).setCell ⟨gr,3,none⟩ (.int .i64 0):=⟨_,rfl⟩;obtain⟨bs,ks⟩:=key_store (k:=⟨(av:Nat),bv,⟨#[]⟩,0⟩) B2.out hw9
     have E9:Hid (TkKP Q w g l (.returned (.tuple #[.agg #[.int .i64 (av:Nat),.int .u8 (bv:Nat),.string ⟨#[]⟩,.int .i64 0],.int .i64 0])) (w9.alloc (.cells #[.int .i64 (av:Nat),.int .u8 (bv:Nat),.string ⟨#[]⟩,.int .i64 0] 92))):=by
      refine FIN.out ⟨(av:Nat),bv,⟨#[]⟩,0⟩ _ _ _ ?_ ?_ ?_ ((R2.out.kept ks (by omega) fun _ e _ ht=>?_).new (kR.alloc _)) ((K2.out.trans ks fun i hi e=>by have:=HGR.out;omega).alloc _)
      ·rw[HTE.out,if_neg (by simpa using HA.out),if_neg (by simpa using HB.out),if_neg T2.out,if_neg T3.out]
      ·intro _;rw[EAV.out,if_neg T2.out,if_neg T3.out]
      ·rw[HTR.out,if_neg (by simpa using HA.out),if_neg (by simpa using HB.out),if_neg T2.out,if_neg T3.out]
      ·subst e;exact ht.ne_of bs0.at_ (by decide) rfl
     obtain⟨d0,d1,d2,d3⟩:=kcells4 (bs.alloc (.cells #[.int .i64 (av:Nat),.int .u8 (bv:Nat),.string ⟨#[]⟩,.int .i64 0] 92));have HW9:=jH hw9;clear hw9 bs ks bs0;go_wp2;rw[←HW9.out];clear HW9 c0 c1 c2 c3 f0 f1 f2 f3
     (try simp only[Exit.inBlock,Exit.then])
     refine bodyPost_ret (by simp[results,Tryz.results154,go_sem,d0,d1,d2,d3];try rfl) rfl ?_;exact E9.out
  ·have d:(be != 0)=true:=bne_iff_ne.2 he;have bs0:=B2.out;obtain⟨c0,c1,c2,c3⟩:=kcells4 B2.out;obtain⟨f0,f1,f2,f3⟩:=kfree4 B2.out;obtain⟨w9,hw9⟩:∃w9,w9=(((w2.setCell ⟨gr,0,none⟩ (.int .i64 0)).setCell ⟨gr,1,none⟩ (.int .u8 0)).setCell ⟨gr,2,none⟩ (.string ⟨#[]⟩)).setCell ⟨gr,3,none⟩ (.int .i64 0):=⟨_,rfl⟩;obtain⟨bs,ks⟩:=key_store (k:=⟨0,0,⟨#[]⟩,0⟩) B2.out hw9
   have E9:Hid (TkKP Q w g l (.returned (.tuple #[.agg #[.int .i64 0,.int .u8 0,.string ⟨#[]⟩,.int .i64 0],.int .i64 be])) w9):=by
    refine FIN.out ⟨0,0,⟨#[]⟩,0⟩ _ _ _ ?_ ?_ ?_ (R2.out.kept ks (by omega) fun _ e _ ht=>?_) (K2.out.trans ks fun i hi e=>by have:=HGR.out;omega)
    ·rw[HTE.out];rw[if_neg (by simpa using HA.out),if_pos he]
    ·intro h;rw[HTE.out] at h;rw[if_neg (by simpa using HA.out),if_pos he] at h;exact absurd h he
    ·rw[HTR.out];rw[if_neg (by simpa using HA.out),if_pos he]
    ·subst e;exact ht.ne_of bs0.at_ (by decide) rfl
   obtain⟨d0,d1,d2,d3⟩:=kcells4 bs;have HW9:=jH hw9;clear hw9 bs ks bs0;go_wp2;rw[←HW9.out];clear HW9 c0 c1 c2 c3 f0 f1 f2 f3
   (try simp only[Exit.inBlock,Exit.then])
   refine bodyPost_ret (by simp[results,Tryz.results154,go_sem,d0,d1,d2,d3];try rfl) rfl ?_;exact E9.out
 ·have d:(ae != 0)=true:=bne_iff_ne.2 he;have bs0:=B1.out;obtain⟨c0,c1,c2,c3⟩:=kcells4 B1.out;obtain⟨f0,f1,f2,f3⟩:=kfree4 B1.out;obtain⟨w9,hw9⟩:∃w9,w9=(((w1.setCell ⟨gr,0,none⟩ (.int .i64 0)).setCell ⟨gr,1,none⟩ (.int .u8 0)).setCell ⟨gr,2,none⟩ (.string ⟨#[]⟩)).setCell ⟨gr,3,none⟩ (.int .i64 0):=⟨_,rfl⟩;obtain⟨bs,ks⟩:=key_store (k:=⟨0,0,⟨#[]⟩,0⟩) B1.out hw9
  have E9:Hid (TkKP Q w g l (.returned (.tuple #[.agg #[.int .i64 0,.int .u8 0,.string ⟨#[]⟩,.int .i64 0],.int .i64 ae])) w9):=by
   refine FIN.out ⟨0,0,⟨#[]⟩,0⟩ _ _ _ ?_ ?_ ?_ (R1.out.kept ks (by omega) fun _ e _ ht=>?_) (K1.out.trans ks fun i hi e=>by have:=HGR.out;omega)
   ·rw[HTE.out];rw[if_pos he]
   ·intro h;rw[HTE.out] at h;rw[if_pos he] at h;exact absurd h he
   ·rw[HTR.out];rw[if_pos he]
   ·subst e;exact ht.ne_of bs0.at_ (by decide) rfl
  obtain⟨d0,d1,d2,d3⟩:=kcells4 bs;have HW9:=jH hw9;clear hw9 bs ks bs0;go_wp2;rw[←HW9.out];clear HW9 c0 c1 c2 c3 f0 f1 f2 f3
  (try simp only[Exit.inBlock,Exit.then])
  refine bodyPost_ret (by simp[results,Tryz.results154,go_sem,d0,d1,d2,d3];try rfl) rfl ?_;exact E9.out
end
end Go.Proofs.YtbiihjdjbknibaaGreat
