/-
  Layer 7: contracts (Ir Kn Ga Gb Gc).
-/
import Derived.Test.YtbiihjdjbknibaaGreatC12
import Derived.BigRegion
import Derived.Deep.Fields
import Derived.Deep.Slices
import Derived.Lib.AppendZerosOnto
namespace Go.Proofs.YtbiihjdjbknibaaGreat
set_option maxRecDepth 100000
set_option maxHeartbeats 8000000
set_option linter.unusedSimpArgs false
set_option linter.unusedVariables false
section
set_option maxRecDepth 100000
def InRow (A:Option Addr) (b:Nat):Prop:=∃a,A=some a∧a.block=b
end
section
set_option maxRecDepth 100000
open Go.ChangeShapes Go.WideShapes Go.ChangeAt Go.RowKit Go.Deep
theorem new_of_kept {w0 w w':World} {S:Nat→Prop} (k:New w0 w) (hk:Kept S w w') (hq:∀b,S b→w0.heap.size≤b):New w0 w':=
 k.trans (S':=S) hk fun i hi h=>absurd (hq i h) (by omega)
section
variable {H:Type} {enc:TypeId×Value→H} {P:Program} {W:World}
def Fld (enc:TypeId×Value→H) (P:Program) (W:World) (t:TypeId) (v:Value) (d:DataW H):Prop:=
 (∃n p,DataW.trod enc P W 0 (fun _=>true) true n t [v]=some (d,p))∧∀m∈d.weights P t,m≤reachBytes
theorem weightsAll_of {e:TypeId}:∀{l:List (DataW H)} {d:DataW H},d∈l→∀n∈d.weights P e,n∈DataW.weightsAll P e l:=by
 intro l
 induction l with
 | nil=>intro d hd;cases hd
 | cons x l ih=>
  intro d hd n hn;unfold DataW.weightsAll
  rcases List.mem_cons.1 hd with rfl|hd
  ·exact List.mem_append_left _ hn
  ·exact List.mem_append_right _ (ih hd n hn)
theorem fields_of {t:TypeId} {fs:Array Field} {n:Nat} {cs:List Value} {d:DataW H} {p:List MemPlace} (ht:P.underlying t=some (.struct fs)) (hone:oneCellFields P fs=true) (hC:P.cellsOf t=fs.size)
  (h:DataW.trod enc P W 0 (fun _=>true) true n t cs=some (d,p)) (hw:∀m∈d.weights P t,m≤reachBytes):
  cs.length=fs.size∧∀(j:Nat) (f:Field),fs[j]?=some f→∃v d',cs[j]?=some v∧Fld enc P W f.type v d':=by
 obtain⟨xs,n',rfl,hx,hlen,hxl,hf⟩:=DataW.trod_struct ht h
 injection hx with hx1 hx2
 rw[hC] at hlen;refine⟨hlen,fun j f hj=>?_⟩;have hlt:j < fs.size:=(Array.getElem?_eq_some_iff.1 hj).1;obtain⟨o1,o2⟩:=hone_of hone j f hj;have h1:=hf j f hj;rw[o1,o2,List.drop_eq_getElem_cons (show j < cs.length by omega)] at h1;have hxj:xs[j]?=some (xs[j]'(by omega)):=List.getElem?_eq_getElem (by omega);refine⟨cs[j]'(by omega),(xs[j]'(by omega)).1,List.getElem?_eq_getElem (by omega),⟨n',(xs[j]'(by omega)).2,?_⟩,fun m hm=>hw m ?_⟩
 ·rw[hxj] at h1;exact h1
 ·rw[hx1];simp only[DataW.weights,ht];refine DataW.weights_mem_each (j:=j) (t:=f.type) (d:=(xs[j]'(by omega)).1) ?_ ?_ m hm
  ·rw[List.getElem?_map,Array.getElem?_toList,hj];rfl
  ·rw[List.getElem?_map,hxj];rfl
theorem Fld.int_ {t:TypeId} {v:Value} {d:DataW H} {k:IntKind} (h:Fld enc P W t v d) (ht:P.underlying t=some (.int k)):∃x:Int,v=.int k x∧(Lit.int k x).wf=true:=by
 obtain⟨⟨n,p,h⟩,_⟩:=h;obtain⟨x,hx,_,hw⟩:=DataW.trod_int ht h
 injection hx with hx
 exact⟨x,hx,hw⟩
theorem Fld.bool_ {t:TypeId} {v:Value} {d:DataW H} (h:Fld enc P W t v d) (ht:P.underlying t=some .bool):∃x:Bool,v=.bool x:=by
 obtain⟨⟨n,p,h⟩,_⟩:=h;obtain⟨x,hx,_⟩:=DataW.trod_bool ht h
 injection hx with hx
 exact⟨x,hx⟩
theorem Fld.bytes_ {t e:TypeId} {v:Value} {d:DataW H} (h:Fld enc P W t v d) (ht:P.underlying t=some (.slice e)) (he:P.underlying e=some (.int .u8)) (hc:P.cellsOf e=1) (hby:P.bytesOf e=1):∃A n c l,IsB W v A n c l:=by
 obtain⟨⟨fuel,p,hf⟩,hsz⟩:=h
 rcases open_ints ht he hc hf with ⟨hcs,hx⟩|⟨a,len,cap,zs,hcs,_,hl,hm,hz,hx,hcell,hwz⟩
 ·injection hcs with hcs
  subst hcs;exact⟨none,0,0,[],rfl,Bts.nil _ _,fun _=>⟨rfl,rfl⟩,Nat.le_refl _,by omega⟩
 ·injection hcs with hcs
  subst hcs;simp only[if_true] at hz;simp only[Prod.mk.injEq] at hx;have hs2:=hsz ((zs.take len).length+(zs.drop len).length) (by rw[hx.1];simp[DataW.weights,ht,hby,lits])
  have hcap:cap≤140737488351232:=by simp[reachBytes] at hs2;omega
  refine⟨some a,len,cap,(zs.take len).map Int.toNat,rfl,⟨by simp;omega,?_,?_⟩,fun h=>(by cases h),hl,hcap⟩
  ·intro x hx;obtain⟨z,hz2,rfl⟩:=List.mem_map.1 hx;obtain⟨m,rfl,hm⟩:=u8_nat (hwz z (List.mem_of_mem_take hz2));simpa using hm
  ·intro h0;obtain⟨b,off,rfl,hc2⟩:=ints_at hcell (by omega);refine⟨b,off,rfl,fun j x hx=>?_⟩;rw[List.getElem?_map] at hx;obtain⟨z,hz2,rfl⟩:=Option.map_eq_some_iff.1 hx;rw[List.getElem?_take] at hz2
   split at hz2
   ·obtain⟨m,rfl,_⟩:=u8_nat (hwz z (List.mem_of_getElem? hz2));have hj:j < zs.length:=(List.getElem?_eq_some_iff.1 hz2).1
    have:=hc2 j hj
    rw[this,List.getD_eq_getElem?_getD,hz2];simp
   ·cases hz2
theorem Fld.list_ {t e:TypeId} {fs:Array Field} {v:Value} {d:DataW H} (h:Fld enc P W t v d) (ht:P.underlying t=some (.slice e)) (he:P.underlying e=some (.struct fs)) (hone:oneCellFields P fs=true) (hC:P.cellsOf e=fs.size) (h0:0 < fs.size):
  ∃A n c,v=.slice A n c∧(A=none→c=0∧n=0)∧n≤c∧c≤maxLen∧n*P.bytesOf e≤reachBytes ∧
   (0 < n→∃g o,A=some ⟨g,o,none⟩∧∀(i j:Nat) (f:Field),i < n→fs[j]?=some f→∃u d',W.cell? ⟨g,o+(i*fs.size+j),none⟩=some u∧Fld enc P W f.type u d'):=by
 obtain⟨⟨fuel,p,hf⟩,hsz⟩:=h
 rcases open_slice ht hf with ⟨hcs,hx⟩|⟨a,len,cap,m,n',D,Pl,hcs,_,hl,hm,hmm,hx,hi⟩
 ·injection hcs with hcs
  subst hcs;exact⟨none,0,0,rfl,fun _=>⟨rfl,rfl⟩,Nat.le_refl _,by simp,by simp,fun h=>absurd h (by omega)⟩
 ·injection hcs with hcs
  subst hcs;simp only[if_true] at hmm;subst hmm;simp only[Prod.mk.injEq] at hx
  have hlen:((List.range len).map D).length=len:=by simp
  have hw1:(((List.range len).map D).length+((List.range (m - len)).map fun j=>D (len+j)).length)*P.bytesOf e≤reachBytes:=hsz _ (by rw[hx.1];simp[DataW.weights,ht])
  have hD:∀i,i < len→∀q∈(D i).weights P e,q≤reachBytes:=fun i hil q hq=>hsz q (by
   rw[hx.1];simp only[DataW.weights,ht]
   exact List.mem_cons_of_mem _ (List.mem_append_left _ (weightsAll_of (List.mem_map.2 ⟨i,List.mem_range.2 hil,rfl⟩) q hq)))
  refine⟨some a,len,m,rfl,fun h=>(by cases h),hl,hm,?_,fun hp=>?_⟩
  ·rw[hlen] at hw1;exact Nat.le_trans (Nat.mul_le_mul_right _ (Nat.le_add_right _ _)) hw1
  ·have each:∀(i j:Nat) (f:Field),i < len→fs[j]?=some f→∃u d',W.cell? (a.add (i*fs.size+j))=some u∧Fld enc P W f.type u d':=fun i j f hil hj=>by
    obtain⟨cs',hc,ht'⟩:=hi i (by omega);obtain⟨hcl,hat⟩:=fields_of he hone hC ht' (hD i hil);obtain⟨u,d',hu,hfl⟩:=hat j f hj;obtain⟨_,_,hcell⟩:=World.cells?_some hc;have hjl:j < fs.size:=(Array.getElem?_eq_some_iff.1 hj).1;refine⟨u,d',?_,hfl⟩;rw[←add_add,←hC,hcell j (by omega),hu]
   obtain⟨g,o,spot⟩:=a;obtain⟨u,d',hu,_⟩:=each 0 0 (fs[0]'h0) hp (Array.getElem?_eq_getElem h0)
   have hspot:spot=none:=by simpa [Addr.add] using World.cell?_spot hu
   subst hspot;exact⟨g,o,rfl,fun i j f hil hj=>by rw[←add_plain];exact each i j f hil hj⟩
end
end
section
set_option maxRecDepth 100000
end
section
set_option maxRecDepth 100000
open Go.ChangeShapes Go.WideShapes Go.ChangeAt Go.RowKit
def isHd (k e s:Nat):Prop:=(1≤k∧k≤3)∧1≤e∧1≤s
instance (k e s:Nat):Decidable (isHd k e s):=by unfold isHd;infer_instance
def hdL (k e s:Nat):List Nat:=leB k 1++leB e 4++leB s 8
theorem hdL_length (k e s:Nat):(hdL k e s).length=13:=by simp[hdL,leB_length]
theorem leB1 (k:Nat) (h:k < 256):leB k 1=[k]:=by
 unfold leB;simp only[List.range_succ,List.range_zero,List.nil_append,List.map_cons,List.map_nil,Nat.pow_zero,Nat.div_one];rw[Nat.mod_eq_of_lt h]
theorem kind_any (k:Nat) (w:World):Calls Tryz.prog 145 #[.int .u8 (k:Nat)] w fun e w'=>e=.returned (.bool (decide (1≤k∧k≤3)))∧w=w':=by
 by_cases h1:1≤k
 ·by_cases h2:k≤3
  ·have e:decide (1≤k∧k≤3)=true:=decide_eq_true ⟨h1,h2⟩;rw[e];have h3:decide ((k:Int)≤3)=true:=decide_eq_true (by omega);have h4:decide ((1:Int)≤(k:Int))=true:=decide_eq_true (by omega);clear e;go_enter Tryz.func145,Tryz.ntmps145;go_wp2;go_ret;exact⟨rfl,rfl⟩
  ·have e:decide (1≤k∧k≤3)=false:=decide_eq_false (fun h=>h2 h.2);rw[e];have h3:decide ((k:Int)≤3)=false:=decide_eq_false (by omega);clear e;go_enter Tryz.func145,Tryz.ntmps145;go_wp2;go_ret;exact⟨rfl,rfl⟩
 ·have e:decide (1≤k∧k≤3)=false:=decide_eq_false (fun h=>h1 h.1);rw[e]
  obtain rfl:k=0:=by omega
  clear e;go_enter Tryz.func145,Tryz.ntmps145;go_wp2;go_ret;exact⟨rfl,rfl⟩
theorem hd_dec (k e s:Nat):decide (isHd k e s)=(decide (1≤k∧k≤3) && (decide (1≤e) && decide (1≤s))):=by
 unfold isHd
 by_cases h1:1≤k∧k≤3<;>by_cases h2:1≤e<;>by_cases h3:1≤s<;>simp[h1,h2,h3]
theorem isHead_any (k e s:Nat) (w:World):Calls Tryz.prog 133 #[.agg #[.int .u8 (k:Nat),.int .u32 (e:Nat),.int .u64 (s:Nat)]] w (BoolN w (decide (isHd k e s))):=by
 have HD:=jH (hd_dec k e s)
 by_cases hk:1≤k∧k≤3
 ·have HK:=jH (decide_eq_true hk)
  by_cases he:1≤e
  ·have he2:(0:Int) < (e:Int):=by omega
   have he3:0 < e:=he
   by_cases hs:1≤s
   ·have hs2:(0:Int) < (s:Int):=by omega
    have hs3:0 < s:=hs;rw[HD.out,HK.out,decide_eq_true he,decide_eq_true hs];clear hk;go_enter Tryz.func133,Tryz.ntmps133;go_wp2_with fail;refine (kind_any k _).mono ?_;rintro e' w' ⟨rfl,rfl⟩;rw[HK.out];go_wp2;go_ret;exact⟨rfl,kR.alloc _⟩
   ·obtain rfl:s=0:=by omega
    rw[HD.out,HK.out,decide_eq_true he,decide_eq_false hs];clear hk;go_enter Tryz.func133,Tryz.ntmps133;go_wp2_with fail;refine (kind_any k _).mono ?_;rintro e' w' ⟨rfl,rfl⟩;rw[HK.out];go_wp2;go_ret;exact⟨rfl,kR.alloc _⟩
  ·obtain rfl:e=0:=by omega
   rw[HD.out,HK.out,decide_eq_false he,Bool.false_and,Bool.and_false];clear hk;go_enter Tryz.func133,Tryz.ntmps133;go_wp2_with fail;refine (kind_any k _).mono ?_;rintro e' w' ⟨rfl,rfl⟩;rw[HK.out];go_wp2;go_ret;exact⟨rfl,kR.alloc _⟩
 ·have HK:=jH (decide_eq_false hk);rw[HD.out,HK.out,Bool.false_and];clear hk;go_enter Tryz.func133,Tryz.ntmps133;go_wp2_with fail;refine (kind_any k _).mono ?_;rintro e' w' ⟨rfl,rfl⟩;rw[HK.out];go_wp2;go_ret;exact⟨rfl,kR.alloc _⟩
theorem mayHead_any (k e s:Nat) (w:World):Calls Tryz.prog 46 #[.agg #[.int .u8 (k:Nat),.int .u32 (e:Nat),.int .u64 (s:Nat)]] w (BoolN w (decide (isHd k e s))):=by
 by_cases h1:1≤k
 ·by_cases h2:k≤3
  ·by_cases he:1≤e
   ·by_cases hs:1≤s
    ·have HD:=jH (decide_eq_true (show isHd k e s from ⟨⟨h1,h2⟩,he,hs⟩));have h3:decide ((k:Int)≤3)=true:=decide_eq_true (by omega);have h4:decide ((1:Int)≤(k:Int))=true:=decide_eq_true (by omega);have h5:decide ((1:Int)≤(e:Int))=true:=decide_eq_true (by omega);have h6:decide ((1:Int)≤(s:Int))=true:=decide_eq_true (by omega);rw[HD.out];go_enter Tryz.func46,Tryz.ntmps46;go_wp2;go_ret;exact⟨rfl,kR.alloc _⟩
    ·have HD:=jH (decide_eq_false (show ¬isHd k e s from fun h=>hs h.2.2));rw[HD.out]
     obtain rfl:s=0:=by omega
     go_enter Tryz.func46,Tryz.ntmps46;go_wp2;go_ret;exact⟨rfl,kR.alloc _⟩
   ·have HD:=jH (decide_eq_false (show ¬isHd k e s from fun h=>he h.2.1));rw[HD.out]
    obtain rfl:e=0:=by omega
    go_enter Tryz.func46,Tryz.ntmps46;go_wp2;go_ret;exact⟨rfl,kR.alloc _⟩
  ·have HD:=jH (decide_eq_false (show ¬isHd k e s from fun h=>h2 h.1.2));have h3:decide ((k:Int)≤3)=false:=decide_eq_false (by omega);rw[HD.out];go_enter Tryz.func46,Tryz.ntmps46;go_wp2;go_ret;exact⟨rfl,kR.alloc _⟩
 ·have HD:=jH (decide_eq_false (show ¬isHd k e s from fun h=>h1 h.1.1));rw[HD.out]
  obtain rfl:k=0:=by omega
  go_enter Tryz.func46,Tryz.ntmps46;go_wp2;go_ret;exact⟨rfl,kR.alloc _⟩
end
section
set_option maxRecDepth 100000
open Go.ChangeShapes Go.WideShapes Go.ChangeAt Go.RowKit
theorem fit_e {e:Nat} (h:e < 4294967296):fitB e 4=true:=by unfold fitB;simp;omega
theorem fit_s {s:Nat} (h:s < 18446744073709551616):fitB s 8=true:=by unfold fitB;simp;omega
def phL (n:Int) (k e s:Nat):List Nat:=if isHd k e s then sPutL n 1 (hdL k e s) else []
def phE (n:Int) (k e s:Nat):Int:=if isHd k e s then sPutE n 1 (hdL k e s) else 2
end
end Go.Proofs.YtbiihjdjbknibaaGreat
