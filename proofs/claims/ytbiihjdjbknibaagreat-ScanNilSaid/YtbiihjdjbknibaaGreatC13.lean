/-
  Layer 7: contracts (Ir Kn Ga Gb Gc).
-/
import Derived.Test.YtbiihjdjbknibaaGreatC12
import Derived.BigRegion
import Derived.Deep.Fields
import Derived.Deep.Slices
import Derived.Lib.AppendZerosOnto
namespace Go.Proofs.YtbiihjdjbknibaaGreat
set_option maxRecDepth 100000
set_option maxHeartbeats 8000000
set_option linter.unusedSimpArgs false
set_option linter.unusedVariables false
section
set_option maxRecDepth 100000
def InRow (A:Option Addr) (b:Nat):Prop:=∃a,A=some a∧a.block=b
end
section
set_option maxRecDepth 100000
open Go.ChangeShapes Go.WideShapes Go.ChangeAt Go.RowKit Go.Deep
theorem new_of_kept {w0 w w':World} {S:Nat→Prop} (k:New w0 w) (hk:Kept S w w') (hq:∀b,S b→w0.heap.size≤b):New w0 w':=
 k.trans (S':=S) hk fun i hi h=>absurd (hq i h) (by omega)
section
variable {H:Type} {enc:TypeId×Value→H} {P:Program} {W:World}
def Fld (enc:TypeId×Value→H) (P:Program) (W:World) (t:TypeId) (v:Value) (d:DataW H):Prop:=
 (∃n p,DataW.trod enc P W 0 (fun _=>true) true n t [v]=some (d,p))∧∀m∈d.weights P t,m≤reachBytes
theorem Fld.int_ {t:TypeId} {v:Value} {d:DataW H} {k:IntKind} (h:Fld enc P W t v d) (ht:P.underlying t=some (.int k)):∃x:Int,v=.int k x∧(Lit.int k x).wf=true:=by
 obtain⟨⟨n,p,h⟩,_⟩:=h;obtain⟨x,hx,_,hw⟩:=DataW.trod_int ht h
 injection hx with hx
 exact⟨x,hx,hw⟩
theorem Fld.bool_ {t:TypeId} {v:Value} {d:DataW H} (h:Fld enc P W t v d) (ht:P.underlying t=some .bool):∃x:Bool,v=.bool x:=by
 obtain⟨⟨n,p,h⟩,_⟩:=h;obtain⟨x,hx,_⟩:=DataW.trod_bool ht h
 injection hx with hx
 exact⟨x,hx⟩
end
end
section
set_option maxRecDepth 100000
end
section
set_option maxRecDepth 100000
open Go.ChangeShapes Go.WideShapes Go.ChangeAt Go.RowKit
def isHd (k e s:Nat):Prop:=(1≤k∧k≤3)∧1≤e∧1≤s
instance (k e s:Nat):Decidable (isHd k e s):=by unfold isHd;infer_instance
def hdL (k e s:Nat):List Nat:=leB k 1++leB e 4++leB s 8
theorem hdL_length (k e s:Nat):(hdL k e s).length=13:=by simp[hdL,leB_length]
theorem leB1 (k:Nat) (h:k < 256):leB k 1=[k]:=by
 unfold leB;simp only[List.range_succ,List.range_zero,List.nil_append,List.map_cons,List.map_nil,Nat.pow_zero,Nat.div_one];rw[Nat.mod_eq_of_lt h]
theorem kind_any (k:Nat) (w:World):Calls Tryz.prog 145 #[.int .u8 (k:Nat)] w fun e w'=>e=.returned (.bool (decide (1≤k∧k≤3)))∧w=w':=by
 by_cases h1:1≤k
 ·by_cases h2:k≤3
  ·have e:decide (1≤k∧k≤3)=true:=decide_eq_true ⟨h1,h2⟩;rw[e];have h3:decide ((k:Int)≤3)=true:=decide_eq_true (by omega);have h4:decide ((1:Int)≤(k:Int))=true:=decide_eq_true (by omega);clear e;go_enter Tryz.func145,Tryz.ntmps145;go_wp2;go_ret;exact⟨rfl,rfl⟩
  ·have e:decide (1≤k∧k≤3)=false:=decide_eq_false (fun h=>h2 h.2);rw[e];have h3:decide ((k:Int)≤3)=false:=decide_eq_false (by omega);clear e;go_enter Tryz.func145,Tryz.ntmps145;go_wp2;go_ret;exact⟨rfl,rfl⟩
 ·have e:decide (1≤k∧k≤3)=false:=decide_eq_false (fun h=>h1 h.1);rw[e]
  obtain rfl:k=0:=by omega
  clear e;go_enter Tryz.func145,Tryz.ntmps145;go_wp2;go_ret;exact⟨rfl,rfl⟩
theorem hd_dec (k e s:Nat):decide (isHd k e s)=(decide (1≤k∧k≤3) && (decide (1≤e) && decide (1≤s))):=by
 unfold isHd
 by_cases h1:1≤k∧k≤3<;>by_cases h2:1≤e<;>by_cases h3:1≤s<;>simp[h1,h2,h3]
theorem isHead_any (k e s:Nat) (w:World):Calls Tryz.prog 133 #[.agg #[.int .u8 (k:Nat),.int .u32 (e:Nat),.int .u64 (s:Nat)]] w (BoolN w (decide (isHd k e s))):=by
 have HD:=jH (hd_dec k e s)
 by_cases hk:1≤k∧k≤3
 ·have HK:=jH (decide_eq_true hk)
  by_cases he:1≤e
  ·have he2:(0:Int) < (e:Int):=by omega
   have he3:0 < e:=he
   by_cases hs:1≤s
   ·have hs2:(0:Int) < (s:Int):=by omega
    have hs3:0 < s:=hs;rw[HD.out,HK.out,decide_eq_true he,decide_eq_true hs];clear hk;go_enter Tryz.func133,Tryz.ntmps133;go_wp2_with fail;refine (kind_any k _).mono ?_;rintro e' w' ⟨rfl,rfl⟩;rw[HK.out];go_wp2;go_ret;exact⟨rfl,kR.alloc _⟩
   ·obtain rfl:s=0:=by omega
    rw[HD.out,HK.out,decide_eq_true he,decide_eq_false hs];clear hk;go_enter Tryz.func133,Tryz.ntmps133;go_wp2_with fail;refine (kind_any k _).mono ?_;rintro e' w' ⟨rfl,rfl⟩;rw[HK.out];go_wp2;go_ret;exact⟨rfl,kR.alloc _⟩
  ·obtain rfl:e=0:=by omega
   rw[HD.out,HK.out,decide_eq_false he,Bool.false_and,Bool.and_false];clear hk;go_enter Tryz.func133,Tryz.ntmps133;go_wp2_with fail;refine (kind_any k _).mono ?_;rintro e' w' ⟨rfl,rfl⟩;rw[HK.out];go_wp2;go_ret;exact⟨rfl,kR.alloc _⟩
 ·have HK:=jH (decide_eq_false hk);rw[HD.out,HK.out,Bool.false_and];clear hk;go_enter Tryz.func133,Tryz.ntmps133;go_wp2_with fail;refine (kind_any k _).mono ?_;rintro e' w' ⟨rfl,rfl⟩;rw[HK.out];go_wp2;go_ret;exact⟨rfl,kR.alloc _⟩
theorem mayHead_any (k e s:Nat) (w:World):Calls Tryz.prog 46 #[.agg #[.int .u8 (k:Nat),.int .u32 (e:Nat),.int .u64 (s:Nat)]] w (BoolN w (decide (isHd k e s))):=by
 by_cases h1:1≤k
 ·by_cases h2:k≤3
  ·by_cases he:1≤e
   ·by_cases hs:1≤s
    ·have HD:=jH (decide_eq_true (show isHd k e s from ⟨⟨h1,h2⟩,he,hs⟩));have h3:decide ((k:Int)≤3)=true:=decide_eq_true (by omega);have h4:decide ((1:Int)≤(k:Int))=true:=decide_eq_true (by omega);have h5:decide ((1:Int)≤(e:Int))=true:=decide_eq_true (by omega);have h6:decide ((1:Int)≤(s:Int))=true:=decide_eq_true (by omega);rw[HD.out];go_enter Tryz.func46,Tryz.ntmps46;go_wp2;go_ret;exact⟨rfl,kR.alloc _⟩
    ·have HD:=jH (decide_eq_false (show ¬isHd k e s from fun h=>hs h.2.2));rw[HD.out]
     obtain rfl:s=0:=by omega
     go_enter Tryz.func46,Tryz.ntmps46;go_wp2;go_ret;exact⟨rfl,kR.alloc _⟩
   ·have HD:=jH (decide_eq_false (show ¬isHd k e s from fun h=>he h.2.1));rw[HD.out]
    obtain rfl:e=0:=by omega
    go_enter Tryz.func46,Tryz.ntmps46;go_wp2;go_ret;exact⟨rfl,kR.alloc _⟩
  ·have HD:=jH (decide_eq_false (show ¬isHd k e s from fun h=>h2 h.1.2));have h3:decide ((k:Int)≤3)=false:=decide_eq_false (by omega);rw[HD.out];go_enter Tryz.func46,Tryz.ntmps46;go_wp2;go_ret;exact⟨rfl,kR.alloc _⟩
 ·have HD:=jH (decide_eq_false (show ¬isHd k e s from fun h=>h1 h.1.1));rw[HD.out]
  obtain rfl:k=0:=by omega
  go_enter Tryz.func46,Tryz.ntmps46;go_wp2;go_ret;exact⟨rfl,kR.alloc _⟩
end
section
set_option maxRecDepth 100000
open Go.ChangeShapes Go.WideShapes Go.ChangeAt Go.RowKit
theorem fit_e {e:Nat} (h:e < 4294967296):fitB e 4=true:=by unfold fitB;simp;omega
theorem fit_s {s:Nat} (h:s < 18446744073709551616):fitB s 8=true:=by unfold fitB;simp;omega
def phL (n:Int) (k e s:Nat):List Nat:=if isHd k e s then sPutL n 1 (hdL k e s) else []
def phE (n:Int) (k e s:Nat):Int:=if isHd k e s then sPutE n 1 (hdL k e s) else 2
end
end Go.Proofs.YtbiihjdjbknibaaGreat
