/-
  Layer 7: contracts (Vbj Vg Vh Vi).
-/
import Derived.Shelf.Strings.OnBuilder
import Derived.Test.YtjjamoemheljdaaGreatC04
namespace Go.Proofs.YtjjamoemheljdaaGreat
set_option maxRecDepth 100000
set_option maxHeartbeats 8000000
set_option linter.unusedSimpArgs false
set_option linter.unusedVariables false
section
open Go.Shelf Go.RowKit Go.Lib
end
section
open Go.RowKit
def RetJ (w:World) (g:List (List UInt8)) (e:Ending) (w':World):Prop:=e=.returned (.tuple #[.string ⟨(jS g).toArray⟩,.int .i64 (jE g:Nat)])∧New w w'
theorem jP_bad {g:List (List UInt8)} {x:Nat} (h:jE g=x) (hx:x≠0):jS g=[]:=jS_bad (by rw[h];exact hx)
theorem RetJ.err {w w':World} {g:List (List UInt8)} {x:Nat} {y:Int} {e:Ending} (he:e=.returned (.tuple #[.string ⟨#[]⟩,.int .i64 y])) (h:jE g=x) (hx:x≠0) (hy:y=x) (hk:New w w'):RetJ w g e w':=by
 refine⟨?_,hk⟩;rw[jP_bad h hx,h,he,hy]
theorem map_tx (g:List (List UInt8)):(g.map (fun x=>(⟨x.toArray⟩:ByteArray))).map (·.data.toList)=g:=by
 rw[List.map_map]
 conv=>rhs;rw[←List.map_id g]
 apply List.map_congr_left
 intro x _
 rfl
end
section
open Go.RowKit
def RetS (w:World) (l:List UInt8) (e:Ending) (w':World):Prop:=
 ∃A c,e=.returned (.tuple #[.slice A (sD l).length c,.string ⟨(sN l).toArray⟩,.int .i64 (sE l:Nat)])∧Txs w' A (sD l).length (sD l)∧(sD l).length≤c∧New w w'
theorem split_bad {l:List UInt8} {x:Nat} (h:sE l=x) (hx:x≠0):sD l=[]∧sN l=[]:=by
 unfold sD sN;rw[if_neg (by rw[h];exact hx),if_neg (by rw[h];exact hx)];exact⟨rfl,rfl⟩
theorem RetS.err {w w':World} {l:List UInt8} {x:Nat} {y:Int} {e:Ending} (he:e=.returned (.tuple #[.slice none 0 0,.string ⟨#[]⟩,.int .i64 y])) (h:sE l=x) (hx:x≠0) (hy:y=x) (hk:New w w'):RetS w l e w':=by
 obtain⟨h1,h2⟩:=split_bad h hx;unfold RetS;rw[h1,h2,h];exact⟨none,0,by rw[he,hy];rfl,Txs.nil _ _,Nat.le_refl _,hk⟩
end
section
open Go.RowKit
theorem eqTx_any (A B:Option Addr) (n c d:Nat) (g h:List (List UInt8)) (w:World) (ha:Txs w A n g) (hb:Txs w B n h) (hn:n≤maxLen):
  Calls Tryz.prog 93 #[.slice A n c,.slice B n d] w (QuietT w (decide (g=h))):=by
 unfold maxLen at hn;have hg:=ha.len;have hh:=hb.len
 by_cases h0:n=0
 ·subst h0;have e1:g=[]:=List.eq_nil_of_length_eq_zero hg;have e2:h=[]:=List.eq_nil_of_length_eq_zero hh;subst e1;subst e2
  exact (shEqual_empty A B c 0 d w (by omega)).mono fun e w' k=>⟨0,by rw[k.1];rfl,k.2⟩
 ·obtain⟨b,o,x,rfl,_,_⟩:=ha.at_ (j:=0) (by omega);obtain⟨b',o',y,rfl,_,_⟩:=hb.at_ (j:=0) (by omega);have cells:∀(b o:Nat) (g:List (List UInt8)),Txs w (some ⟨b,o,none⟩) n g→∀j,j < (g.map (fun x=>(⟨x.toArray⟩:ByteArray))).length →
    w.cell? ⟨b,o+j,none⟩=some (.string ((g.map (fun x=>(⟨x.toArray⟩:ByteArray))).getD j ByteArray.empty)):=fun b o g hg j hj=>by
   have hl:=hg.len;rw[List.length_map] at hj;obtain⟨b',o',y,e1,hy,hcy⟩:=hg.at_ (j:=j) (by omega)
   injection e1 with e1
   injection e1 with e1 e2
   subst e1;subst e2;rw[hcy,List.getD_eq_getElem?_getD,List.getElem?_map,hy]
   rfl
  have:=shEqual b o n c b' o' n d (g.map (fun x=>(⟨x.toArray⟩:ByteArray))) (h.map (fun x=>(⟨x.toArray⟩:ByteArray))) w (by rw[List.length_map];omega) (by rw[List.length_map];omega) (by omega) (by omega)
   (cells b o g ha) (cells b' o' h hb)
  refine this.mono fun e w' k=>?_
  obtain⟨k1,q,k2⟩:=k;refine⟨q,?_,k2⟩;rw[k1,List.take_of_length_le (by rw[List.length_map];omega),List.take_of_length_le (by rw[List.length_map];omega)]
  congr 2
  by_cases e:g=h
  ·subst e;simp
  ·rw[decide_eq_false e,decide_eq_false];intro e2
   apply e
   have e3:=congrArg (List.map (·.data.toList)) e2;rwa [map_tx,map_tx] at e3
theorem uL_bad1 {a b:List UInt8} {x:Nat} (h:pE a=x) (hx:x≠0):uL a b=false:=by
 unfold uL;rw[decide_eq_false];intro e;exact hx (by rw[←h];exact e.1)
theorem uL_bad2 {a b:List UInt8} {x:Nat} (h:pE b=x) (hx:x≠0):uL a b=false:=by
 unfold uL;rw[decide_eq_false];intro e;exact hx (by rw[←h];exact e.2.1)
theorem uL_ok {a b:List UInt8} (h1:pE a=0) (h2:pE b=0):uL a b=decide ((pN b).length < (pN a).length∧(pN a).take (pN b).length=pN b):=by
 unfold uL;rw[h1,h2];simp
def RetU (w:World) (b:Bool) (e:Ending) (w':World):Prop:=e=.returned (.bool b)∧New w w'
theorem under_any (s t:ByteArray) (w:World) (hs:s.size≤1048576) (ht:t.size≤1048576):
  Calls Tryz.prog 59 #[.string s,.string t] w (RetU w (uL s.data.toList t.data.toList)):=by
 go_enter Tryz.func59,Tryz.ntmps59;go_wp2_with fail;refine (parse_any s _ hs).mono ?_;rintro e w1 ⟨A,c,rfl,ho,hk⟩;have HO:=jH ho;have HK:=jH hk;clear ho hk;have hla:=zcc s.data.toList;have hlb:=zcc t.data.toList
 have bad:∀x,pE s.data.toList=x→x≠0→Hid (uL s.data.toList t.data.toList=false):=fun x h hx=>uL_bad1 h hx
 have bad2:∀x,pE t.data.toList=x→x≠0→Hid (uL s.data.toList t.data.toList=false):=fun x h hx=>uL_bad2 h hx
 rcases pE_cases s.data.toList with h|h|h
 ·have HE:=jH h;rw[h];clear h bad;go_wp2_with fail;refine (parse_any t _ ht).mono ?_;rintro e w2 ⟨B,d,rfl,ho2,hk2⟩;have HO1:=jH (HO.out.new hk2);have HO2:=jH ho2;have HK2:=jH (HK.out.new hk2);clear HK HO hk2 ho2
  rcases pE_cases t.data.toList with h|h|h
  ·have HE2:=jH h;rw[h];clear h bad2;have HU:=jH (uL_ok HE.out HE2.out);have hle:=HO1.out.le
   by_cases hlt:(pN t.data.toList).length < (pN s.data.toList).length
   ·have hd:decide (((pN t.data.toList).length:Int) < ((pN s.data.toList).length:Int))=true:=decide_eq_true (by omega);have hT:=HO1.out.txs.take (k:=(pN t.data.toList).length) (by omega);have HC:=jH (fun (c':Nat)=>eqTx_any A B _ c' d _ _ w2 hT HO2.out.txs (by unfold maxLen;omega))
    have HV:Hid (uL s.data.toList t.data.toList=decide ((pN s.data.toList).take (pN t.data.toList).length=pN t.data.toList)):=by
     rw[Hid,HU.out];simp[hlt]
    unfold maxLen at hle;clear hT HU HO1 HO2
    go_wp2_with (go_at_call 93;refine (HC.out _).mono ?_;rintro e w3 ⟨q,rfl,hw3⟩;have K3:Hid (New w w3):=(by rw[hw3];exact HK2.out.drewN q);clear hw3)
    all_goals
     go_ret;exact⟨by first|rfl|(rw[HV.out];first|rfl|simp_all),K3.out⟩
   ·have hd:decide (((pN t.data.toList).length:Int) < ((pN s.data.toList).length:Int))=false:=decide_eq_false (by omega)
    have HV:Hid (uL s.data.toList t.data.toList=false):=by
     rw[Hid,HU.out,decide_eq_false];intro e;exact hlt e.1
    clear HU HO1 HO2;go_wp2;go_ret;exact⟨by rw[HV.out];rfl,HK2.out⟩
  ·have HF:=bad2 2 h (by omega);rw[h];clear h bad2;go_wp2;go_ret;exact⟨by rw[HF.out];rfl,HK2.out⟩
  ·have HF:=bad2 3 h (by omega);rw[h];clear h bad2;go_wp2;go_ret;exact⟨by rw[HF.out];rfl,HK2.out⟩
 ·have HF:=bad 2 h (by omega);rw[h];clear h bad bad2;go_wp2;go_ret;exact⟨by rw[HF.out];rfl,HK.out⟩
 ·have HF:=bad 3 h (by omega);rw[h];clear h bad bad2;go_wp2;go_ret;exact⟨by rw[HF.out];rfl,HK.out⟩
end
end Go.Proofs.YtjjamoemheljdaaGreat
