/-
  Layer 7: contracts (Fc Fd Fe Ff).
-/
import Derived.Test.YtbiihjdjbknibaaGreatC23
import Derived.Lib.ConvBytes
import Derived.Laws.BytesArg
import Derived.Lib.BufferRead
namespace Go.Proofs.YtbiihjdjbknibaaGreat
set_option maxRecDepth 100000
set_option maxHeartbeats 8000000
set_option linter.unusedSimpArgs false
set_option linter.unusedVariables false
section
set_option maxRecDepth 100000
open Go.RowKit
theorem before_any (a b:KY) (w:World):
  Calls Tryz.prog 90 #[.agg #[.int .i64 a.i,.int .u8 (a.t:Nat),.string a.n,.int .i64 a.c],.agg #[.int .i64 b.i,.int .u8 (b.t:Nat),.string b.n,.int .i64 b.c]] w (NewBool w (befK a b)):=by
 have HC:=jH (compare_any a b);obtain⟨ai,at_,an,ac⟩:=a;obtain⟨bi,bt,bn,bc⟩:=b
 show Calls Tryz.prog 90 #[.agg #[.int .i64 ai,.int .u8 (at_:Nat),.string an,.int .i64 ac],.agg #[.int .i64 bi,.int .u8 (bt:Nat),.string bn,.int .i64 bc]] w (NewBool w (decide (cmpK ⟨ai,at_,an,ac⟩ ⟨bi,bt,bn,bc⟩ < 0)))
 generalize cmpK ⟨ai,at_,an,ac⟩ ⟨bi,bt,bn,bc⟩=z at *;go_enter Tryz.func90,Tryz.ntmps90;go_wp2_with fail;refine (HC.out _).mono ?_;rintro e w1 ⟨rfl,h1⟩;have K1:Hid (New w w1):=((kR.alloc _).alloc _).new h1;clear h1 HC;go_wp2;go_ret;exact⟨rfl,K1.out⟩
theorem may_i {k:KY} (h:¬(1≤k.i∧k.i≤65535)):mayK k=false:=by unfold mayK;rw[decide_eq_false h];rfl
theorem may_1 {k:KY} (h:1≤k.i∧k.i≤65535) (t:k.t=1):mayK k=decide (k.n.data.toList=[]∧k.c=0):=by unfold mayK;rw[decide_eq_true h,if_pos t];rfl
theorem may_2 {k:KY} (h:1≤k.i∧k.i≤65535) (t:k.t=2):mayK k=(nameL k.n.data.toList && decide (k.c=0)):=by unfold mayK;rw[decide_eq_true h,if_neg (by omega),if_pos t];rfl
theorem may_3 {k:KY} (h:1≤k.i∧k.i≤65535) (t:k.t=3):mayK k=decide (k.n.data.toList=[]∧0≤k.c∧k.c < 8):=by unfold mayK;rw[decide_eq_true h,if_neg (by omega),if_neg (by omega),if_pos t];rfl
theorem may_0 {k:KY} (h1:k.t≠1) (h2:k.t≠2) (h3:k.t≠3):mayK k=false:=by unfold mayK;rw[if_neg h1,if_neg h2,if_neg h3,Bool.and_false]
theorem nil_cases (s:ByteArray):s=⟨#[]⟩∨(s.data.toList≠[]∧(¬s.toList=[])∧s.toList.isEmpty=false):=by
 by_cases h:s.data.toList=[]
 ·exact .inl (ba_ext h)
 ·refine .inr ⟨h,by rw[Lib.toList_data];exact h,?_⟩;rw[Lib.toList_data]
  cases e:s.data.toList with
  | nil=>exact absurd e h
  | cons _ _=>rfl
theorem may_any (k:KY) (w:World) (hn:k.n.size≤maxLen):
  Calls Tryz.prog 155 #[.agg #[.int .i64 k.i,.int .u8 (k.t:Nat),.string k.n,.int .i64 k.c]] w (NewBool w (mayK k)):=by
 have H0:Hid (¬(1≤k.i∧k.i≤65535)→mayK k=false):=may_i;have H1:Hid (1≤k.i∧k.i≤65535→k.t=1→mayK k=decide (k.n.data.toList=[]∧k.c=0)):=may_1;have H2:Hid (1≤k.i∧k.i≤65535→k.t=2→mayK k=(nameL k.n.data.toList && decide (k.c=0))):=may_2;have H3:Hid (1≤k.i∧k.i≤65535→k.t=3→mayK k=decide (k.n.data.toList=[]∧0≤k.c∧k.c < 8)):=may_3;have H4:Hid (k.t≠1→k.t≠2→k.t≠3→mayK k=false):=may_0;generalize mayK k=r at *;obtain⟨i,t,s,c⟩:=k
 dsimp only at *
 have HS:=jH hn;clear hn;go_enter Tryz.func155,Tryz.ntmps155;go_wp2_with fail;refine (isIno_any i _).mono ?_;rintro e w1 ⟨rfl,rfl⟩
 by_cases hi:1≤i∧i≤65535
 ·have HI:=jH hi;rw[decide_eq_true hi];clear hi H0
  by_cases t1:t=1
  ·have HR:=jH (H1.out HI.out t1);subst t1;clear H1 H2 H3 H4 HI
   rcases nil_cases s with rfl|⟨n1,n2,n3⟩
   ·by_cases hc:c=0
    ·subst hc;go_wp2;go_ret;exact⟨by rw[HR.out];rfl,kR.alloc _⟩
    ·have HF:Hid (r=false):=HR.out.trans (decide_eq_false fun h=>hc h.2);have d:(c == 0)=false:=beq_eq_false_iff_ne.2 hc;clear hc HR;go_wp2;go_ret;exact⟨by rw[HF.out];rfl,kR.alloc _⟩
   ·have HF:Hid (r=false):=HR.out.trans (decide_eq_false fun h=>n1 h.1);clear n1 HR;go_wp2;go_ret;exact⟨by rw[HF.out];rfl,kR.alloc _⟩
  ·by_cases t2:t=2
   ·have HR:=jH (H2.out HI.out t2);subst t2;clear t1 H1 H2 H3 H4 HI;go_wp2_with fail;refine (name_any s _ HS.out).mono ?_;rintro e w1 ⟨rfl,rfl⟩;generalize nameL s.data.toList=b at *;cases b
    ·go_wp2;go_ret;exact⟨by rw[HR.out];rfl,kR.alloc _⟩
    ·by_cases hc:c=0
     ·subst hc;go_wp2;go_ret;exact⟨by rw[HR.out];rfl,kR.alloc _⟩
     ·have HF:Hid (r=false):=HR.out.trans (by rw[decide_eq_false hc];rfl);have d:(c == 0)=false:=beq_eq_false_iff_ne.2 hc;clear hc HR;go_wp2;go_ret;exact⟨by rw[HF.out];rfl,kR.alloc _⟩
   ·by_cases t3:t=3
    ·have HR:=jH (H3.out HI.out t3);subst t3;clear t1 t2 H1 H2 H3 H4 HI
     rcases nil_cases s with rfl|⟨n1,n2,n3⟩
     ·by_cases hc:0≤c
      ·by_cases hd:c < 8
       ·have HF:Hid (r=true):=HR.out.trans (decide_eq_true ⟨rfl,hc,hd⟩);have d8:decide (c < 8)=true:=decide_eq_true hd;clear HR;go_wp2;go_ret;exact⟨by rw[HF.out];rfl,kR.alloc _⟩
       ·have HF:Hid (r=false):=HR.out.trans (decide_eq_false fun h=>hd h.2.2);have d8:decide (c < 8)=false:=decide_eq_false hd;clear HR;go_wp2;go_ret;exact⟨by rw[HF.out];rfl,kR.alloc _⟩
      ·have HF:Hid (r=false):=HR.out.trans (decide_eq_false fun h=>hc h.2.1);have d:decide (0≤c)=false:=decide_eq_false hc;have d8:decide (c < 8)=true:=decide_eq_true (by omega);clear HR;go_wp2;go_ret;exact⟨by rw[HF.out];rfl,kR.alloc _⟩
     ·have HF:Hid (r=false):=HR.out.trans (decide_eq_false fun h=>n1 h.1);clear n1 HR;go_wp2;go_ret;exact⟨by rw[HF.out];rfl,kR.alloc _⟩
    ·have HF:=jH (H4.out t1 t2 t3);have d1:((t:Int) == 1)=false:=beq_eq_false_iff_ne.2 (by omega);have d2:((t:Int) == 2)=false:=beq_eq_false_iff_ne.2 (by omega);have d3:((t:Int) == 3)=false:=beq_eq_false_iff_ne.2 (by omega);clear t1 t2 t3 H1 H2 H3 H4 HI;go_wp2;go_ret;exact⟨by rw[HF.out];rfl,kR.alloc _⟩
 ·have HF:=jH (H0.out hi);rw[decide_eq_false hi];clear hi H0 H1 H2 H3 H4;go_wp2;go_ret;exact⟨by rw[HF.out];rfl,kR.alloc _⟩
end
section
set_option maxRecDepth 100000
open Go.RowKit
end
section
set_option maxRecDepth 100000
open Go.RowKit
def strN (l:List Nat):ByteArray:=⟨(l.map UInt8.ofNat).toArray⟩
theorem strN_data (l:List Nat):(strN l).data.toList=l.map UInt8.ofNat:=rfl
theorem strN_size (l:List Nat):(strN l).size=l.length:=by rw[Lib.size_eq,strN_data,List.length_map]
theorem run_bs (A:Option Addr) (n c:Nat) (l:List Nat) (w:World) (h:Bts w A n l):
  (convert 52 9 (.slice A n c)).run Tryz.prog w=.ok (.string (strN l)) w:=by
 obtain⟨hl,hb,hc⟩:=h
 rcases Nat.eq_zero_or_pos n with h0|h0
 ·subst h0;obtain rfl:l=[]:=List.eq_nil_of_length_eq_zero hl;rw[run_convert_bytes_string w _ _ 5 A 0 c Tryz.underlying52 Tryz.underlying5 Tryz.underlying9]
  rcases A with _|a
  ·simp[Conv.bytesToString,strN]
   rfl
  ·have hz:(loadCells a 0).run Tryz.prog w=.ok (([]:List Int).map (Value.int .u8)).toArray w:=by simp[loadCells,loadCellsFrom]
   rw[run_bytesToString w a 0 c [] hz]
   rfl
 ·obtain⟨g,o,rfl,hcell⟩:=hc h0;rw[run_convert_bytes_arg w 52 5 Tryz.underlying52 Tryz.underlying5 g o n c (l.map (fun (x:Nat)=>((x:Nat):Int))) (by rw[List.length_map];exact hl) ?_ 9 Tryz.underlying9]
  ·congr 2
   refine ba_ext ?_;rw[strOfNums_data,strN_data,List.map_map]
   rfl
  ·intro i hi
   have hi2:i < l.length:=by omega
   rw[hcell i l[i] (List.getElem?_eq_getElem hi2),List.getD_eq_getElem?_getD,List.getElem?_map,List.getElem?_eq_getElem hi2]
   rfl
end
section
set_option maxRecDepth 100000
open Go.RowKit
end
end Go.Proofs.YtbiihjdjbknibaaGreat
