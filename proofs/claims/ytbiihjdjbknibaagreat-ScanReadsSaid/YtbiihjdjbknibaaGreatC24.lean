/-
  Layer 7: contracts (Fc Fd Fe Ff).
-/
import Derived.Test.YtbiihjdjbknibaaGreatC23
import Derived.Lib.ConvBytes
import Derived.Laws.BytesArg
import Derived.Lib.BufferRead
namespace Go.Proofs.YtbiihjdjbknibaaGreat
set_option maxRecDepth 100000
set_option maxHeartbeats 8000000
set_option linter.unusedSimpArgs false
set_option linter.unusedVariables false
section
set_option maxRecDepth 100000
open Go.RowKit
theorem before_any (a b:KY) (w:World):
  Calls Tryz.prog 90 #[.agg #[.int .i64 a.i,.int .u8 (a.t:Nat),.string a.n,.int .i64 a.c],.agg #[.int .i64 b.i,.int .u8 (b.t:Nat),.string b.n,.int .i64 b.c]] w (NewBool w (befK a b)):=by
 have HC:=jH (compare_any a b);obtain⟨ai,at_,an,ac⟩:=a;obtain⟨bi,bt,bn,bc⟩:=b
 show Calls Tryz.prog 90 #[.agg #[.int .i64 ai,.int .u8 (at_:Nat),.string an,.int .i64 ac],.agg #[.int .i64 bi,.int .u8 (bt:Nat),.string bn,.int .i64 bc]] w (NewBool w (decide (cmpK ⟨ai,at_,an,ac⟩ ⟨bi,bt,bn,bc⟩ < 0)))
 generalize cmpK ⟨ai,at_,an,ac⟩ ⟨bi,bt,bn,bc⟩=z at *;go_enter Tryz.func90,Tryz.ntmps90;go_wp2_with fail;refine (HC.out _).mono ?_;rintro e w1 ⟨rfl,h1⟩;have K1:Hid (New w w1):=((kR.alloc _).alloc _).new h1;clear h1 HC;go_wp2;go_ret;exact⟨rfl,K1.out⟩
theorem may_i {k:KY} (h:¬(1≤k.i∧k.i≤65535)):mayK k=false:=by unfold mayK;rw[decide_eq_false h];rfl
theorem may_1 {k:KY} (h:1≤k.i∧k.i≤65535) (t:k.t=1):mayK k=decide (k.n.data.toList=[]∧k.c=0):=by unfold mayK;rw[decide_eq_true h,if_pos t];rfl
theorem may_2 {k:KY} (h:1≤k.i∧k.i≤65535) (t:k.t=2):mayK k=(nameL k.n.data.toList && decide (k.c=0)):=by unfold mayK;rw[decide_eq_true h,if_neg (by omega),if_pos t];rfl
theorem may_3 {k:KY} (h:1≤k.i∧k.i≤65535) (t:k.t=3):mayK k=decide (k.n.data.toList=[]∧0≤k.c∧k.c < 8):=by unfold mayK;rw[decide_eq_true h,if_neg (by omega),if_neg (by omega),if_pos t];rfl
theorem may_0 {k:KY} (h1:k.t≠1) (h2:k.t≠2) (h3:k.t≠3):mayK k=false:=by unfold mayK;rw[if_neg h1,if_neg h2,if_neg h3,Bool.and_false]
theorem nil_cases (s:ByteArray):s=⟨#[]⟩∨(s.data.toList≠[]∧(¬s.toList=[])∧s.toList.isEmpty=false):=by
 by_cases h:s.data.toList=[]
 ·exact .inl (ba_ext h)
 ·refine .inr ⟨h,by rw[Lib.toList_data];exact h,?_⟩;rw[Lib.toList_data]
  cases e:s.data.toList with
  | nil=>exact absurd e h
  | cons _ _=>rfl
theorem may_any (k:KY) (w:World) (hn:k.n.size≤maxLen):
  Calls Tryz.prog 155 #[.agg #[.int .i64 k.i,.int .u8 (k.t:Nat),.string k.n,.int .i64 k.c]] w (NewBool w (mayK k)):=by
 have H0:Hid (¬(1≤k.i∧k.i≤65535)→mayK k=false):=may_i;have H1:Hid (1≤k.i∧k.i≤65535→k.t=1→mayK k=decide (k.n.data.toList=[]∧k.c=0)):=may_1;have H2:Hid (1≤k.i∧k.i≤65535→k.t=2→mayK k=(nameL k.n.data.toList && decide (k.c=0))):=may_2;have H3:Hid (1≤k.i∧k.i≤65535→k.t=3→mayK k=decide (k.n.data.toList=[]∧0≤k.c∧k.c < 8)):=may_3;have H4:Hid (k.t≠1→k.t≠2→k.t≠3→mayK k=false):=may_0;generalize mayK k=r at *;obtain⟨i,t,s,c⟩:=k
 dsimp only at *
 have HS:=jH hn;clear hn;go_enter Tryz.func155,Tryz.ntmps155;go_wp2_with fail;refine (isIno_any i _).mono ?_;rintro e w1 ⟨rfl,rfl⟩
 by_cases hi:1≤i∧i≤65535
 ·have HI:=jH hi;rw[decide_eq_true hi];clear hi H0
  by_cases t1:t=1
  ·have HR:=jH (H1.out HI.out t1);subst t1;clear H1 H2 H3 H4 HI
   rcases nil_cases s with rfl|⟨n1,n2,n3⟩
   ·by_cases hc:c=0
    ·subst hc;go_wp2;go_ret;exact⟨by rw[HR.out];rfl,kR.alloc _⟩
    ·have HF:Hid (r=false):=HR.out.trans (decide_eq_false fun h=>hc h.2);have d:(c == 0)=false:=beq_eq_false_iff_ne.2 hc;clear hc HR;go_wp2;go_ret;exact⟨by rw[HF.out];rfl,kR.alloc _⟩
   ·have HF:Hid (r=false):=HR.out.trans (decide_eq_false fun h=>n1 h.1);clear n1 HR;go_wp2;go_ret;exact⟨by rw[HF.out];rfl,kR.alloc _⟩
  ·by_cases t2:t=2
   ·have HR:=jH (H2.out HI.out t2);subst t2;clear t1 H1 H2 H3 H4 HI;go_wp2_with fail;refine (name_any s _ HS.out).mono ?_;rintro e w1 ⟨rfl,rfl⟩;generalize nameL s.data.toList=b at *;cases b
    ·go_wp2;go_ret;exact⟨by rw[HR.out];rfl,kR.alloc _⟩
    ·by_cases hc:c=0
     ·subst hc;go_wp2;go_ret;exact⟨by rw[HR.out];rfl,kR.alloc _⟩
     ·have HF:Hid (r=false):=HR.out.trans (by rw[decide_eq_false hc];rfl);have d:(c == 0)=false:=beq_eq_false_iff_ne.2 hc;clear hc HR;go_wp2;go_ret;exact⟨by rw[HF.out];rfl,kR.alloc _⟩
   ·by_cases t3:t=3
    ·have HR:=jH (H3.out HI.out t3);subst t3;clear t1 t2 H1 H2 H3 H4 HI
     rcases nil_cases s with rfl|⟨n1,n2,n3⟩
     ·by_cases hc:0≤c
      ·by_cases hd:c < 8
       ·have HF:Hid (r=true):=HR.out.trans (decide_eq_true ⟨rfl,hc,hd⟩);have d8:decide (c < 8)=true:=decide_eq_true hd;clear HR;go_wp2;go_ret;exact⟨by rw[HF.out];rfl,kR.alloc _⟩
       ·have HF:Hid (r=false):=HR.out.trans (decide_eq_false fun h=>hd h.2.2);have d8:decide (c < 8)=false:=decide_eq_false hd;clear HR;go_wp2;go_ret;exact⟨by rw[HF.out];rfl,kR.alloc _⟩
      ·have HF:Hid (r=false):=HR.out.trans (decide_eq_false fun h=>hc h.2.1);have d:decide (0≤c)=false:=decide_eq_false hc;have d8:decide (c < 8)=true:=decide_eq_true (by omega);clear HR;go_wp2;go_ret;exact⟨by rw[HF.out];rfl,kR.alloc _⟩
     ·have HF:Hid (r=false):=HR.out.trans (decide_eq_false fun h=>n1 h.1);clear n1 HR;go_wp2;go_ret;exact⟨by rw[HF.out];rfl,kR.alloc _⟩
    ·have HF:=jH (H4.out t1 t2 t3);have d1:((t:Int) == 1)=false:=beq_eq_false_iff_ne.2 (by omega);have d2:((t:Int) == 2)=false:=beq_eq_false_iff_ne.2 (by omega);have d3:((t:Int) == 3)=false:=beq_eq_false_iff_ne.2 (by omega);clear t1 t2 t3 H1 H2 H3 H4 HI;go_wp2;go_ret;exact⟨by rw[HF.out];rfl,kR.alloc _⟩
 ·have HF:=jH (H0.out hi);rw[decide_eq_false hi];clear hi H0 H1 H2 H3 H4;go_wp2;go_ret;exact⟨by rw[HF.out];rfl,kR.alloc _⟩
end
section
set_option maxRecDepth 100000
open Go.RowKit
theorem rmay_any (k:KY) (w:World) (hn:k.n.size≤maxLen):
  Calls Tryz.prog 103 #[.agg #[.int .i64 k.i,.int .u8 (k.t:Nat),.string k.n,.int .i64 k.c]] w (NewBool w (mayK k)):=by
 have H0:Hid (¬(1≤k.i∧k.i≤65535)→mayK k=false):=may_i;have H1:Hid (1≤k.i∧k.i≤65535→k.t=1→mayK k=decide (k.n.data.toList=[]∧k.c=0)):=may_1;have H2:Hid (1≤k.i∧k.i≤65535→k.t=2→mayK k=(nameL k.n.data.toList && decide (k.c=0))):=may_2;have H3:Hid (1≤k.i∧k.i≤65535→k.t=3→mayK k=decide (k.n.data.toList=[]∧0≤k.c∧k.c < 8)):=may_3;have H4:Hid (k.t≠1→k.t≠2→k.t≠3→mayK k=false):=may_0;generalize mayK k=r at *;obtain⟨i,t,s,c⟩:=k
 dsimp only at *
 have HS:=jH hn;clear hn;go_enter Tryz.func103,Tryz.ntmps103
 by_cases hi:1≤i
 ·have e1:decide (i < 1)=false:=decide_eq_false (by omega)
  by_cases hi2:i≤65535
  ·have HI:Hid (1≤i∧i≤65535):=⟨hi,hi2⟩;have e2:decide (65535 < i)=false:=decide_eq_false (by omega);clear hi H0
   by_cases t1:t=1
   ·have HR:=jH (H1.out HI.out t1);subst t1;clear H1 H2 H3 H4 HI
    rcases nil_cases s with rfl|⟨n1,n2,n3⟩
    ·by_cases hc:c=0
     ·subst hc;go_wp2;go_ret;exact⟨by rw[HR.out];rfl,kR.alloc _⟩
     ·have HF:Hid (r=false):=HR.out.trans (decide_eq_false fun h=>hc h.2);have d:(c == 0)=false:=beq_eq_false_iff_ne.2 hc;clear hc HR;go_wp2;go_ret;exact⟨by rw[HF.out];rfl,kR.alloc _⟩
    ·have HF:Hid (r=false):=HR.out.trans (decide_eq_false fun h=>n1 h.1);clear n1 HR;go_wp2;go_ret;exact⟨by rw[HF.out];rfl,kR.alloc _⟩
   ·by_cases t2:t=2
    ·have HR:=jH (H2.out HI.out t2);subst t2;clear t1 H1 H2 H3 H4 HI;go_wp2_with fail;refine (rname_any s _ HS.out).mono ?_;rintro e w1 ⟨rfl,rfl⟩;generalize nameL s.data.toList=b at *;cases b
     ·go_wp2;go_ret;exact⟨by rw[HR.out];rfl,kR.alloc _⟩
     ·by_cases hc:c=0
      ·subst hc;go_wp2;go_ret;exact⟨by rw[HR.out];rfl,kR.alloc _⟩
      ·have HF:Hid (r=false):=HR.out.trans (by rw[decide_eq_false hc];rfl);have d:(c == 0)=false:=beq_eq_false_iff_ne.2 hc;clear hc HR;go_wp2;go_ret;exact⟨by rw[HF.out];rfl,kR.alloc _⟩
    ·by_cases t3:t=3
     ·have HR:=jH (H3.out HI.out t3);subst t3;clear t1 t2 H1 H2 H3 H4 HI
      rcases nil_cases s with rfl|⟨n1,n2,n3⟩
      ·by_cases hc:0≤c
       ·by_cases hd:c < 8
        ·have HF:Hid (r=true):=HR.out.trans (decide_eq_true ⟨rfl,hc,hd⟩);have d8:decide (c < 8)=true:=decide_eq_true hd;clear HR;go_wp2;go_ret;exact⟨by rw[HF.out];rfl,kR.alloc _⟩
        ·have HF:Hid (r=false):=HR.out.trans (decide_eq_false fun h=>hd h.2.2);have d8:decide (c < 8)=false:=decide_eq_false hd;clear HR;go_wp2;go_ret;exact⟨by rw[HF.out];rfl,kR.alloc _⟩
       ·have HF:Hid (r=false):=HR.out.trans (decide_eq_false fun h=>hc h.2.1);have d:decide (0≤c)=false:=decide_eq_false hc;have d8:decide (c < 8)=true:=decide_eq_true (by omega);clear HR;go_wp2;go_ret;exact⟨by rw[HF.out];rfl,kR.alloc _⟩
      ·have HF:Hid (r=false):=HR.out.trans (decide_eq_false fun h=>n1 h.1);clear n1 HR;go_wp2;go_ret;exact⟨by rw[HF.out];rfl,kR.alloc _⟩
     ·have HF:=jH (H4.out t1 t2 t3);have d1:((t:Int) == 1)=false:=beq_eq_false_iff_ne.2 (by omega);have d2:((t:Int) == 2)=false:=beq_eq_false_iff_ne.2 (by omega);have d3:((t:Int) == 3)=false:=beq_eq_false_iff_ne.2 (by omega);clear t1 t2 t3 H1 H2 H3 H4 HI;go_wp2;go_ret;exact⟨by rw[HF.out];rfl,kR.alloc _⟩
  ·have HF:=jH (H0.out (fun h=>hi2 h.2));have e2:decide (65535 < i)=true:=decide_eq_true (by omega);clear hi2 H0 H1 H2 H3 H4;go_wp2;go_ret;exact⟨by rw[HF.out];rfl,kR.alloc _⟩
 ·have HF:=jH (H0.out (fun h=>hi h.1));have e1:decide (i < 1)=true:=decide_eq_true (by omega);clear hi H0 H1 H2 H3 H4;go_wp2;go_ret;exact⟨by rw[HF.out];rfl,kR.alloc _⟩
end
section
set_option maxRecDepth 100000
open Go.RowKit
def strN (l:List Nat):ByteArray:=⟨(l.map UInt8.ofNat).toArray⟩
theorem strN_data (l:List Nat):(strN l).data.toList=l.map UInt8.ofNat:=rfl
theorem strN_size (l:List Nat):(strN l).size=l.length:=by rw[Lib.size_eq,strN_data,List.length_map]
theorem run_bs (A:Option Addr) (n c:Nat) (l:List Nat) (w:World) (h:Bts w A n l):
  (convert 52 9 (.slice A n c)).run Tryz.prog w=.ok (.string (strN l)) w:=by
 obtain⟨hl,hb,hc⟩:=h
 rcases Nat.eq_zero_or_pos n with h0|h0
 ·subst h0;obtain rfl:l=[]:=List.eq_nil_of_length_eq_zero hl;rw[run_convert_bytes_string w _ _ 5 A 0 c Tryz.underlying52 Tryz.underlying5 Tryz.underlying9]
  rcases A with _|a
  ·simp[Conv.bytesToString,strN]
   rfl
  ·have hz:(loadCells a 0).run Tryz.prog w=.ok (([]:List Int).map (Value.int .u8)).toArray w:=by simp[loadCells,loadCellsFrom]
   rw[run_bytesToString w a 0 c [] hz]
   rfl
 ·obtain⟨g,o,rfl,hcell⟩:=hc h0;rw[run_convert_bytes_arg w 52 5 Tryz.underlying52 Tryz.underlying5 g o n c (l.map (fun (x:Nat)=>((x:Nat):Int))) (by rw[List.length_map];exact hl) ?_ 9 Tryz.underlying9]
  ·congr 2
   refine ba_ext ?_;rw[strOfNums_data,strN_data,List.map_map]
   rfl
  ·intro i hi
   have hi2:i < l.length:=by omega
   rw[hcell i l[i] (List.getElem?_eq_getElem hi2),List.getD_eq_getElem?_getD,List.getElem?_map,List.getElem?_eq_getElem hi2]
   rfl
end
section
set_option maxRecDepth 100000
open Go.RowKit
theorem Kept.of_grown {w w':World} {row:Option Nat} (hg:w.grownBy w' row):Kept (fun k=>row=some k) w w':=kR.grown hg fun _ _ h=>h
theorem Blk.grownO {w w':World} {g:Nat} {t:TypeId} {cs:List Value} {A:Option Addr} {c B:Nat} {l:List Nat} (h:Blk w g t cs) (ho:OwnB w 5 B A c l) (hg:w.grownBy w' (A.map (·.block))) (hne:t≠5):Blk w' g t cs:=
 h.kept (Kept.of_grown hg) (by
  intro e;obtain⟨a,rfl,rfl⟩:=Option.map_eq_some_iff.1 e
  exact (ho.at_ a rfl).1.ne_of h.at_ (fun e=>hne e.symm) rfl)
theorem rputKey_any (k:KY) (w:World) (hn:k.n.size≤maxLen):
  Calls Tryz.prog 107 #[.agg #[.int .i64 k.i,.int .u8 (k.t:Nat),.string k.n,.int .i64 k.c]] w (RetB w (pkL k) (pkE k)):=by
 obtain⟨i0,hi,hz0,hz1,hz2⟩:=info_parts info_u8
 by_cases hm:mayK k=true
 ·have HP:=jH (may_parts hm);have HNM:=jH (may_name hm)
  have HR:Hid (pkL k=[k.i.toNat % 256,k.i.toNat / 256 % 256,k.t]++restK k):=by show _=_;unfold pkL;rw[if_pos hm];rfl
  have HE:Hid (pkE k=0):=by show _=_;unfold pkE;rw[if_pos hm]
  have HM2:=fun u=>jH (show Calls Tryz.prog _ _ u (NewBool u true) from hm ▸ rmay_any k u hn)
  clear hm;have HK:Hid (restK k=if k.t=2 then k.n.size::nB k.n else if k.t=3 then [k.c.toNat] else []):=rfl;generalize pkL k=pl at *;generalize pkE k=pe at *;generalize restK k=rk at *;obtain⟨i,t,s,c⟩:=k
  dsimp only at *
  have ht:=HP.out.2.2.1;have hi1:=HP.out.1;have hi2:=HP.out.2.1;obtain⟨m,rfl⟩:∃m:Nat,i=m:=⟨i.toNat,by omega⟩
  have hm2:m≤65535:=by omega
  have hm1:1≤m:=by omega
  simp only[Int.toNat_natCast] at HR;clear hi1 hi2;go_enter Tryz.func107,Tryz.ntmps107;go_wp2_with fail;refine (HM2 _).out.mono ?_;rintro e w1 ⟨rfl,k1⟩;have K1:Hid (New w w1):=(kR.alloc _).new k1;have B1:Hid (Blk w1 w.heap.size 92 [.int .i64 (m:Nat),.int .u8 (t:Nat),.string s,.int .i64 c]):=(Blk.made w _ _).kept k1 id;clear k1 HM2;obtain⟨a0,a1⟩:=B1.out.p2
  have q1:(0:Int)≤(m:Int) / 256:=by omega
  have q2:(m:Int) / 256≤255:=by omega
  have hlt:=B1.out.lt
  have hcells:Hid (#[Value.int IntKind.u8 ((m:Int) % 256),Value.int IntKind.u8 ((m:Int) / 256),Value.int IntKind.u8 (t:Nat)]=([m % 256,m / 256 % 256,t].map byt).toArray):=by
   have e1:(m:Int) / 256=((m / 256 % 256:Nat):Int):=by omega
   have e2:(m:Int) % 256=((m % 256:Nat):Int):=by omega
   show _=_
   rw[e1,e2]
   rfl
  have HB3:Hid (∀u:World,New w u→OwnB (u.alloc (.cells #[Value.int IntKind.u8 ((m:Int) % 256),Value.int IntKind.u8 ((m:Int) / 256),Value.int IntKind.u8 (t:Nat)] 5)) 5 w.heap.size (some ⟨u.heap.size,0,none⟩) 3 [m % 256,m / 256 % 256,t]):=by
   intro u hu;refine OwnB.of_blk (sp:=[]) ?_ hu.size (by intro x hx;simp only[List.append_nil,List.mem_cons,List.not_mem_nil,or_false] at hx;omega) rfl (by unfold maxLen;omega)
   have:=Blk.made u 5 #[Value.int IntKind.u8 ((m:Int) % 256),Value.int IntKind.u8 ((m:Int) / 256),Value.int IntKind.u8 (t:Nat)]
   rw[hcells.out] at this;rw[hcells.out];exact this
  clear hcells
  by_cases t2:t=2
  ·have HK2:Hid (rk=s.size::nB s):=HK.out.trans (if_pos t2);subst t2;clear HK;have a2:=B1.out.q2;have hs12:=HNM.out
   have u8s:IntKind.u8.wrap (s.size:Int)=(s.size:Int):=by rw[IntKind.wrap_u8];omega
   go_wp2_with (at_builtin;refine wpList_append_bytes _ rfl _ _ _ rfl 5 i0 Tryz.underlying52 hi hz0 hz1 hz2 w.heap.size (some ⟨w1.heap.size,0,none⟩) 3 3 [m % 256,m / 256 % 256,2] rfl ((HB3.out w1 K1.out).new (kR.alloc _)) rfl (some ⟨w1.heap.size+1,0,none⟩) 1 1 [s.size] rfl (Bts.one _ _ _ _ (by omega) (by simp)) ?_ ?_ ?_)
   ·simp
   ·have:=K1.out.size
    simp;omega
   intro A2 c2 w2 o2 g2 _;have k12:New w1 w2:=((kR.alloc _).alloc _).grown g2 (by simp;omega);have K2:Hid (New w w2):=K1.out.new k12;have B2:Hid (Blk w2 w.heap.size 92 [.int .i64 (m:Nat),.int .u8 (2:Nat),.string s,.int .i64 c]):=B1.out.kept k12 id;have O2:=jH o2;have HNL:=jH (nB_len s);clear k12 o2 g2 K1 B1 a0 a1 a2 hlt HB3 u8s q1 q2 hm1 hm2;go_wp2_with fail
   go_loopw [4,5] (fun o i wr=>∃(k:Nat) (A:Option Addr) (c':Nat),k≤s.size∧i=.int .i64 k∧o=.slice A (4+k) c'∧Hid (OwnB wr 5 w.heap.size A c' ([m % 256,m / 256 % 256,2]++[s.size]++(nB s).take k))∧Hid (New w wr)∧Hid (Blk wr w.heap.size 92 [.int .i64 (m:Nat),.int .u8 (2:Nat),.string s,.int .i64 c])) (fun _ i _=>s.size - (intOf i).toNat)
   case atStart=>exact⟨0,A2,c2,Nat.zero_le _,rfl,rfl,by simpa using O2,K2,B2⟩
   case round=>
    obtain⟨k,A,cc,hk,rfl,rfl,HO,HN,HB⟩:=hrel;clear O2 K2 B2;have a2:=HB.out.q2;have hlt:=HB.out.lt
    by_cases hks:k < s.size
    ·have HX:=jH (at_list s k hks);have hx:(s[k].toNat) < 256:=s[k].toNat_lt
     have HT:Hid ([m % 256,m / 256 % 256,2]++[s.size]++(nB s).take (k+1)=[m % 256,m / 256 % 256,2]++[s.size]++(nB s).take k++[s[k].toNat]):=by
      show _=_
      have:(nB s)[k]?=some s[k].toNat:=by unfold nB;rw[List.getElem?_map,HX.out];rfl
      rw[List.take_add_one,this];simp
     have HTL:Hid (([m % 256,m / 256 % 256,2]++[s.size]++(nB s).take k).length=4+k):=by
      show _=_
      have:=HNL.out
      simp only[List.length_append,List.length_cons,List.length_nil,List.length_take];omega
     go_wp2_with (at_builtin;refine wpList_append_bytes _ rfl _ _ _ rfl 5 i0 Tryz.underlying52 hi hz0 hz1 hz2 w.heap.size A _ cc ([m % 256,m / 256 % 256,2]++[s.size]++(nB s).take k) rfl (HO.out.new (kR.alloc _)) HTL.out.symm (some ⟨wr.heap.size,0,none⟩) 1 1 [s[k].toNat] rfl (Bts.one _ _ _ _ hx rfl) ?_ ?_ ?_)
     ·have:=HTL.out
      omega
     ·have:=HN.out.size
      simp;omega
     intro A3 c3 w3 o3 g3 _
     have HO3:Hid (OwnB w3 5 w.heap.size A3 c3 ([m % 256,m / 256 % 256,2]++[s.size]++(nB s).take (k+1))):=by rw[HT.out];exact o3
     have HO':=jH (HO.out.new ((Kept.refl (fun _=>False) wr).alloc (.cells #[.int .u8 (s[k].toNat:Nat)] 5)));have HN3:Hid (New w w3):=Kept.of_own (HN.out.alloc _) HO'.out g3;have HB3:Hid (Blk w3 w.heap.size 92 [.int .i64 (m:Nat),.int .u8 (2:Nat),.string s,.int .i64 c]):=(HB.out.alloc _).grownO HO'.out g3 (by decide);clear o3 g3 HO HO' HN HB HT HTL HX hx;go_wp2;go_roundw
     case rel=>exact⟨k+1,A3,c3,by omega,by go_num,by first|rfl|(congr 1),HO3,HN3,HB3⟩
     case measure=>simp[intOf];omega
    ·have EL:Hid (RetB w pl pe (.returned (.tuple #[.slice A (4+k) cc,.int .i64 0])) wr):=by
      have hks':k=s.size:=by omega
      have ho:=HO.out;have hnl:=HNL.out;rw[List.take_of_length_le (by omega)] at ho
      have e1:[m % 256,m / 256 % 256,2]++[s.size]++nB s=pl:=by rw[HR.out,HK2.out];simp
      rw[e1] at ho;refine⟨A,cc,?_,ho,HN.out⟩
      have:pl.length=4+k:=by
       rw[←e1];simp only[List.length_append,List.length_cons,List.length_nil];omega
      rw[this,HE.out]
     clear HO HN HNL HR HK2 HE;go_wp2;go_ret2;exact EL.out
  ·have d2:((t:Int) == 2)=false:=beq_eq_false_iff_ne.2 (by omega)
   by_cases t3:t=3
   ·have HK2:Hid (rk=[c.toNat]):=HK.out.trans (by rw[if_neg t2,if_pos t3]);have a3:=B1.out.q3
    have hc:0≤c∧c < 8:=by rcases HP.out.2.2.2 with h|h|h<;>omega
    obtain⟨x,rfl⟩:∃x:Nat,c=x:=⟨c.toNat,by omega⟩
    have hx8:x < 8:=by omega
    simp only[Int.toNat_natCast] at HK2;subst t3;clear HK t2 hc
    go_wp2_with (at_builtin;refine wpList_append_bytes _ rfl _ _ _ rfl 5 i0 Tryz.underlying52 hi hz0 hz1 hz2 w.heap.size (some ⟨w1.heap.size,0,none⟩) 3 3 [m % 256,m / 256 % 256,3] rfl ((HB3.out w1 K1.out).new (kR.alloc _)) rfl (some ⟨w1.heap.size+1,0,none⟩) 1 1 [x] rfl (Bts.one _ _ _ _ (by omega) (by simp)) ?_ ?_ ?_)
    ·simp
    ·have:=K1.out.size
     simp;omega
    intro A2 c2 w2 o2 g2 _
    have EL:Hid (RetB w pl pe (.returned (.tuple #[.slice A2 (3+1) c2,.int .i64 0])) w2):=by
     refine⟨A2,c2,by rw[HR.out,HK2.out,HE.out];rfl,by rw[HR.out,HK2.out];exact o2,?_⟩;have hs:=K1.out.size;exact ((K1.out.alloc _).alloc _).grown g2 (by simp;omega)
    clear o2 g2 K1 HR HK2 HE HB3;go_wp2;go_ret2;exact EL.out
   ·have HK2:Hid (rk=[]):=HK.out.trans (by rw[if_neg t2,if_neg t3]);have d3:((t:Int) == 3)=false:=beq_eq_false_iff_ne.2 (by omega)
    have EL:Hid (RetB w pl pe (.returned (.tuple #[.slice (some ⟨w1.heap.size,0,none⟩) 3 3,.int .i64 0])) (w1.alloc (.cells #[Value.int IntKind.u8 ((m:Int) % 256),Value.int IntKind.u8 ((m:Int) / 256),Value.int IntKind.u8 (t:Nat)] 5))):=by
     refine⟨_,3,by rw[HR.out,HK2.out,HE.out];rfl,?_,K1.out.alloc _⟩;rw[HR.out,HK2.out];exact HB3.out w1 K1.out
    clear t2 t3 HK K1 HR HK2 HE HB3;go_wp2;go_ret2;exact EL.out
 ·have HR:Hid (pkL k=[]):=by show _=_;unfold pkL;rw[if_neg hm]
  have HE:Hid (pkE k=2):=by show _=_;unfold pkE;rw[if_neg hm]
  have HM2:=fun u=>jH (show Calls Tryz.prog _ _ u (NewBool u false) from (Bool.not_eq_true _ ▸ hm:mayK k=false) ▸ rmay_any k u hn)
  clear hm;rw[HR.out,HE.out];obtain⟨i,t,s,c⟩:=k
  dsimp only at *
  go_enter Tryz.func107,Tryz.ntmps107;go_wp2_with fail;refine (HM2 _).out.mono ?_;rintro e w1 ⟨rfl,k1⟩;have K1:Hid (New w w1):=(kR.alloc _).new k1;clear k1 HM2;go_wp2;go_ret2;exact RetB.nil _ _ _ K1.out
end
end Go.Proofs.YtbiihjdjbknibaaGreat
