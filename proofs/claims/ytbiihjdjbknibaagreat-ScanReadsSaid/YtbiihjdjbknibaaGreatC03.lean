/-
  Layer 7: contracts (Ea Eb Ec).
-/
import Derived.Test.YtbiihjdjbknibaaGreatRows
import Derived.Test.YtbiihjdjbknibaaGreatC01
import Derived.WalkSpells
namespace Go.Proofs.YtbiihjdjbknibaaGreat
set_option maxRecDepth 100000
set_option maxHeartbeats 8000000
set_option linter.unusedSimpArgs false
set_option linter.unusedVariables false
section
set_option maxRecDepth 100000
open Go.RowKit
theorem info_u8:(Tryz.prog.info? 5).map (fun i=>(i.zero,i.size,i.bytes))=some (some (.int .u8 0),1,1):=by kernel_rfl
def isSz (s:Int):Prop:=s=1∨s=2∨s=4∨s=8
instance (s:Int):Decidable (isSz s):=by unfold isSz;infer_instance
theorem isSize_yes (s:Int) (w:World) (h:isSz s):
  Calls Tryz.prog 143 #[.int .i64 s] w fun e w'=>e=.returned (.bool true)∧w=w':=by
 rcases h with rfl|rfl|rfl|rfl
 all_goals
  go_enter Tryz.func143,Tryz.ntmps143;go_wp2;go_ret;exact⟨rfl,rfl⟩
theorem isSize_no (s:Int) (w:World) (h:¬isSz s):
  Calls Tryz.prog 143 #[.int .i64 s] w fun e w'=>e=.returned (.bool false)∧w=w':=by
 unfold isSz at h;have h1:(s == 1)=false:=beq_eq_false_iff_ne.2 (by omega);have h2:(s == 2)=false:=beq_eq_false_iff_ne.2 (by omega);have h3:(s == 4)=false:=beq_eq_false_iff_ne.2 (by omega);have h4:(s == 8)=false:=beq_eq_false_iff_ne.2 (by omega);clear h;go_enter Tryz.func143,Tryz.ntmps143;go_wp2;go_ret;exact⟨rfl,rfl⟩
theorem size_yes (s:Int) (w:World) (h:isSz s):
  Calls Tryz.prog 80 #[.int .i64 s] w fun e w'=>e=.returned (.bool true)∧w=w':=by
 rcases h with rfl|rfl|rfl|rfl
 all_goals
  go_enter Tryz.func80,Tryz.ntmps80;go_wp2;go_ret;exact⟨rfl,rfl⟩
theorem size_no (s:Int) (w:World) (h:¬isSz s):
  Calls Tryz.prog 80 #[.int .i64 s] w fun e w'=>e=.returned (.bool false)∧w=w':=by
 unfold isSz at h;have h1:(s == 1)=false:=beq_eq_false_iff_ne.2 (by omega);have h2:(s == 2)=false:=beq_eq_false_iff_ne.2 (by omega);have h3:(s == 4)=false:=beq_eq_false_iff_ne.2 (by omega);have h4:(s == 8)=false:=beq_eq_false_iff_ne.2 (by omega);clear h;go_enter Tryz.func80,Tryz.ntmps80;go_wp2;go_ret;exact⟨rfl,rfl⟩
def fitB (n s:Nat):Bool:=decide (n < 256 ^ s)
def leB (n s:Nat):List Nat:=(List.range s).map fun j=>n / 256 ^ j % 256
theorem leB_length (n s:Nat):(leB n s).length=s:=by simp[leB]
theorem leB_lt (n s:Nat):∀x∈leB n s,x < 256:=by
 intro x hx;obtain⟨j,_,rfl⟩:=List.mem_map.1 hx;omega
theorem leB_succ (n s:Nat):leB n (s+1)=leB n s++[n / 256 ^ s % 256]:=by simp[leB,List.range_succ]
def RetB (w:World) (l:List Nat) (er:Int) (e:Ending) (w':World):Prop:=
 ∃A c,e=.returned (.tuple #[.slice A l.length c,.int .i64 er])∧OwnB w' 5 w.heap.size A c l∧New w w'
theorem RetB.nil (w w':World) (er:Int) (h:New w w'):RetB w [] er (.returned (.tuple #[.slice none 0 0,.int .i64 er])) w':=⟨none,0,rfl,OwnB.nil _ _ _,h⟩
end
section
set_option maxRecDepth 100000
open Go.RowKit
def Quiet (w:World) (b:Bool) (e:Ending) (w':World):Prop:=∃d,e=.returned (.bool b)∧w'=w.drewN d
theorem same_eq (A B:Option Addr) (n c d:Nat) (l:List Nat) (w:World) (ha:Bts w A n l) (hb:Bts w B n l) (hn:n≤maxLen):
  Calls Tryz.prog 30 #[.slice A n c,.slice B n d] w (Quiet w true):=by
 unfold maxLen at hn;go_enter Tryz.func30,Tryz.ntmps30;go_wp2
 go_loopw [5] (fun i wr=>∃k q:Nat,k≤n∧i=.int .i64 k∧wr=w.drewN q) (fun i _=>n - (intOf i).toNat)
 case atStart=>exact⟨0,0,Nat.zero_le _,rfl,rfl⟩
 case round=>
  obtain⟨k,q,hk,rfl,rfl⟩:=hrel
  by_cases hlt:k < n
  ·obtain⟨g,o,x,rfl,hx,hxb,hc⟩:=ha.at_ hlt;obtain⟨g',o',y,rfl,hy,hyb,hc'⟩:=hb.at_ hlt
   obtain rfl:x=y:=by rw[hx] at hy;injection hy
   clear ha hb hx hy;go_wp2;go_quiet (fail);go_wp2;go_roundw
   case rel=>exact⟨k+1,_,by omega,by go_num,rfl⟩
   case measure=>simp[intOf];omega
  ·clear ha hb;go_wp2;go_ret;exact⟨q,rfl,rfl⟩
def RetL (w:World) (l:List Nat) (e:Ending) (w':World):Prop:=
 ∃A c,e=.returned (.slice A l.length c)∧OwnB w' 5 w.heap.size A c l∧New w w'
theorem clone_any (A:Option Addr) (n c:Nat) (l:List Nat) (w:World) (ha:Bts w A n l) (hn:n≤140737488351232) (hA:A=none→c=0∧n=0):
  Calls Tryz.prog 40 #[.slice A n c] w (RetL w l):=by
 obtain⟨i0,hi,hz0,hz1,hz2⟩:=info_parts info_u8;have hl:=ha.1
 have hq:=fun w a n c=>Lib.run_eql_slice_nil (P:=Tryz.prog) w 52 5 a n c 0 0 Tryz.underlying52
 rcases A with _|a
 ·obtain⟨rfl,rfl⟩:=hA rfl;obtain rfl:l=[]:=List.eq_nil_of_length_eq_zero hl;clear hA;go_enter Tryz.func40,Tryz.ntmps40;go_wp2;go_ret;exact⟨none,0,rfl,OwnB.nil _ _ _,kR⟩
 ·clear hA;go_enter Tryz.func40,Tryz.ntmps40
  go_wp2_with (at_builtin;refine wpList_append_bytes _ rfl _ _ _ rfl 5 i0 Tryz.underlying52 hi hz0 hz1 hz2 w.heap.size (some ⟨w.heap.size,0,none⟩) 0 0 [] rfl ?_ rfl (some a) n c l rfl ?_ ?_ ?_ ?_)
  ·exact⟨by simp,.inr ⟨_,[],rfl,Nat.le_refl _,Blk.madeB w 5 [],by simp,rfl,by simp⟩⟩
  ·exact ha.new (kR.alloc _)
  ·simp;omega
  ·simp
  intro A2 c2 w2 hown hg _;go_wp2;go_ret;subst hl;exact⟨A2,c2,by simp,by simpa using hown,(kR.alloc _).grown hg (by simp;omega)⟩
def rowL (l:List Nat):List Nat:=if l.length≤255 then l.length::l else []
def rowE (l:List Nat):Int:=if l.length≤255 then 0 else 3
theorem rrow_any (A:Option Addr) (n c:Nat) (l:List Nat) (w:World) (ha:Bts w A n l) (hn:n≤maxLen):
  Calls Tryz.prog 108 #[.slice A n c] w (RetB w (rowL l) (rowE l)):=by
 obtain⟨i0,hi,hz0,hz1,hz2⟩:=info_parts info_u8;have hl:l.length=n:=ha.1;unfold maxLen at hn
 by_cases hle:n≤255
 ·have e1:rowL l=l.length::l:=by unfold rowL;rw[if_pos (by omega)]
  have e2:rowE l=0:=by unfold rowE;rw[if_pos (by omega)]
  rw[e1,e2];clear e1 e2;go_enter Tryz.func108,Tryz.ntmps108
  go_wp2_with (at_builtin;refine wpList_append_bytes _ rfl _ _ _ rfl 5 i0 Tryz.underlying52 hi hz0 hz1 hz2 w.heap.size (some ⟨w.heap.size,0,none⟩) 1 1 [n] rfl ?_ rfl A n c l rfl ?_ ?_ ?_ ?_)
  ·exact OwnB.of_blk (l:=[n]) (sp:=[]) (Blk.made w 5 _) (Nat.le_refl _) (by simp;omega) (by simp) (by unfold maxLen;omega)
  ·exact ha.new (kR.alloc _)
  ·simp;omega
  ·simp
  intro A3 c3 w3 hown3 hg3 _;go_wp2;go_ret2;subst hl;exact⟨A3,c3,by simp;omega,by simpa using hown3,(kR.alloc _).grown hg3 (by simp;omega)⟩
 ·have e1:rowL l=[]:=by unfold rowL;rw[if_neg (by omega)]
  have e2:rowE l=3:=by unfold rowE;rw[if_neg (by omega)]
  rw[e1,e2];go_enter Tryz.func108,Tryz.ntmps108;go_wp2;go_ret2;exact RetB.nil _ _ _ kR
theorem Kept.of_own {w w1 w2:World} {t:TypeId} {A:Option Addr} {c:Nat} {l:List Nat} (k:New w w1) (h:OwnB w1 t w.heap.size A c l) (hg:w1.grownBy w2 (A.map (·.block))):New w w2:=
 k.grown hg fun q hq hA=>by
  obtain⟨a,rfl,rfl⟩:=Option.map_eq_some_iff.1 hA
  have:=(h.at_ a rfl).2
  omega
theorem rput_loop (n s:Nat) (w:World) (hn:n < 18446744073709551616) (hs:isSz s):
  Calls Tryz.prog 47 #[.int .u64 n,.int .i64 s] w (fun e w'=>if fitB n s=true then RetB w (leB n s) 0 e w' else RetB w [] 2 e w'):=by
 have h8:s≤8:=by unfold isSz at hs;omega
 have hs0:=jH hs;clear hs;obtain⟨i0,hi,hz0,hz1,hz2⟩:=info_parts info_u8;generalize hP:(fun e w'=>if fitB n s=true then RetB w (leB n s) 0 e w' else RetB w [] 2 e w')=Post;have HP:=jH hP;clear hP;go_enter Tryz.func47,Tryz.ntmps47
 go_wp2_with (go_at_call 80;refine (size_yes _ _ hs0.out).mono ?_;rintro e w' ⟨rfl,rfl⟩)
 go_loopw [0,6,7] (fun nn v i wr=>∃k m:Nat,∃A c,k≤s∧m < 18446744073709551616∧Hid (m=n / 256 ^ k)∧nn=.int .u64 m∧v=.slice A k c∧i=.int .i64 k∧OwnB wr 5 w.heap.size A c (leB n k)∧New w wr) (fun _ _ i _=>s - (intOf i).toNat)
 case atStart=>exact⟨0,n,none,0,Nat.zero_le _,hn,by simp[Hid],rfl,rfl,rfl,OwnB.nil _ _ _,kR⟩
 case round=>
  obtain⟨k,m,A,c,hk,hm,HM,rfl,rfl,rfl,hown,hnew⟩:=hrel
  by_cases hlt:k < s
  ·have hz:=hnew.size;have hlen:=jH (leB_length n k)
   go_wp2_with (at_builtin;refine wpList_append_bytes _ rfl _ _ _ rfl 5 i0 Tryz.underlying52 hi hz0 hz1 hz2 w.heap.size A k c (leB n k) rfl ?_ ?_ (some ⟨wr.heap.size,0,none⟩) 1 1 [m % 256] rfl ?_ ?_ ?_ ?_)
   ·exact hown.new (kR.alloc _)
   ·exact hlen.out.symm
   ·exact Bts.one _ _ (m % 256) _ (by omega) rfl
   ·rw[hlen.out];omega
   ·simp;omega
   intro A3 c3 w3 hown3 hg3 _;have k3:New w w3:=Kept.of_own (hnew.alloc _) (hown.new (kR.alloc _)) hg3;clear hown hg3 hnew
   have hown4:OwnB w3 5 w.heap.size A3 c3 (leB n (k+1)):=by rw[leB_succ,←HM.out];exact hown3
   clear hown3;go_wp2;go_roundw
   case rel=>exact⟨k+1,m / 256,A3,c3,by omega,by omega,by rw[Hid,HM.out,Nat.pow_succ,Nat.div_div_eq_div_mul],by go_num,rfl,by go_num,hown4,k3⟩
   case measure=>simp[intOf];omega
  ·obtain rfl:k=s:=by omega
   by_cases h0:0 < m
   ·have hf:fitB n k=false:=by
     unfold fitB;rw[decide_eq_false_iff_not];intro h
     have:=HM.out
     rw[Nat.div_eq_of_lt h] at this;omega
    clear hown hlt;go_wp2;rw[←HP.out];simp only[hf];exact RetB.nil _ _ _ hnew
   ·have hf:fitB n k=true:=by
     unfold fitB;rw[decide_eq_true_iff]
     have h2:n / 256 ^ k=0:=by rw[←HM.out];omega
     rcases Nat.div_eq_zero_iff.1 h2 with h|h
     ·exact absurd h (Nat.pos_iff_ne_zero.1 (Nat.pow_pos (by omega)))
     ·exact h
    clear hlt;go_wp2;rw[←HP.out];simp only[hf];refine⟨A,c,by rw[leB_length];rfl,hown,hnew⟩
def putL (n:Nat) (s:Int):List Nat:=if isSz s∧fitB n s.toNat=true then leB n s.toNat else []
def putE (n:Nat) (s:Int):Int:=if isSz s∧fitB n s.toNat=true then 0 else 2
theorem rput_any (n:Nat) (s:Int) (w:World) (hn:n < 18446744073709551616):
  Calls Tryz.prog 47 #[.int .u64 n,.int .i64 s] w (RetB w (putL n s) (putE n s)):=by
 by_cases hs:isSz s
 ·obtain⟨m,rfl⟩:∃m:Nat,s=m:=⟨s.toNat,by unfold isSz at hs;omega⟩
  refine (rput_loop n m w hn hs).mono fun e w' h=>?_
  unfold putL putE;rw[Int.toNat_natCast]
  by_cases hf:fitB n m=true
  ·simp only[hf,if_true] at h;rw[if_pos ⟨hs,hf⟩,if_pos ⟨hs,hf⟩];exact h
  ·simp only[hf] at h;rw[if_neg (fun x=>hf x.2),if_neg (fun x=>hf x.2)];exact h
 ·have e1:putL n s=[]:=by unfold putL;rw[if_neg (fun x=>hs x.1)]
  have e2:putE n s=2:=by unfold putE;rw[if_neg (fun x=>hs x.1)]
  rw[e1,e2];go_enter Tryz.func47,Tryz.ntmps47
  go_wp2_with (go_at_call 80;refine (size_no _ _ hs).mono ?_;rintro e w' ⟨rfl,rfl⟩)
  go_ret2;exact RetB.nil _ _ _ kR
end
section
set_option maxRecDepth 100000
open Go.RowKit
variable {Q:Nat→Prop}
def Rdr (Q:Nat→Prop) (w:World) (g:Nat) (l:List Nat):Prop:=
 ∃A c,Blk w g 211 [.bool true,.slice A l.length c]∧Bts w A l.length l∧(∀a,A=some a→Q a.block∧At w a.block 5)∧l.length≤c∧c≤maxLen
theorem Rdr.kept {S:Nat→Prop} {w w':World} {g:Nat} {l:List Nat} (h:Rdr Q w g l) (hk:Kept S w w') (hg:¬S g) (hs:∀k,S k→Q k→¬At w k 5):Rdr Q w' g l:=by
 obtain⟨A,c,h1,h2,h3,h4⟩:=h
 have hn:∀a,A=some a→¬S a.block:=fun a ha hS=>hs _ hS (h3 a ha).1 (h3 a ha).2
 exact⟨A,c,h1.kept hk hg,h2.kept hk hn,fun a ha=>⟨(h3 a ha).1,(h3 a ha).2.kept hk (hn a ha)⟩,h4⟩
theorem Rdr.drewN {w:World} {g:Nat} {l:List Nat} (h:Rdr Q w g l) (k:Nat):Rdr Q (w.drewN k) g l:=h
theorem Rdr.new {w w':World} {g:Nat} {l:List Nat} (h:Rdr Q w g l) (hk:New w w'):Rdr Q w' g l:=h.kept hk (fun f=>f) (fun _ f _=>f.elim)
theorem Rdr.at_ {w:World} {g:Nat} {l:List Nat} (h:Rdr Q w g l):At w g 211:=by
 obtain⟨A,c,h1,_⟩:=h;exact h1.at_
theorem Rdr.mono {Q':Nat→Prop} {w:World} {g:Nat} {l:List Nat} (h:Rdr Q w g l) (hq:∀b,Q b→b < w.heap.size→Q' b):Rdr Q' w g l:=by
 obtain⟨A,c,h1,h2,h3,h4⟩:=h;exact⟨A,c,h1,h2,fun a ha=>⟨hq _ (h3 a ha).1 (h3 a ha).2.lt,(h3 a ha).2⟩,h4⟩
abbrev Any:Nat→Prop:=fun _=>True
theorem Rdr.any {w:World} {g:Nat} {l:List Nat} (h:Rdr Q w g l):Rdr Any w g l:=h.mono fun _ _ _=>trivial
theorem isNone_no (g:Nat) (l:List Nat) (w:World) (h:Rdr Q w g l):
  Calls Tryz.prog 142 #[.pointer (some ⟨g,0,none⟩)] w fun e w'=>e=.returned (.bool false)∧w=w':=by
 obtain⟨A,c,h1,_⟩:=h;have hc:=h1.cell 0;simp only[List.getElem?_cons_zero] at hc;clear h1;go_enter Tryz.func142,Tryz.ntmps142;go_wp2;go_ret;exact⟨rfl,rfl⟩
theorem eleft_any (g:Nat) (l:List Nat) (w:World) (h:Rdr Q w g l):
  Calls Tryz.prog 127 #[.pointer (some ⟨g,0,none⟩)] w fun e w'=>e=.returned (.int .i64 (l.length:Int))∧w=w':=by
 have hn:=isNone_no g l w h;have Hn:=jH hn;clear hn;obtain⟨A,c,h1,_⟩:=h;have hc:=h1.cell 1;simp only[List.getElem?_cons_succ,List.getElem?_cons_zero] at hc;clear h1;go_enter Tryz.func127,Tryz.ntmps127
 go_wp2_with (go_at_call 142;refine Hn.out.mono ?_;rintro e w' ⟨rfl,rfl⟩)
 go_ret;exact⟨rfl,rfl⟩
def CutP (Q:Nat→Prop) (w:World) (g:Nat) (l:List Nat) (n:Nat) (e:Ending) (w':World):Prop:=
 ∃A,e=.returned (.tuple #[.slice A n n,.int .i64 0])∧Bts w' A n (l.take n)∧Rdr Q w' g (l.drop n)∧Kept (·=g) w w'
theorem Rdr.cut {w:World} {g n:Nat} {l:List Nat} {A A':Option Addr} {c c' L m:Nat} (h1:Blk w g 211 [.bool true,.slice A l.length c]) (h2:Bts w A l.length l)
  (h3:∀a,A=some a→Q a.block∧At w a.block 5) (h4:L≤c) (h5:c≤2 ^ 63 - 1) (hL:l.length=L) (hn:n≤L) (hm:m=L - n) (hA:A'=if c=n then A else A.map (·.add n)) (hc:c'=c - n):
  Bts (w.setCell ⟨g,1,none⟩ (.slice A' m c')) A n (l.take n)∧Rdr Q (w.setCell ⟨g,1,none⟩ (.slice A' m c')) g (l.drop n)∧Kept (·=g) w (w.setCell ⟨g,1,none⟩ (.slice A' m c')):=by
 subst hL hm;have hk:Kept (·=g) w (w.setCell ⟨g,1,none⟩ (.slice A' (l.length - n) c')):=Kept.set1 _ _ _ _
 have hne:∀a,A=some a→¬a.block=g:=fun a ha=>(h3 a ha).2.ne_of h1.at_ (by decide)
 refine⟨(h2.take hn).kept hk hne,⟨A',c',?_,?_,?_,by simp;omega,by unfold maxLen;omega⟩,hk⟩
 ·have:=h1.put 1 (.slice A' (l.length - n) c')
  simpa using this
 ·have:=h2.cut hn h4
  rw[←hA] at this;rw[List.length_drop];refine this.kept hk ?_;rintro a rfl
  split at hA
  ·exact hne a hA.symm
  ·obtain⟨b,hb,rfl⟩:=Option.map_eq_some_iff.1 hA.symm
   have:=hne b hb
   unfold Addr.add
   split<;>exact this
 ·rintro a rfl
  have hb:∃b,A=some b∧b.block=a.block:=by
   split at hA
   ·exact⟨a,hA.symm,rfl⟩
   ·obtain⟨b,hb,rfl⟩:=Option.map_eq_some_iff.1 hA.symm;refine⟨b,hb,?_⟩;unfold Addr.add
    split<;>rfl
  obtain⟨b,hb,e⟩:=hb;rw[←e];exact⟨(h3 b hb).1,(h3 b hb).2.kept hk (hne b hb)⟩
theorem cut_ok (g n:Nat) (l:List Nat) (w:World) (h:Rdr Q w g l) (hn:n≤l.length):
  Calls Tryz.prog 144 #[.pointer (some ⟨g,0,none⟩),.int .i64 n] w (CutP Q w g l n):=by
 obtain⟨A,c,h1,h2,h3,h4,h5⟩:=h;have hc:=h1.cell 1;have hf:=h1.free 1;simp only[List.getElem?_cons_succ,List.getElem?_cons_zero] at hc;unfold maxLen at h5;generalize hL:l.length=L at hc h4 hn;have HL:=jH hL;clear hL;have H1:=jH h1;have H2:=jH h2;clear h1 h2;go_enter Tryz.func144,Tryz.ntmps144;go_wp2
 all_goals go_ret2
 ·have:=Rdr.cut (A':=A) (c':=0) H1.out H2.out h3 h4 h5 HL.out hn rfl (by rw[if_pos h]) (by omega)
  exact⟨A,rfl,this⟩
 ·have:=Rdr.cut (A':=A.map (·.add n)) (c':=c - n) H1.out H2.out h3 h4 h5 HL.out hn rfl (by rw[if_neg h]) (by omega)
  exact⟨A,rfl,this⟩
theorem Rdr.refuse {w:World} {g:Nat} {l:List Nat} (h:Rdr Q w g l):
  Rdr Q (w.setCell ⟨g,1,none⟩ (.slice none 0 0)) g []∧Kept (·=g) w (w.setCell ⟨g,1,none⟩ (.slice none 0 0)):=by
 obtain⟨A,c,h1,h2,h3,h4,h5⟩:=h;refine⟨⟨none,0,?_,Bts.nil _ _,by simp,by simp,by simp⟩,Kept.set1 _ _ _ _⟩
 have:=h1.put 1 (.slice none 0 0)
 simpa using this
theorem cut_no (g n:Nat) (l:List Nat) (w:World) (h:Rdr Q w g l) (hn:l.length < n) (_hm:n≤255):
  Calls Tryz.prog 144 #[.pointer (some ⟨g,0,none⟩),.int .i64 n] w
   fun e w'=>e=.returned (.tuple #[.slice none 0 0,.int .i64 4])∧Rdr Q w' g []∧Kept (·=g) w w':=by
 have H:=jH h.refuse;obtain⟨A,c,h1,h2,h3,h4,h5⟩:=h;have hc:=h1.cell 1;have hf:=h1.free 1;simp only[List.getElem?_cons_succ,List.getElem?_cons_zero] at hc;clear h1 h2 h3;go_enter Tryz.func144,Tryz.ntmps144;go_wp2;go_ret2;exact⟨rfl,H.out⟩
theorem cut_okZ (g n:Nat) (z:Int) (l:List Nat) (w:World) (h:Rdr Q w g l) (hz:z=(n:Int)) (hn:n≤l.length):
  Calls Tryz.prog 144 #[.pointer (some ⟨g,0,none⟩),.int .i64 z] w (CutP Q w g l n):=by subst hz;exact cut_ok g n l w h hn
theorem cut_noZ (g n:Nat) (z:Int) (l:List Nat) (w:World) (h:Rdr Q w g l) (hz:z=(n:Int)) (hn:l.length < n) (hm:n≤255):
  Calls Tryz.prog 144 #[.pointer (some ⟨g,0,none⟩),.int .i64 z] w
   fun e w'=>e=.returned (.tuple #[.slice none 0 0,.int .i64 4])∧Rdr Q w' g []∧Kept (·=g) w w':=by subst hz;exact cut_no g n l w h hn hm
def leV:List Nat→Nat
 | []=>0
 | x::r=>x+256*leV r
theorem leV_append (a b:List Nat):leV (a++b)=leV a+256 ^ a.length*leV b:=by
 induction a with
 | nil=>simp[leV]
 | cons x r ih=>simp[leV,ih,Nat.pow_succ,Nat.mul_add,Nat.add_assoc,Nat.mul_assoc,Nat.mul_comm]
theorem leV_lt (a:List Nat) (h:∀x∈a,x < 256):leV a < 256 ^ a.length:=by
 induction a with
 | nil=>simp[leV]
 | cons x r ih=>
  have h1:=h x (by simp)
  have h2:=ih fun y hy=>h y (by simp[hy])
  simp only[leV,List.length_cons,Nat.pow_succ];omega
theorem pow256 (k:Nat):(256:Nat) ^ k=2 ^ (8*k):=by rw[show (256:Nat)=2 ^ 8 from rfl,Nat.pow_mul]
theorem or_shift (m x k:Nat) (hm:m < 256 ^ k) (hx:x < 256) (hk:k < 8):bits .or .u64 (m:Int) (IntKind.u64.wrap ((x:Int)*2 ^ (8*k)))=((m+256 ^ k*x:Nat):Int):=by
 rw[pow256] at hm ⊢;have hp:(2:Nat) ^ (8*k)≤2 ^ 56:=Nat.pow_le_pow_right (by omega) (by omega)
 have hlt:2 ^ (8*k)*x < 18446744073709551616:=by
  calc 2 ^ (8*k)*x≤2 ^ 56*x:=Nat.mul_le_mul_right _ hp
   _ < 18446744073709551616:=by omega
 have e:IntKind.u64.wrap ((x:Int)*2 ^ (8*k))=((2 ^ (8*k)*x:Nat):Int):=by
  have e2:((x:Int)*2 ^ (8*k))=((2 ^ (8*k)*x:Nat):Int):=by
   rw[Int.natCast_mul,Int.natCast_pow,Int.mul_comm];rfl
  rw[IntKind.wrap_u64,e2];omega
 rw[e,u64_or_nat _ _ (by omega) hlt,Nat.or_comm,←Nat.two_pow_add_eq_or_of_lt hm,Nat.add_comm]
theorem leV_take (l:List Nat) (k x:Nat) (hx:l[k]?=some x):leV (l.take (k+1))=leV (l.take k)+256 ^ k*x:=by
 have hk:k < l.length:=(List.getElem?_eq_some_iff.1 hx).1;have e:l[k]=x:=(List.getElem?_eq_some_iff.1 hx).2;rw[List.take_succ_eq_append_getElem hk,leV_append,List.length_take,Nat.min_eq_left (by omega),e];simp[leV]
def takeE (l:List Nat) (s:Int):Int:=if isSz s then (if s.toNat≤l.length then 0 else 4) else 2
def takeL (l:List Nat) (s:Int):List Nat:=if isSz s then (if s.toNat≤l.length then l.drop s.toNat else []) else l
def takeV (l:List Nat) (s:Int):Nat:=if isSz s then (if s.toNat≤l.length then leV (l.take s.toNat) else 0) else 0
def TakeP (Q:Nat→Prop) (w:World) (g:Nat) (l:List Nat) (s:Int) (e:Ending) (w':World):Prop:=
 e=.returned (.tuple #[.int .u64 (takeV l s:Nat),.int .i64 (takeE l s)])∧Rdr Q w' g (takeL l s)∧Kept (·=g) w w'
theorem etake_ok (g:Nat) (l:List Nat) (s:Nat) (w:World) (h:Rdr Q w g l) (hs:isSz s) (hl:s≤l.length):
  Calls Tryz.prog 128 #[.pointer (some ⟨g,0,none⟩),.int .i64 s] w
   fun e w'=>e=.returned (.tuple #[.int .u64 (leV (l.take s):Nat),.int .i64 0])∧Rdr Q w' g (l.drop s)∧Kept (·=g) w w':=by
 have h8:s≤8:=by unfold isSz at hs;omega
 have H:=jH h;clear h;have hs0:=jH hs;clear hs;go_enter Tryz.func128,Tryz.ntmps128
 go_wp2_with (first
  | (go_at_call 142;refine (isNone_no _ _ _ H.out).mono ?_;rintro e w' ⟨rfl,rfl⟩)
  | (go_at_call 143;refine (isSize_yes _ _ hs0.out).mono ?_;rintro e w' ⟨rfl,rfl⟩)
  | (go_at_call 144;refine (cut_ok _ _ _ _ H.out hl).mono ?_;rintro e w' ⟨A,rfl,hb,hr,hk⟩;have HR:=jH hr;have HK:=jH hk;clear hr hk))
 go_loop [8,27] (fun n i=>∃k m:Nat,k≤s∧i=.int .i64 k∧n=.int .u64 m∧Hid (m=leV ((l.take s).take k))∧m < 256 ^ k) (fun _ i=>s - (intOf i).toNat)
 case atStart=>exact⟨0,0,Nat.zero_le _,rfl,rfl,by simp[Hid,leV],by simp⟩
 case round=>
  obtain⟨k,m,hk,rfl,rfl,HM,hm⟩:=hrel
  by_cases hlt:k < s
  ·obtain⟨ga,o,x,rfl,hx,hxb,hc⟩:=hb.at_ hlt;have HX:=jH hx;clear hb hx;go_wp2;have e:=or_shift m x k hm hxb (by omega)
   have hlt':m+256 ^ k*x < 256 ^ (k+1):=by
    rw[Nat.pow_succ]
    have:256 ^ k*x≤256 ^ k*255:=Nat.mul_le_mul_left _ (by omega)
    omega
   go_round
   case rel=>exact⟨k+1,m+256 ^ k*x,by omega,by go_num,by rw[e],by rw[Hid,leV_take _ _ _ HX.out,HM.out],hlt'⟩
   case measure=>simp[intOf];omega
  ·clear hb;go_wp2;go_ret2
   obtain rfl:k=s:=by omega
   have e:=HM.out;rw[List.take_take,Nat.min_self] at e;refine⟨?_,HR.out,HK.out⟩;rw[←e]
   rfl
theorem etake_short (g:Nat) (l:List Nat) (s:Nat) (w:World) (h:Rdr Q w g l) (hs:isSz s) (hl:l.length < s):
  Calls Tryz.prog 128 #[.pointer (some ⟨g,0,none⟩),.int .i64 s] w
   fun e w'=>e=.returned (.tuple #[.int .u64 0,.int .i64 4])∧Rdr Q w' g []∧Kept (·=g) w w':=by
 have h8:s≤8:=by unfold isSz at hs;omega
 have H:=jH h;clear h;have hs0:=jH hs;clear hs;go_enter Tryz.func128,Tryz.ntmps128
 go_wp2_with (first
  | (go_at_call 142;refine (isNone_no _ _ _ H.out).mono ?_;rintro e w' ⟨rfl,rfl⟩)
  | (go_at_call 143;refine (isSize_yes _ _ hs0.out).mono ?_;rintro e w' ⟨rfl,rfl⟩)
  | (go_at_call 144;refine (cut_no _ _ _ _ H.out hl (by omega)).mono ?_;rintro e w' ⟨rfl,hr,hk⟩;have HR:=jH hr;have HK:=jH hk;clear hr hk))
 go_ret2;exact⟨rfl,HR.out,HK.out⟩
theorem etake_none (g:Nat) (l:List Nat) (s:Int) (w:World) (h:Rdr Q w g l) (hs:¬isSz s):
  Calls Tryz.prog 128 #[.pointer (some ⟨g,0,none⟩),.int .i64 s] w
   fun e w'=>e=.returned (.tuple #[.int .u64 0,.int .i64 2])∧Rdr Q w' g l∧Kept (·=g) w w':=by
 have H:=jH h;clear h;have hs0:=jH hs;clear hs;go_enter Tryz.func128,Tryz.ntmps128
 go_wp2_with (first
  | (go_at_call 142;refine (isNone_no _ _ _ H.out).mono ?_;rintro e w' ⟨rfl,rfl⟩)
  | (go_at_call 143;refine (isSize_no _ _ hs0.out).mono ?_;rintro e w' ⟨rfl,rfl⟩))
 go_ret2;exact⟨rfl,H.out,kR⟩
theorem etake_any (g:Nat) (l:List Nat) (s:Int) (w:World) (h:Rdr Q w g l):
  Calls Tryz.prog 128 #[.pointer (some ⟨g,0,none⟩),.int .i64 s] w (TakeP Q w g l s):=by
 by_cases hs:isSz s
 ·obtain⟨m,rfl⟩:∃m:Nat,s=m:=⟨s.toNat,by unfold isSz at hs;omega⟩
  by_cases hl:m≤l.length
  ·refine (etake_ok g l m w h hs hl).mono fun e w' x=>?_
   unfold TakeP takeV takeE takeL;rw[Int.toNat_natCast];simp only[hs,hl,if_true];exact x
  ·refine (etake_short g l m w h hs (by omega)).mono fun e w' x=>?_
   unfold TakeP takeV takeE takeL;rw[Int.toNat_natCast];simp only[hs,hl,if_true,if_false];exact x
 ·refine (etake_none g l s w h hs).mono fun e w' x=>?_
  unfold TakeP takeV takeE takeL;simp only[hs,if_false];exact x
def RowP (Q:Nat→Prop) (w:World) (g:Nat) (l k:List Nat) (e:Ending) (w':World):Prop:=
 ∃A c,e=.returned (.tuple #[.slice A l.length c,.int .i64 0])∧OwnB w' 5 w.heap.size A c l∧Rdr Q w' g k∧Kept (·=g) w w'
theorem erow_ok (g n:Nat) (r:List Nat) (w:World) (h:Rdr Q w g (n::r)) (hn:n≤r.length):
  Calls Tryz.prog 156 #[.pointer (some ⟨g,0,none⟩)] w (RowP Q w g (r.take n) (r.drop n)):=by
 have hn8:n < 256:=by obtain⟨A,c,_,h2,_⟩:=h;exact h2.2.1 n (by simp)
 have H:=jH h;clear h;go_enter Tryz.func156,Tryz.ntmps156
 go_wp2_with (go_at_call 142;refine (isNone_no _ _ _ H.out).mono ?_;rintro e w' ⟨rfl,rfl⟩)
 refine (cut_okZ g 1 1 _ _ H.out rfl (by simp)).mono ?_;rintro e w1 ⟨A,rfl,hb,hr,hk⟩;obtain⟨ga,o,x,rfl,hx,hxb,hc⟩:=hb.at_ (k:=0) (by omega)
 obtain rfl:x=n:=by simpa using hx.symm
 have HR:=jH hr;have HK:=jH hk;clear hr hk hb hx H;simp only[Nat.add_zero] at hc;go_wp2_with fail;refine (cut_okZ g x _ _ _ HR.out (by rfl) (by simpa using hn)).mono ?_;rintro e w2 ⟨A,rfl,hb2,hr2,hk2⟩;have HR2:=jH hr2;have HK2:=jH hk2;have HB2:=jH hb2;clear hr2 hk2 hb2 hc;go_wp2_with fail;refine (clone_any A x x _ _ HB2.out (by omega) (fun hA=>?_)).mono ?_
 ·subst hA
  rcases Nat.eq_zero_or_pos x with h0|h0
  ·exact⟨h0,h0⟩
  ·obtain⟨_,_,h,_⟩:=HB2.out.2.2 h0;cases h
 rintro e w3 ⟨A3,c3,rfl,hown3,hk3⟩;go_wp2;go_ret2;have k2:=HK2.out;have k1:=HK.out
 have k12:Kept (·=g) w w2:=k1.trans k2 fun _ _ h=>h
 refine⟨A3,c3,by rw[List.length_take,Nat.min_eq_left hn];rfl,(by simpa using hown3.mono k12.size),?_,k12.new hk3⟩
 have:=HR2.out.new hk3
 simpa using this
def ShortP (Q:Nat→Prop) (w:World) (g:Nat) (e:Ending) (w':World):Prop:=
 e=.returned (.tuple #[.slice none 0 0,.int .i64 4])∧Rdr Q w' g []∧Kept (·=g) w w'
theorem erow_nil (g:Nat) (w:World) (h:Rdr Q w g []):
  Calls Tryz.prog 156 #[.pointer (some ⟨g,0,none⟩)] w (ShortP Q w g):=by
 have H:=jH h;clear h;go_enter Tryz.func156,Tryz.ntmps156
 go_wp2_with (go_at_call 142;refine (isNone_no _ _ _ H.out).mono ?_;rintro e w' ⟨rfl,rfl⟩)
 refine (cut_noZ g 1 1 _ _ H.out rfl (by simp) (by omega)).mono ?_;rintro e w1 ⟨rfl,hr,hk⟩;have HR:=jH hr;have HK:=jH hk;clear hr hk H;go_wp2;go_ret2;exact⟨rfl,HR.out,HK.out⟩
theorem erow_short (g n:Nat) (r:List Nat) (w:World) (h:Rdr Q w g (n::r)) (hn:r.length < n):
  Calls Tryz.prog 156 #[.pointer (some ⟨g,0,none⟩)] w (ShortP Q w g):=by
 have hn8:n < 256:=by obtain⟨A,c,_,h2,_⟩:=h;exact h2.2.1 n (by simp)
 have H:=jH h;clear h;go_enter Tryz.func156,Tryz.ntmps156
 go_wp2_with (go_at_call 142;refine (isNone_no _ _ _ H.out).mono ?_;rintro e w' ⟨rfl,rfl⟩)
 refine (cut_okZ g 1 1 _ _ H.out rfl (by simp)).mono ?_;rintro e w1 ⟨A,rfl,hb,hr,hk⟩;obtain⟨ga,o,x,rfl,hx,hxb,hc⟩:=hb.at_ (k:=0) (by omega)
 obtain rfl:x=n:=by simpa using hx.symm
 have HR:=jH hr;have HK:=jH hk;clear hr hk hb hx H;simp only[Nat.add_zero] at hc;go_wp2_with fail;refine (cut_noZ g x _ _ _ HR.out (by rfl) (by simpa using hn) (by omega)).mono ?_;rintro e w2 ⟨rfl,hr2,hk2⟩;have HR2:=jH hr2;have HK2:=jH hk2;clear hr2 hk2 hc;go_wp2;go_ret2;exact⟨rfl,HR2.out,HK.out.trans HK2.out fun _ _ h=>h⟩
end
end Go.Proofs.YtbiihjdjbknibaaGreat
