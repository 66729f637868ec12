/-
  Layer 7: contracts (Ed Ee Ef Eh).
-/
import Derived.Test.YtbiihjdjbknibaaGreatC03
import Derived.Lib.SlBytesConst
namespace Go.Proofs.YtbiihjdjbknibaaGreat
set_option maxRecDepth 100000
set_option maxHeartbeats 8000000
set_option linter.unusedSimpArgs false
set_option linter.unusedVariables false
section
set_option maxRecDepth 100000
open Go.RowKit
variable {Q:Nat→Prop}
def Ref (Q:Nat→Prop) (w:World) (g:Nat) (l:List Nat) (rf:Bool):Prop:=
 ∃A c,Blk w g 145 [.slice A l.length c,.bool rf]∧Bts w A l.length l∧(∀a,A=some a→Q a.block∧At w a.block 5)∧l.length≤c∧c≤maxLen
theorem Ref.kept {S:Nat→Prop} {w w':World} {g:Nat} {l:List Nat} {rf:Bool} (h:Ref Q w g l rf) (hk:Kept S w w') (hg:¬S g) (hs:∀k,S k→Q k→¬At w k 5):Ref Q w' g l rf:=by
 obtain⟨A,c,h1,h2,h3,h4⟩:=h
 have hn:∀a,A=some a→¬S a.block:=fun a ha hS=>hs _ hS (h3 a ha).1 (h3 a ha).2
 exact⟨A,c,h1.kept hk hg,h2.kept hk hn,fun a ha=>⟨(h3 a ha).1,(h3 a ha).2.kept hk (hn a ha)⟩,h4⟩
theorem Ref.new {w w':World} {g:Nat} {l:List Nat} {rf:Bool} (h:Ref Q w g l rf) (hk:New w w'):Ref Q w' g l rf:=h.kept hk (fun f=>f) (fun _ f _=>f.elim)
theorem Ref.at_ {w:World} {g:Nat} {l:List Nat} {rf:Bool} (h:Ref Q w g l rf):At w g 145:=by
 obtain⟨A,c,h1,_⟩:=h;exact h1.at_
theorem Ref.mono {Q':Nat→Prop} {w:World} {g:Nat} {l:List Nat} {rf:Bool} (h:Ref Q w g l rf) (hq:∀b,Q b→b < w.heap.size→Q' b):Ref Q' w g l rf:=by
 obtain⟨A,c,h1,h2,h3,h4⟩:=h;exact⟨A,c,h1,h2,fun a ha=>⟨hq _ (h3 a ha).1 (h3 a ha).2.lt,(h3 a ha).2⟩,h4⟩
def lft (l:List Nat) (rf:Bool):List Nat:=if rf then [] else l
theorem rleft_any (g:Nat) (l:List Nat) (rf:Bool) (w:World) (h:Ref Q w g l rf):
  Calls Tryz.prog 76 #[.pointer (some ⟨g,0,none⟩)] w fun e w'=>e=.returned (.int .i64 ((lft l rf).length:Int))∧w=w':=by
 obtain⟨A,c,h1,_⟩:=h;have hc:=h1.cell 0;have hc1:=h1.cell 1;simp only[List.getElem?_cons_succ,List.getElem?_cons_zero] at hc hc1;clear h1;cases rf
 all_goals
  go_enter Tryz.func76,Tryz.ntmps76;go_wp2;go_ret;exact⟨rfl,rfl⟩
theorem Ref.refuse {w:World} {g:Nat} {l:List Nat} {rf:Bool} (h:Ref Q w g l rf):
  Ref Q (w.setCell ⟨g,1,none⟩ (.bool true)) g l true∧Kept (·=g) w (w.setCell ⟨g,1,none⟩ (.bool true)):=by
 obtain⟨A,c,h1,h2,h3,h4,h5⟩:=h;have hk:Kept (·=g) w (w.setCell ⟨g,1,none⟩ (.bool true)):=Kept.set1 _ _ _ _
 have hne:∀a,A=some a→¬a.block=g:=fun a ha=>(h3 a ha).2.ne_of h1.at_ (by decide)
 refine⟨⟨A,c,?_,h2.kept hk hne,fun a ha=>⟨(h3 a ha).1,(h3 a ha).2.kept hk (hne a ha)⟩,h4,h5⟩,hk⟩
 have:=h1.put 1 (.bool true)
 simpa using this
theorem Ref.cut {w:World} {g n:Nat} {l:List Nat} {A A':Option Addr} {c c' L m:Nat} (h1:Blk w g 145 [.slice A l.length c,.bool false]) (h2:Bts w A l.length l)
  (h3:∀a,A=some a→Q a.block∧At w a.block 5) (h4:L≤c) (h5:c≤2 ^ 63 - 1) (hL:l.length=L) (hn:n≤L) (hm:m=L - n) (hA:A'=if c=n then A else A.map (·.add n)) (hc:c'=c - n):
  Ref Q (w.setCell ⟨g,0,none⟩ (.slice A' m c')) g (l.drop n) false∧Kept (·=g) w (w.setCell ⟨g,0,none⟩ (.slice A' m c')):=by
 subst hL hm;have hk:Kept (·=g) w (w.setCell ⟨g,0,none⟩ (.slice A' (l.length - n) c')):=Kept.set1 _ _ _ _
 have hne:∀a,A=some a→¬a.block=g:=fun a ha=>(h3 a ha).2.ne_of h1.at_ (by decide)
 have hb:∀a,A'=some a→∃b,A=some b∧b.block=a.block:=by
  rintro a rfl
  split at hA
  ·exact⟨a,hA.symm,rfl⟩
  ·obtain⟨b,hb,rfl⟩:=Option.map_eq_some_iff.1 hA.symm;refine⟨b,hb,?_⟩;unfold Addr.add
   split<;>rfl
 refine⟨⟨A',c',?_,?_,?_,by simp;omega,by unfold maxLen;omega⟩,hk⟩
 ·have:=h1.put 0 (.slice A' (l.length - n) c')
  simpa using this
 ·have:=h2.cut hn h4
  rw[←hA] at this;rw[List.length_drop]
  refine this.kept hk fun a ha=>?_
  obtain⟨b,hb,e⟩:=hb a ha;rw[←e];exact hne b hb
 ·intro a ha;obtain⟨b,hb,e⟩:=hb a ha;rw[←e];exact⟨(h3 b hb).1,(h3 b hb).2.kept hk (hne b hb)⟩
def RTakeP (Q:Nat→Prop) (w:World) (g:Nat) (l:List Nat) (rf:Bool) (s:Int) (e:Ending) (w':World):Prop:=
 ∃l' rf',e=.returned (.tuple #[.int .u64 (takeV (lft l rf) s:Nat),.int .i64 (takeE (lft l rf) s)])∧Ref Q w' g l' rf'∧lft l' rf'=takeL (lft l rf) s∧Kept (·=g) w w'
theorem leV_drop (l:List Nat) (k x:Nat) (hx:l[k]?=some x):leV (l.drop k)=x+256*leV (l.drop (k+1)):=by
 have hk:k < l.length:=(List.getElem?_eq_some_iff.1 hx).1;have e:l[k]=x:=(List.getElem?_eq_some_iff.1 hx).2;rw[List.drop_eq_getElem_cons hk,e,leV]
theorem rtake_ok (g:Nat) (l:List Nat) (s:Nat) (w:World) (h:Ref Q w g l false) (hs:isSz s) (hl:s≤l.length):
  Calls Tryz.prog 73 #[.pointer (some ⟨g,0,none⟩),.int .i64 s] w
   fun e w'=>e=.returned (.tuple #[.int .u64 (leV (l.take s):Nat),.int .i64 0])∧Ref Q w' g (l.drop s) false∧Kept (·=g) w w':=by
 have h8:s≤8:=by unfold isSz at hs;omega
 have hs1:1≤s:=by unfold isSz at hs;omega
 have hs0:=jH hs;clear hs;obtain⟨A,c,h1,h2,h3,h4,h5⟩:=h;have hc0:=h1.cell 0;have hc1:=h1.cell 1;have hf:=h1.free 0;simp only[List.getElem?_cons_succ,List.getElem?_cons_zero] at hc0 hc1;unfold maxLen at h5;generalize hL:l.length=L at hc0 h4 hl;have HL:=jH hL;clear hL;have H1:=jH h1;have H2:=jH h2;clear h1
 have h2':Bts w A L l:=by rw[←HL.out];exact h2
 clear h2;go_enter Tryz.func73,Tryz.ntmps73
 go_wp2_with (go_at_call 80;refine (size_yes _ _ hs0.out).mono ?_;rintro e w' ⟨rfl,rfl⟩)
 go_loop [6,7] (fun n i=>∃k m:Nat,k≤s∧i=.int .i64 ((k:Int) - 1)∧n=.int .u64 m∧Hid (m=leV ((l.take s).drop k))∧m < 256 ^ (s - k)) (fun _ i=>(intOf i+1).toNat)
 case atStart=>
  refine⟨s,0,Nat.le_refl _,rfl,rfl,?_,by simp⟩;rw[Hid,List.drop_eq_nil_of_le (by simp;omega)]
  rfl
 case round=>
  obtain⟨k,m,hk,rfl,rfl,HM,hm⟩:=hrel
  rcases k with _|j
  ·clear h2';go_wp2
   all_goals go_ret2
   ·have:=Ref.cut (A':=A) (c':=0) H1.out H2.out h3 h4 h5 HL.out hl rfl (by rw[if_pos (by assumption)]) (by omega)
    refine⟨?_,this⟩;have e:=HM.out;simp only[List.drop_zero] at e;rw[←e]
    rfl
   ·have:=Ref.cut (A':=A.map (·.add s)) (c':=c - s) H1.out H2.out h3 h4 h5 HL.out hl rfl (by rw[if_neg (by assumption)]) (by omega)
    refine⟨?_,this⟩;have e:=HM.out;simp only[List.drop_zero] at e;rw[←e]
    rfl
  ·obtain⟨ga,o,x,rfl,hx,hxb,hc⟩:=h2'.at_ (k:=j) (by omega)
   have HX:Hid ((l.take s)[j]?=some x):=by rw[Hid,List.getElem?_take,if_pos (by omega)];exact hx
   clear h2' hx
   have e:(((j+1:Nat)):Int) - 1=(j:Int):=by omega
   rw[e];clear e;have hp:256 ^ (s - (j+1))≤256 ^ 7:=Nat.pow_le_pow_right (by omega) (by omega)
   have hm7:m < 72057594037927936:=by
    have:(256:Nat) ^ 7=72057594037927936:=by decide
    omega
   have HMM:=jH hm;clear hp hm;go_wp2
   have h3':256*m+x < 256 ^ (s - j):=by
    have e2:s - j=(s - (j+1))+1:=by omega
    rw[e2,Nat.pow_succ]
    have:=HMM.out
    omega
   go_round
   case rel=>exact⟨j,256*m+x,by omega,by go_num,by go_num,by rw[Hid,leV_drop _ _ _ HX.out,←HM.out];omega,h3'⟩
   case measure=>simp[intOf]
theorem rtake_short (g:Nat) (l:List Nat) (rf:Bool) (s:Nat) (w:World) (h:Ref Q w g l rf) (hs:isSz s) (hl:(lft l rf).length < s):
  Calls Tryz.prog 73 #[.pointer (some ⟨g,0,none⟩),.int .i64 s] w
   fun e w'=>e=.returned (.tuple #[.int .u64 0,.int .i64 4])∧Ref Q w' g l true∧Kept (·=g) w w':=by
 have h8:s≤8:=by unfold isSz at hs;omega
 have hs0:=jH hs;clear hs;have HR:=jH h.refuse;obtain⟨A,c,h1,h2,h3,h4,h5⟩:=h;have hc0:=h1.cell 0;have hc1:=h1.cell 1;have hf:=h1.free 1;simp only[List.getElem?_cons_succ,List.getElem?_cons_zero] at hc0 hc1;clear h1 h2 h3;cases rf
 ·have hl':l.length < s:=hl;clear hl;go_enter Tryz.func73,Tryz.ntmps73
  go_wp2_with (go_at_call 80;refine (size_yes _ _ hs0.out).mono ?_;rintro e w' ⟨rfl,rfl⟩)
  go_ret2;exact⟨rfl,HR.out⟩
 ·clear hl;go_enter Tryz.func73,Tryz.ntmps73
  go_wp2_with (go_at_call 80;refine (size_yes _ _ hs0.out).mono ?_;rintro e w' ⟨rfl,rfl⟩)
  go_ret2;exact⟨rfl,HR.out⟩
theorem rtake_none (g:Nat) (l:List Nat) (rf:Bool) (s:Int) (w:World) (h:Ref Q w g l rf) (hs:¬isSz s):
  Calls Tryz.prog 73 #[.pointer (some ⟨g,0,none⟩),.int .i64 s] w
   fun e w'=>e=.returned (.tuple #[.int .u64 0,.int .i64 2])∧Ref Q w' g l rf∧Kept (·=g) w w':=by
 have hs0:=jH hs;clear hs;have H:=jH h;clear h;go_enter Tryz.func73,Tryz.ntmps73
 go_wp2_with (go_at_call 80;refine (size_no _ _ hs0.out).mono ?_;rintro e w' ⟨rfl,rfl⟩)
 go_ret2;exact⟨rfl,H.out,kR⟩
theorem rtake_any (g:Nat) (l:List Nat) (rf:Bool) (s:Int) (w:World) (h:Ref Q w g l rf):
  Calls Tryz.prog 73 #[.pointer (some ⟨g,0,none⟩),.int .i64 s] w (RTakeP Q w g l rf s):=by
 by_cases hs:isSz s
 ·obtain⟨m,rfl⟩:∃m:Nat,s=m:=⟨s.toNat,by unfold isSz at hs;omega⟩
  by_cases hl:m≤(lft l rf).length
  ·have hm1:1≤m:=by unfold isSz at hs;omega
   cases rf
   ·refine (rtake_ok g l m w h hs hl).mono fun e w' x=>?_
    have hl':m≤l.length:=hl;refine⟨l.drop m,false,?_,x.2.1,?_,x.2.2⟩
    ·unfold takeV takeE lft;rw[Int.toNat_natCast];simp only[hs,hl',if_true,Bool.false_eq_true,if_false];exact x.1
    ·unfold takeL lft;rw[Int.toNat_natCast];simp only[hs,hl',if_true,Bool.false_eq_true,if_false]
   ·simp[lft] at hl;omega
  ·refine (rtake_short g l rf m w h hs (by omega)).mono fun e w' x=>?_
   refine⟨l,true,?_,x.2.1,?_,x.2.2⟩
   ·unfold takeV takeE;rw[Int.toNat_natCast];simp only[hs,hl,if_true,if_false];exact x.1
   ·unfold takeL;rw[Int.toNat_natCast];simp only[hs,hl,if_true,if_false]
    rfl
 ·refine (rtake_none g l rf s w h hs).mono fun e w' x=>?_
  refine⟨l,rf,?_,x.2.1,?_,x.2.2⟩
  ·unfold takeV takeE;simp only[hs,if_false];exact x.1
  ·unfold takeL;simp only[hs,if_false]
def RRowP (Q:Nat→Prop) (w:World) (g:Nat) (l k:List Nat) (e:Ending) (w':World):Prop:=
 ∃A c,e=.returned (.tuple #[.slice A l.length c,.int .i64 0])∧OwnB w' 5 w.heap.size A c l∧Ref Q w' g k false∧Kept (·=g) w w'
def RShortP (Q:Nat→Prop) (w:World) (g:Nat) (l:List Nat) (e:Ending) (w':World):Prop:=
 e=.returned (.tuple #[.slice none 0 0,.int .i64 4])∧Ref Q w' g l true∧Kept (·=g) w w'
theorem Ref.drewN {w:World} {g:Nat} {l:List Nat} {rf:Bool} (h:Ref Q w g l rf) (k:Nat):Ref Q (w.drewN k) g l rf:=h
theorem rrow_refused (g:Nat) (l:List Nat) (w:World) (h:Ref Q w g l true):
  Calls Tryz.prog 75 #[.pointer (some ⟨g,0,none⟩)] w (RShortP Q w g l):=by
 have HR:=jH h;obtain⟨A,c,h1,h2,h3,h4,h5⟩:=h;have hc0:=h1.cell 0;have hc1:=h1.cell 1;have hf:=h1.free 1;simp only[List.getElem?_cons_succ,List.getElem?_cons_zero] at hc0 hc1;clear h1 h2 h3;go_enter Tryz.func75,Tryz.ntmps75;go_wp2;go_quiet (fail);go_wp2;go_ret2
 have:=(HR.out.drewN nq).refuse
 exact⟨rfl,this.1,this.2.of_drewN⟩
theorem rrow_nil (g:Nat) (w:World) (h:Ref Q w g [] false):
  Calls Tryz.prog 75 #[.pointer (some ⟨g,0,none⟩)] w (RShortP Q w g []):=by
 have HR:=jH h;obtain⟨A,c,h1,h2,h3,h4,h5⟩:=h;have hc0:=h1.cell 0;have hc1:=h1.cell 1;have hf:=h1.free 1;simp only[List.getElem?_cons_succ,List.getElem?_cons_zero,List.length_nil] at hc0 hc1;clear h1 h2 h3;go_enter Tryz.func75,Tryz.ntmps75;go_wp2;go_quiet (fail);go_wp2;go_ret2
 have:=(HR.out.drewN nq).refuse
 exact⟨rfl,this.1,this.2.of_drewN⟩
theorem rrow_short (g n:Nat) (r:List Nat) (w:World) (h:Ref Q w g (n::r) false) (hn:r.length < n):
  Calls Tryz.prog 75 #[.pointer (some ⟨g,0,none⟩)] w (RShortP Q w g (n::r)):=by
 have HR:=jH h;obtain⟨A,c,h1,h2,h3,h4,h5⟩:=h;obtain⟨ga,o,x,rfl,hx,hxb,hc⟩:=h2.at_ (k:=0) (by simp)
 obtain rfl:x=n:=by simpa using hx.symm
 have hc0:=h1.cell 0;have hc1:=h1.cell 1;have hf:=h1.free 1;simp only[List.getElem?_cons_succ,List.getElem?_cons_zero,List.length_cons,Nat.add_zero] at hc0 hc1 hc;clear h1 h2 h3 hx;unfold maxLen at h5;simp only[List.length_cons] at h4;generalize r.length=L at *
 have g1:decide ((L:Int)+1 < 1)=false:=by simp;omega
 have g2:decide ((L:Int) < (x:Int))=true:=by simp;omega
 go_enter Tryz.func75,Tryz.ntmps75;go_wp2;go_quiet (fail);go_wp2;go_ret2
 have:=(HR.out.drewN nq).refuse
 exact⟨rfl,this.1,this.2.of_drewN⟩
theorem rrow_close {w w2:World} {g x L c c' c2 ga o:Nat} {r:List Nat} {A2 A':Option Addr} {e:Ending} (k2:New w w2) (hown2:OwnB w2 5 w.heap.size A2 c2 (r.take x))
  (B2:Blk w2 g 145 [.slice (some ⟨ga,o,none⟩) (x::r).length c,.bool false]) (T2:Bts w2 (some ⟨ga,o,none⟩) (x::r).length (x::r))
  (H3:∀a,some (⟨ga,o,none⟩:Addr)=some a→Q a.block∧At w2 a.block 5) (hL:r.length=L) (h4:L+1≤c) (h5:c≤2 ^ 63 - 1) (hn:x≤L)
  (hA:A'=if c=1+x then some ⟨ga,o,none⟩ else (some (⟨ga,o,none⟩:Addr)).map (·.add (1+x))) (hc:c'=c - (1+x)) (he:e=.returned (.tuple #[.slice A2 x c2,.int .i64 0])):
  RRowP Q w g (r.take x) (r.drop x) e (w2.setCell ⟨g,0,none⟩ (.slice A' (L+1 - (1+x)) c')):=by
 have hc2:=Ref.cut (n:=1+x) (L:=L+1) (A':=A') (c':=c') B2 T2 H3 h4 h5 (by simp[hL]) (by omega) rfl hA hc
 have e2:(x::r).drop (1+x)=r.drop x:=by rw[Nat.add_comm,List.drop_succ_cons]
 rw[e2] at hc2
 have hne:∀a,A2=some a→¬a.block=g:=fun a ha=>(hown2.at_ a ha).1.ne_of B2.at_ (by decide)
 refine⟨A2,c2,by rw[he,List.length_take,Nat.min_eq_left (by omega)],hown2.kept hc2.2 hne,hc2.1,?_⟩
 exact (k2.mono (S':=(·=g)) (fun _ _ f=>f.elim)).trans hc2.2 fun _ _ h=>h
theorem rrow_ok (g n:Nat) (r:List Nat) (w:World) (h:Ref Q w g (n::r) false) (hn:n≤r.length):
  Calls Tryz.prog 75 #[.pointer (some ⟨g,0,none⟩)] w (RRowP Q w g (r.take n) (r.drop n)):=by
 obtain⟨i0,hi,hz0,hz1,hz2⟩:=info_parts info_u8;obtain⟨A,c,h1,h2,h3,h4,h5⟩:=h;have hB:=((h2.cut (k:=1) (by simp) h4).take (k:=n) (by simp;omega));simp only[List.drop_succ_cons,List.drop_zero] at hB;have HB:=jH hB;clear hB;have H1:=jH h1;have H2:=jH h2;obtain⟨ga,o,x,rfl,hx,hxb,hc⟩:=h2.at_ (k:=0) (by simp)
 obtain rfl:x=n:=by simpa using hx.symm
 have hc0:=h1.cell 0;have hc1:=h1.cell 1;have hf:=h1.free 0;simp only[List.getElem?_cons_succ,List.getElem?_cons_zero,List.length_cons,Nat.add_zero] at hc0 hc1 hc;clear h1 h2 hx;unfold maxLen at h5;simp only[List.length_cons] at h4;generalize hL:r.length=L at *;have HL:=jH hL;clear hL;have H3:=jH h3;clear h3
 have g1:decide ((L:Int)+1 < 1)=false:=by simp;omega
 have g2:decide ((L:Int) < (x:Int))=false:=by simp;omega
 by_cases hcc:c=1
 all_goals
  go_enter Tryz.func75,Tryz.ntmps75;go_wp2;go_quiet (fail)
  go_wp2_with (at_builtin;refine wpList_append_bytes _ rfl _ _ _ rfl 5 i0 Tryz.underlying52 hi hz0 hz1 hz2 w.heap.size none 0 0 [] rfl (OwnB.nil _ _ _) rfl _ _ _ (r.take x) rfl ?_ ?_ ?_ ?_)
  ·have:=HB.out
   have e:1+x - 1=x:=by omega
   rw[e];refine Bts.drewN ?_ nq;simpa [hcc,Addr.add_lit] using this
  ·simp;omega
  ·exact Nat.le_refl _
  intro A2 c2 w2 hown2 hg2 _;have k2:New w w2:=(Kept.grown (S:=fun _=>False) kR hg2 (by simp)).of_drewN;clear hc0 hc1 hf hc;have b2:=H1.out.kept k2 (fun f=>f);have t2:=H2.out.new k2
  have a2:∀a,some (⟨ga,o,none⟩:Addr)=some a→Q a.block∧At w2 a.block 5:=fun a ha=>⟨(H3.out a ha).1,(H3.out a ha).2.kept k2 (fun f=>f)⟩
  have hc0:=b2.cell 0;have hf:=b2.free 0;simp only[List.getElem?_cons_zero,List.length_cons] at hc0;rw[HL.out] at hc0;have B2:=jH b2;have T2:=jH t2;have A2':=jH a2;clear b2 t2 a2;go_wp2
 all_goals go_ret2
 ·exact rrow_close k2 hown2 B2.out T2.out A2'.out HL.out h4 h5 hn (by rw[if_pos (by omega)]) (by omega) rfl
 ·exact rrow_close k2 hown2 B2.out T2.out A2'.out HL.out h4 h5 hn (by rw[if_pos (by omega)]) (by omega) rfl
 ·exact rrow_close k2 hown2 B2.out T2.out A2'.out HL.out h4 h5 hn (by rw[if_neg (by assumption)];simp[Addr.add_lit]) (by omega) rfl
end
section
set_option maxRecDepth 100000
open Go.RowKit
def NewP (w:World) (l:List Nat) (e:Ending) (w':World):Prop:=
 ∃g,e=.returned (.pointer (some ⟨g,0,none⟩))∧Rdr (fun b=>w.heap.size≤b) w' g l∧w.heap.size≤g∧New w w'
theorem new_any (A:Option Addr) (n c:Nat) (l:List Nat) (w:World) (ha:Bts w A n l) (hn:n≤140737488351232) (hA:A=none→c=0∧n=0):
  Calls Tryz.prog 125 #[.slice A n c] w (NewP w l):=by
 have HA:=jH hA;clear hA;go_enter Tryz.func125,Tryz.ntmps125
 go_wp2_with (go_at_call 40;refine (clone_any A n c l _ ha hn HA.out).mono ?_;rintro e w1 ⟨A1,c1,rfl,hown,hk⟩;have HO:=jH hown;have HK:=jH hk;clear hown hk)
 go_ret;have hal:New w1 (w1.alloc (.cells #[.bool true,.slice A1 l.length c1] 211)):=kR.alloc _;exact⟨w1.heap.size,rfl,⟨A1,c1,Blk.made w1 _ _,HO.out.bts.new hal,fun a h=>⟨(HO.out.at_ a h).2,(HO.out.at_ a h).1.kept hal (fun f=>f)⟩,HO.out.le.1,HO.out.le.2⟩,HK.out.size,HK.out.new hal⟩
end
section
set_option maxRecDepth 100000
open Go.ChangeShapes Go.WideShapes Go.ChangeAt Go.RowKit
variable {Q:Nat→Prop}
def rwL:List Nat→List Nat
 | []=>[]
 | n::r=>if n≤r.length then r.take n else []
def rwE:List Nat→Int
 | []=>4
 | n::r=>if n≤r.length then 0 else 4
def rwR:List Nat→List Nat
 | []=>[]
 | n::r=>if n≤r.length then r.drop n else []
def ERowP (Q:Nat→Prop) (w:World) (g:Nat) (q:List Nat) (e:Ending) (w':World):Prop:=
 ∃A c,e=.returned (.tuple #[.slice A (rwL q).length c,.int .i64 (rwE q)])∧OwnB w' 5 w.heap.size A c (rwL q)∧Rdr Q w' g (rwR q)∧Kept (·=g) w w'
theorem erow2_any (g:Nat) (q:List Nat) (w:World) (h:Rdr Q w g q):Calls Tryz.prog 156 #[.pointer (some ⟨g,0,none⟩)] w (ERowP Q w g q):=by
 rcases q with _|⟨n,r⟩
 ·exact (erow_nil g w h).mono fun e w' ⟨h1,h2,h3⟩=>⟨none,0,h1,OwnB.nil _ _ _,h2,h3⟩
 ·by_cases hn:n≤r.length
  ·refine (erow_ok g n r w h hn).mono fun e w' ⟨A,c,h1,h2,h3,h4⟩=>⟨A,c,?_⟩
   simp only[rwL,rwE,rwR,hn,if_true];exact⟨h1,h2,h3,h4⟩
  ·refine (erow_short g n r w h (by omega)).mono fun e w' ⟨h1,h2,h3⟩=>⟨none,0,?_⟩
   simp only[rwL,rwE,rwR,hn,if_false];exact⟨h1,OwnB.nil _ _ _,h2,h3⟩
def RRowP2 (Q:Nat→Prop) (w:World) (g:Nat) (q:List Nat) (rf:Bool) (e:Ending) (w':World):Prop:=
 ∃A c q' rf',e=.returned (.tuple #[.slice A (rwL (lft q rf)).length c,.int .i64 (rwE (lft q rf))])∧OwnB w' 5 w.heap.size A c (rwL (lft q rf))∧Ref Q w' g q' rf'∧lft q' rf'=rwR (lft q rf)∧Kept (·=g) w w'
theorem rrow2_any (g:Nat) (q:List Nat) (rf:Bool) (w:World) (h:Ref Q w g q rf):Calls Tryz.prog 75 #[.pointer (some ⟨g,0,none⟩)] w (RRowP2 Q w g q rf):=by
 cases rf
 ·rcases q with _|⟨n,r⟩
  ·exact (rrow_nil g w h).mono fun e w' ⟨h1,h2,h3⟩=>⟨none,0,[],true,h1,OwnB.nil _ _ _,h2,rfl,h3⟩
  ·by_cases hn:n≤r.length
   ·refine (rrow_ok g n r w h hn).mono fun e w' ⟨A,c,h1,h2,h3,h4⟩=>⟨A,c,r.drop n,false,?_⟩
    simp only[lft,rwL,rwE,rwR,hn,if_true,Bool.false_eq_true,if_false];exact⟨h1,h2,h3,trivial,h4⟩
   ·refine (rrow_short g n r w h (by omega)).mono fun e w' ⟨h1,h2,h3⟩=>⟨none,0,n::r,true,?_⟩
    simp only[lft,rwL,rwE,rwR,hn,if_true,Bool.false_eq_true,if_false];exact⟨h1,OwnB.nil _ _ _,h2,trivial,h3⟩
 ·exact (rrow_refused g q w h).mono fun e w' ⟨h1,h2,h3⟩=>⟨none,0,q,true,h1,OwnB.nil _ _ _,h2,rfl,h3⟩
def Ins (w:World) (k:IntKind) (A:Option Addr) (n:Nat) (l:List Int):Prop:=
 l.length=n∧(∀x∈l,(Lit.int k x).wf=true)∧(0 < n→∃g o:Nat,A=some ⟨g,o,none⟩∧∀(j:Nat) (x:Int),l[j]?=some x→w.cell? ⟨g,o+j,none⟩=some (.int k x))
theorem Ins.at_ {w:World} {k:IntKind} {A:Option Addr} {n:Nat} {l:List Int} {j:Nat} (h:Ins w k A n l) (hj:j < n):
  ∃g o x,A=some ⟨g,o,none⟩∧l[j]?=some x∧(Lit.int k x).wf=true∧w.cell? ⟨g,o+j,none⟩=some (.int k x):=by
 obtain⟨hl,hb,hc⟩:=h;obtain⟨g,o,e,hc⟩:=hc (by omega)
 have hk':j < l.length:=by omega
 exact⟨g,o,l[j],e,List.getElem?_eq_getElem hk',hb _ (List.getElem_mem hk'),hc _ _ (List.getElem?_eq_getElem hk')⟩
theorem Ins.new {w w':World} {k:IntKind} {A:Option Addr} {n:Nat} {l:List Int} (h:Ins w k A n l) (hk:New w w'):Ins w' k A n l:=by
 obtain⟨hl,hb,hc⟩:=h;refine⟨hl,hb,fun h0=>?_⟩;obtain⟨g,o,e,hc⟩:=hc h0;exact⟨g,o,e,fun j x hx=>hk.cell (hc j x hx) (fun f=>f)⟩
end
section
set_option maxRecDepth 100000
open Go.ChangeShapes Go.WideShapes Go.ChangeAt Go.RowKit
theorem set_any (xs:List Nat) (k y:Nat) (v:Value) (hv:v=byt y):(xs.map byt).set k v=(xs.set k y).map byt:=by
 subst hv;rw[List.map_set]
end
end Go.Proofs.YtbiihjdjbknibaaGreat
