/-
  Layer 7: contracts (Ed Ee Ef Eh).
-/
import Derived.Test.YtbiihjdjbknibaaGreatC03
import Derived.Lib.SlBytesConst
namespace Go.Proofs.YtbiihjdjbknibaaGreat
set_option maxRecDepth 100000
set_option maxHeartbeats 8000000
set_option linter.unusedSimpArgs false
set_option linter.unusedVariables false
section
set_option maxRecDepth 100000
open Go.RowKit
variable {Q:Nat→Prop}
def Ref (Q:Nat→Prop) (w:World) (g:Nat) (l:List Nat) (rf:Bool):Prop:=
 ∃A c,Blk w g 145 [.slice A l.length c,.bool rf]∧Bts w A l.length l∧(∀a,A=some a→Q a.block∧At w a.block 5)∧l.length≤c∧c≤maxLen
theorem Ref.kept {S:Nat→Prop} {w w':World} {g:Nat} {l:List Nat} {rf:Bool} (h:Ref Q w g l rf) (hk:Kept S w w') (hg:¬S g) (hs:∀k,S k→Q k→¬At w k 5):Ref Q w' g l rf:=by
 obtain⟨A,c,h1,h2,h3,h4⟩:=h
 have hn:∀a,A=some a→¬S a.block:=fun a ha hS=>hs _ hS (h3 a ha).1 (h3 a ha).2
 exact⟨A,c,h1.kept hk hg,h2.kept hk hn,fun a ha=>⟨(h3 a ha).1,(h3 a ha).2.kept hk (hn a ha)⟩,h4⟩
theorem Ref.new {w w':World} {g:Nat} {l:List Nat} {rf:Bool} (h:Ref Q w g l rf) (hk:New w w'):Ref Q w' g l rf:=h.kept hk (fun f=>f) (fun _ f _=>f.elim)
theorem Ref.at_ {w:World} {g:Nat} {l:List Nat} {rf:Bool} (h:Ref Q w g l rf):At w g 145:=by
 obtain⟨A,c,h1,_⟩:=h;exact h1.at_
theorem Ref.mono {Q':Nat→Prop} {w:World} {g:Nat} {l:List Nat} {rf:Bool} (h:Ref Q w g l rf) (hq:∀b,Q b→b < w.heap.size→Q' b):Ref Q' w g l rf:=by
 obtain⟨A,c,h1,h2,h3,h4⟩:=h;exact⟨A,c,h1,h2,fun a ha=>⟨hq _ (h3 a ha).1 (h3 a ha).2.lt,(h3 a ha).2⟩,h4⟩
def lft (l:List Nat) (rf:Bool):List Nat:=if rf then [] else l
theorem Ref.refuse {w:World} {g:Nat} {l:List Nat} {rf:Bool} (h:Ref Q w g l rf):
  Ref Q (w.setCell ⟨g,1,none⟩ (.bool true)) g l true∧Kept (·=g) w (w.setCell ⟨g,1,none⟩ (.bool true)):=by
 obtain⟨A,c,h1,h2,h3,h4,h5⟩:=h;have hk:Kept (·=g) w (w.setCell ⟨g,1,none⟩ (.bool true)):=Kept.set1 _ _ _ _
 have hne:∀a,A=some a→¬a.block=g:=fun a ha=>(h3 a ha).2.ne_of h1.at_ (by decide)
 refine⟨⟨A,c,?_,h2.kept hk hne,fun a ha=>⟨(h3 a ha).1,(h3 a ha).2.kept hk (hne a ha)⟩,h4,h5⟩,hk⟩
 have:=h1.put 1 (.bool true)
 simpa using this
theorem Ref.cut {w:World} {g n:Nat} {l:List Nat} {A A':Option Addr} {c c' L m:Nat} (h1:Blk w g 145 [.slice A l.length c,.bool false]) (h2:Bts w A l.length l)
  (h3:∀a,A=some a→Q a.block∧At w a.block 5) (h4:L≤c) (h5:c≤2 ^ 63 - 1) (hL:l.length=L) (hn:n≤L) (hm:m=L - n) (hA:A'=if c=n then A else A.map (·.add n)) (hc:c'=c - n):
  Ref Q (w.setCell ⟨g,0,none⟩ (.slice A' m c')) g (l.drop n) false∧Kept (·=g) w (w.setCell ⟨g,0,none⟩ (.slice A' m c')):=by
 subst hL hm;have hk:Kept (·=g) w (w.setCell ⟨g,0,none⟩ (.slice A' (l.length - n) c')):=Kept.set1 _ _ _ _
 have hne:∀a,A=some a→¬a.block=g:=fun a ha=>(h3 a ha).2.ne_of h1.at_ (by decide)
 have hb:∀a,A'=some a→∃b,A=some b∧b.block=a.block:=by
  rintro a rfl
  split at hA
  ·exact⟨a,hA.symm,rfl⟩
  ·obtain⟨b,hb,rfl⟩:=Option.map_eq_some_iff.1 hA.symm;refine⟨b,hb,?_⟩;unfold Addr.add
   split<;>rfl
 refine⟨⟨A',c',?_,?_,?_,by simp;omega,by unfold maxLen;omega⟩,hk⟩
 ·have:=h1.put 0 (.slice A' (l.length - n) c')
  simpa using this
 ·have:=h2.cut hn h4
  rw[←hA] at this;rw[List.length_drop]
  refine this.kept hk fun a ha=>?_
  obtain⟨b,hb,e⟩:=hb a ha;rw[←e];exact hne b hb
 ·intro a ha;obtain⟨b,hb,e⟩:=hb a ha;rw[←e];exact⟨(h3 b hb).1,(h3 b hb).2.kept hk (hne b hb)⟩
theorem Ref.drewN {w:World} {g:Nat} {l:List Nat} {rf:Bool} (h:Ref Q w g l rf) (k:Nat):Ref Q (w.drewN k) g l rf:=h
end
section
set_option maxRecDepth 100000
open Go.RowKit
def NewP (w:World) (l:List Nat) (e:Ending) (w':World):Prop:=
 ∃g,e=.returned (.pointer (some ⟨g,0,none⟩))∧Rdr (fun b=>w.heap.size≤b) w' g l∧w.heap.size≤g∧New w w'
theorem new_any (A:Option Addr) (n c:Nat) (l:List Nat) (w:World) (ha:Bts w A n l) (hn:n≤140737488351232) (hA:A=none→c=0∧n=0):
  Calls Tryz.prog 125 #[.slice A n c] w (NewP w l):=by
 have HA:=jH hA;clear hA;go_enter Tryz.func125,Tryz.ntmps125
 go_wp2_with (go_at_call 40;refine (clone_any A n c l _ ha hn HA.out).mono ?_;rintro e w1 ⟨A1,c1,rfl,hown,hk⟩;have HO:=jH hown;have HK:=jH hk;clear hown hk)
 go_ret;have hal:New w1 (w1.alloc (.cells #[.bool true,.slice A1 l.length c1] 211)):=kR.alloc _;exact⟨w1.heap.size,rfl,⟨A1,c1,Blk.made w1 _ _,HO.out.bts.new hal,fun a h=>⟨(HO.out.at_ a h).2,(HO.out.at_ a h).1.kept hal (fun f=>f)⟩,HO.out.le.1,HO.out.le.2⟩,HK.out.size,HK.out.new hal⟩
end
section
set_option maxRecDepth 100000
open Go.ChangeShapes Go.WideShapes Go.ChangeAt Go.RowKit
variable {Q:Nat→Prop}
def rwL:List Nat→List Nat
 | []=>[]
 | n::r=>if n≤r.length then r.take n else []
def rwE:List Nat→Int
 | []=>4
 | n::r=>if n≤r.length then 0 else 4
def rwR:List Nat→List Nat
 | []=>[]
 | n::r=>if n≤r.length then r.drop n else []
def ERowP (Q:Nat→Prop) (w:World) (g:Nat) (q:List Nat) (e:Ending) (w':World):Prop:=
 ∃A c,e=.returned (.tuple #[.slice A (rwL q).length c,.int .i64 (rwE q)])∧OwnB w' 5 w.heap.size A c (rwL q)∧Rdr Q w' g (rwR q)∧Kept (·=g) w w'
theorem erow2_any (g:Nat) (q:List Nat) (w:World) (h:Rdr Q w g q):Calls Tryz.prog 156 #[.pointer (some ⟨g,0,none⟩)] w (ERowP Q w g q):=by
 rcases q with _|⟨n,r⟩
 ·exact (erow_nil g w h).mono fun e w' ⟨h1,h2,h3⟩=>⟨none,0,h1,OwnB.nil _ _ _,h2,h3⟩
 ·by_cases hn:n≤r.length
  ·refine (erow_ok g n r w h hn).mono fun e w' ⟨A,c,h1,h2,h3,h4⟩=>⟨A,c,?_⟩
   simp only[rwL,rwE,rwR,hn,if_true];exact⟨h1,h2,h3,h4⟩
  ·refine (erow_short g n r w h (by omega)).mono fun e w' ⟨h1,h2,h3⟩=>⟨none,0,?_⟩
   simp only[rwL,rwE,rwR,hn,if_false];exact⟨h1,OwnB.nil _ _ _,h2,h3⟩
def Ins (w:World) (k:IntKind) (A:Option Addr) (n:Nat) (l:List Int):Prop:=
 l.length=n∧(∀x∈l,(Lit.int k x).wf=true)∧(0 < n→∃g o:Nat,A=some ⟨g,o,none⟩∧∀(j:Nat) (x:Int),l[j]?=some x→w.cell? ⟨g,o+j,none⟩=some (.int k x))
theorem Ins.at_ {w:World} {k:IntKind} {A:Option Addr} {n:Nat} {l:List Int} {j:Nat} (h:Ins w k A n l) (hj:j < n):
  ∃g o x,A=some ⟨g,o,none⟩∧l[j]?=some x∧(Lit.int k x).wf=true∧w.cell? ⟨g,o+j,none⟩=some (.int k x):=by
 obtain⟨hl,hb,hc⟩:=h;obtain⟨g,o,e,hc⟩:=hc (by omega)
 have hk':j < l.length:=by omega
 exact⟨g,o,l[j],e,List.getElem?_eq_getElem hk',hb _ (List.getElem_mem hk'),hc _ _ (List.getElem?_eq_getElem hk')⟩
theorem Ins.new {w w':World} {k:IntKind} {A:Option Addr} {n:Nat} {l:List Int} (h:Ins w k A n l) (hk:New w w'):Ins w' k A n l:=by
 obtain⟨hl,hb,hc⟩:=h;refine⟨hl,hb,fun h0=>?_⟩;obtain⟨g,o,e,hc⟩:=hc h0;exact⟨g,o,e,fun j x hx=>hk.cell (hc j x hx) (fun f=>f)⟩
end
section
set_option maxRecDepth 100000
open Go.ChangeShapes Go.WideShapes Go.ChangeAt Go.RowKit
theorem set_any (xs:List Nat) (k y:Nat) (v:Value) (hv:v=byt y):(xs.map byt).set k v=(xs.set k y).map byt:=by
 subst hv;rw[List.map_set]
end
end Go.Proofs.YtbiihjdjbknibaaGreat
