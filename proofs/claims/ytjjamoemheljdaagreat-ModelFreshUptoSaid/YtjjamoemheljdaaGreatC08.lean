/-
  Layer 7: contracts (Ua Pe Zi).
-/
import Derived.Test.YtjjamoemheljdaaGreatRows
import Derived.WalkSpells
import Derived.Lib.SlBytesConst
import Derived.Test.YtjjamoemheljdaaGreatC05
namespace Go.Proofs.YtjjamoemheljdaaGreat
set_option maxRecDepth 100000
set_option maxHeartbeats 8000000
set_option linter.unusedSimpArgs false
set_option linter.unusedVariables false
section
open Go.ChangeShapes Go.WideShapes Go.ChangeAt Go.RowKit
theorem zcg:(Tryz.prog.info? 5).map (fun i=>(i.zero,i.size,i.bytes))=some (some (.int .u8 0),1,1):=by kernel_rfl
def Quiet (w:World) (b:Bool) (e:Ending) (w':World):Prop:=∃d,e=.returned (.bool b)∧w'=w.drewN d
theorem same_eq (A B:Option Addr) (n c d:Nat) (l:List Nat) (w:World) (ha:Bts w A n l) (hb:Bts w B n l) (hn:n≤maxLen):
  Calls Tryz.prog 24 #[.slice A n c,.slice B n d] w (Quiet w true):=by
 unfold maxLen at hn;go_enter Tryz.func24,Tryz.ntmps24;go_wp2
 go_loopw [5] (fun i wr=>∃k q:Nat,k≤n∧i=.int .i64 k∧wr=w.drewN q) (fun i _=>n - (intOf i).toNat)
 case atStart=>exact⟨0,0,Nat.zero_le _,rfl,rfl⟩
 case round=>
  obtain⟨k,q,hk,rfl,rfl⟩:=hrel
  by_cases hlt:k < n
  ·obtain⟨g,o,x,rfl,hx,hxb,hc⟩:=ha.at_ hlt;obtain⟨g',o',y,rfl,hy,hyb,hc'⟩:=hb.at_ hlt
   obtain rfl:x=y:=by rw[hx] at hy;injection hy
   clear ha hb hx hy;go_wp2;go_quiet (fail);go_wp2;go_roundw
   case rel=>exact⟨k+1,_,by omega,by go_num,rfl⟩
   case measure=>simp[intOf];omega
  ·clear ha hb;go_wp2;go_ret;exact⟨q,rfl,rfl⟩
def RetL (w:World) (l:List Nat) (e:Ending) (w':World):Prop:=
 ∃A c,e=.returned (.slice A l.length c)∧OwnB w' 5 w.heap.size A c l∧New w w'
theorem copy_any (A:Option Addr) (n c:Nat) (l:List Nat) (w:World) (ha:Bts w A n l) (hn:n≤140737488351232):
  Calls Tryz.prog 30 #[.slice A n c] w (RetL w l):=by
 obtain⟨i0,hi,hz0,hz1,hz2⟩:=info_parts zcg;have hl:=ha.1;go_enter Tryz.func30,Tryz.ntmps30
 go_wp2_with (at_builtin;refine zal _ rfl _ _ _ rfl 5 i0 Tryz.underlying32 hi hz0 hz1 hz2 w.heap.size none 0 0 [] rfl (OwnB.nil _ _ _) rfl A n c l rfl ha ?_ (Nat.le_refl _) ?_)
 ·simp;omega
 intro A2 c2 w2 hown hg _;go_wp2;go_ret;subst hl;exact⟨A2,c2,by simp,by simpa using hown,kR.grown hg (by simp)⟩
theorem Kept.of_own {w w1 w2:World} {t:TypeId} {A:Option Addr} {c:Nat} {l:List Nat} (k:New w w1) (h:OwnB w1 t w.heap.size A c l) (hg:w1.grownBy w2 (A.map (·.block))):New w w2:=
 k.grown hg fun q hq hA=>by
  obtain⟨a,rfl,rfl⟩:=Option.map_eq_some_iff.1 hA
  have:=(h.at_ a rfl).2
  omega
def WideP (w:World) (l:List Nat) (e:Ending) (w':World):Prop:=
 ∃g,e=.returned (.slice (some ⟨g,0,none⟩) l.length (l.length+3))∧Blk w' g 5 ((l++[7,7,7]).map byt)∧w.heap.size≤g∧New w w'
theorem set_step (a b:List Nat) (x y k:Nat) (v:Value) (hk:a.length=k) (hv:v=byt y):((a++x::b).map byt).set k v=((a++[y])++b).map byt:=by
 subst hk hv;rw[List.map_append,List.set_append_right _ _ (by simp)];simp
theorem get_step (a b:List Nat) (x k:Nat) (hk:a.length=k):((a++x::b).map byt)[k]?=some (byt x):=by
 subst hk;rw[List.map_append,List.getElem?_append_right (by simp)];simp
theorem wide_any (A:Option Addr) (n c:Nat) (l:List Nat) (w:World) (ha:Bts w A n l) (hn:n≤140737488351232):
  Calls Tryz.prog 14 #[.slice A n c] w (WideP w l):=by
 obtain⟨i0,hi,hz0,hz1,hz2⟩:=info_parts zcg;have Hl:=jH ha.1
 have hmk:=fun u=>run_make_bytes (P:=Tryz.prog) 32 5 i0 Tryz.underlying32 hi hz0 hz1 hz2 .i64 .i64 ((n:Int)+3) ((n:Int)+3) (n+3) (n+3) (by omega) (by omega) (by omega) (by omega) u
 have Ha:=jH ha;clear ha;go_enter Tryz.func14,Tryz.ntmps14;go_wp2
 go_loopw [4] (fun i wr=>∃k:Nat,k≤n∧i=.int .i64 k∧Blk wr w.heap.size 5 ((l.take k++List.replicate (n+3 - k) 0).map byt)∧New w wr) (fun i _=>n - (intOf i).toNat)
 case atStart=>exact⟨0,Nat.zero_le _,rfl,by simpa using Blk.madeB w 5 (List.replicate (n+3) 0),kR.alloc _⟩
 case round=>
  obtain⟨k,hk,rfl,hblk,hnew⟩:=hrel;have HB:=jH hblk;have HN:=jH hnew;clear hblk hnew hmk
  by_cases hlt:k < n
  ·obtain⟨ga,o,x,rfl,hx,hxb,hc⟩:=(Ha.out.new HN.out).at_ hlt;have HX:=jH hx;clear hx
   have hlk:(l.take k).length=k:=by rw[List.length_take,Hl.out];omega
   have hrep:List.replicate (n+3 - k) 0=0::List.replicate (n+3 - (k+1)) 0:=by rw[show n+3 - k=(n+3 - (k+1))+1 from by omega,List.replicate_succ]
   have hcell:wr.cell? ⟨w.heap.size,k,none⟩=some (byt 0):=by
    rw[HB.out.cell,hrep];exact get_step _ _ _ _ hlk
   have hfree:=HB.out.free k;have HLK:=jH hlk;have HREP:=jH hrep;clear hlk hrep;go_wp2;go_roundw
   case rel=>
    refine⟨k+1,by omega,by go_num,?_,HN.out.setCell (fun h=>absurd h (by simp)) _⟩;have h1:=HB.out.put k (.int .u8 (x:Int));rw[HREP.out,set_step (l.take k) _ 0 x k (.int .u8 (x:Int)) HLK.out rfl] at h1
    have hk':k < l.length:=by rw[Hl.out];exact hlt
    have e:l[k]=x:=(List.getElem?_eq_some_iff.1 HX.out).2;rw[List.take_succ_eq_append_getElem hk',e];exact h1
   case measure=>simp[intOf];omega
  ·obtain rfl:k=n:=by omega
   have hB:Blk wr w.heap.size 5 ((l++([]++List.replicate 3 0)).map byt):=by
    have:=HB.out
    rw[List.take_of_length_le (by rw[Hl.out];exact Nat.le_refl _),show k+3 - k=3 from by omega] at this;exact this
   have HB2:=jH hB;clear hB HB hlt;go_wp2
   go_loopw [5] (fun i wr=>∃j:Nat,j≤3∧i=.int .i64 ((k:Int)+j)∧Blk wr w.heap.size 5 ((l++(List.replicate j 7++List.replicate (3 - j) 0)).map byt)∧New w wr) (fun i _=>k+3 - (intOf i).toNat)
   case atStart=>exact⟨0,by omega,by go_num,HB2.out,HN.out⟩
   case round=>
    obtain⟨j,hj,rfl,hblk,hnew⟩:=hrel;have HB:=jH hblk;have HN2:=jH hnew;clear hblk hnew HB2 HN
    by_cases hlt:j < 3
    ·have hrep:List.replicate (3 - j) 0=0::List.replicate (3 - (j+1)) 0:=by rw[show 3 - j=(3 - (j+1))+1 from by omega,List.replicate_succ]
     have hcell:wr.cell? ⟨w.heap.size,k+j,none⟩=some (byt 0):=by
      rw[HB.out.cell,hrep,←List.append_assoc];exact get_step _ _ _ _ (by simp[Hl.out])
     have hfree:=HB.out.free (k+j);have HREP:=jH hrep;clear hrep;go_wp2;go_roundw
     case rel=>
      refine⟨j+1,by omega,by go_num,?_,HN2.out.setCell (fun h=>absurd h (by simp)) _⟩;have h1:=HB.out.put (k+j) (.int .u8 (7:Int));rw[HREP.out,←List.append_assoc,set_step (l++List.replicate j 7) _ 0 7 (k+j) (.int .u8 (7:Int)) (by simp[Hl.out]) rfl] at h1;rw[List.replicate_succ',←List.append_assoc,←List.append_assoc];exact h1
     case measure=>simp[intOf];omega
    ·obtain rfl:j=3:=by omega
     go_wp2;go_ret;refine⟨w.heap.size,by rw[Hl.out];rfl,?_,Nat.le_refl _,HN2.out⟩
     have:=HB.out
     simpa using this
def zak (A:Option Addr) (k:Nat):Prop:=∃a,A=some a∧a.block=k
theorem left_any (g n d:Nat) (A:Option Addr) (l:List Nat) (w:World) (hv:Blk w g 5 ((l++[7,7,7]).map byt)) (hl:l.length=n) (ha:Bts w A n l) (hn:n≤140737488351232):
  Calls Tryz.prog 19 #[.slice (some ⟨g,0,none⟩) n (n+3),.slice A n d] w (Quiet w true):=by
 have hb:Bts w (some ⟨g,0,none⟩) n l:=by
  refine⟨hl,ha.2.1,fun _=>⟨g,0,rfl,fun j x hx=>?_⟩⟩;have hj:j < l.length:=(List.getElem?_eq_some_iff.1 hx).1;rw[Nat.zero_add,hv.cell,List.map_append,List.getElem?_append_left (by simpa using hj),List.getElem?_map,hx]
  rfl
 have H7:∀j,j < 3→w.cell? ⟨g,n+j,none⟩=some (.int .u8 7):=by
  intro j hj;rw[hv.cell,List.map_append,List.getElem?_append_right (by simp[hl])]
  have e:n+j - (l.map byt).length=j:=by simp[hl]
  rw[e]
  match j,hj with
  | 0,_=>rfl
  | 1,_=>rfl
  | 2,_=>rfl
 have HB:=jH hb;have HA:=jH ha;have HH:=jH H7;clear hb ha H7 hv hl;go_enter Tryz.func19,Tryz.ntmps19
 go_wp2_with (go_at_call 24;refine (same_eq _ _ _ _ _ l _ HB.out HA.out (by unfold maxLen;omega)).mono ?_;rintro e w1 ⟨d1,rfl,rfl⟩)
 go_loop [6] (fun i=>∃j:Nat,j≤3∧i=.int .i64 ((n:Int)+j)) (fun i=>n+3 - (intOf i).toNat)
 case atStart=>exact⟨0,by omega,by go_num⟩
 case round=>
  obtain⟨j,hj,rfl⟩:=hrel
  by_cases hlt:j < 3
  ·have hc:=HH.out j hlt;go_wp2
   go_round
   case rel=>exact⟨j+1,by omega,by go_num⟩
   case measure=>simp[intOf];omega
  ·go_wp2;go_ret;exact⟨d1,rfl,rfl⟩
end
section
open Go.RowKit
def flt {α:Type} (f:α→List Value):List α→List Value
 | []=>[]
 | x::r=>f x++flt f r
section
variable {α:Type} {f:α→List Value} {sz:Nat}
theorem flt_len (hf:∀x,(f x).length=sz):∀(l:List α),(flt f l).length=l.length*sz
 | []=>by simp[flt]
 | x::r=>by rw[flt,List.length_append,hf,flt_len hf r,List.length_cons,Nat.add_mul];omega
theorem zcp:∀(a b:List α),flt f (a++b)=flt f a++flt f b
 | [],b=>rfl
 | x::a,b=>by simp only[List.cons_append,flt,zcp a b,List.append_assoc]
theorem flt_at (hf:∀x,(f x).length=sz):∀{l:List α} {i j:Nat} {x:α} {u:Value},l[i]?=some x→j < sz→(f x)[j]?=some u→(flt f l)[i*sz+j]?=some u
 | [],i,j,x,u,h,_,_=>by simp at h
 | y::r,0,j,x,u,h,hj,hu=>by
  simp at h;subst h;rw[flt,Nat.zero_mul,Nat.zero_add,List.getElem?_append_left (by rw[hf];exact hj)];exact hu
 | y::r,i+1,j,x,u,h,hj,hu=>by
  rw[flt,List.getElem?_append_right (by rw[hf,Nat.add_mul];omega),hf,show (i+1)*sz+j - sz=i*sz+j by rw[Nat.add_mul];omega];exact flt_at hf (by simpa using h) hj hu
theorem flt_take (hf:∀x,(f x).length=sz):∀(l:List α) (k:Nat),flt f (l.take k)=(flt f l).take (k*sz)
 | [],k=>by simp[flt]
 | x::r,0=>by simp[flt]
 | x::r,k+1=>by
  rw[List.take_succ_cons,flt,flt_take hf r k,flt,List.take_append,hf,show (k+1)*sz - sz=k*sz by rw[Nat.add_mul];omega,List.take_of_length_le (l:=f x) (by rw[hf,Nat.add_mul];omega)]
theorem flt_drop (hf:∀x,(f x).length=sz):∀(l:List α) (k:Nat),flt f (l.drop k)=(flt f l).drop (k*sz)
 | [],k=>by simp[flt]
 | x::r,0=>by simp
 | x::r,k+1=>by
  rw[List.drop_succ_cons,flt_drop hf r k,flt,List.drop_append,hf,show (k+1)*sz - sz=k*sz by rw[Nat.add_mul];omega,List.drop_of_length_le (l:=f x) (by rw[hf,Nat.add_mul];omega)]
  rfl
theorem flt_put (hf:∀x,(f x).length=sz):∀{l:List α} {i j:Nat} {x y:α} {u:Value},l[i]?=some x→j < sz→f y=(f x).set j u→(flt f l).set (i*sz+j) u=flt f (l.set i y)
 | [],i,j,x,y,u,h,_,_=>by simp at h
 | z::r,0,j,x,y,u,h,hj,hu=>by
  simp at h;subst h;rw[flt,Nat.zero_mul,Nat.zero_add,List.set_append_left _ _ (by rw[hf];exact hj),←hu,List.set_cons_zero,flt]
 | z::r,i+1,j,x,y,u,h,hj,hu=>by
  rw[flt,List.set_append_right _ _ (by rw[hf,Nat.add_mul];omega),hf,show (i+1)*sz+j - sz=i*sz+j by rw[Nat.add_mul];omega,flt_put hf (by simpa using h) hj hu,List.set_cons_succ,flt]
end
def nmc (e:ByteArray×Nat):List Value:=[.string e.1,.int .i64 e.2]
structure NE where
 n:ND
 A:Option Addr
 c:Nat
 B:Option Addr
 d:Nat
def NE.cells (e:NE):List Value:=[.int .i64 e.n.i,.int .u8 e.n.k,.int .i64 e.n.l,.slice e.A e.n.ns.length e.c,.slice e.B e.n.b.length e.d]
theorem nmc_len (e:ByteArray×Nat):(nmc e).length=2:=rfl
theorem zcy (e:NE):e.cells.length=5:=rfl
abbrev nms (ns:List (ByteArray×Nat)):List Value:=flt nmc ns
abbrev nes (es:List NE):List Value:=flt NE.cells es
def nds (es:List NE):List ND:=es.map (·.n)
abbrev NmIn (w:World) (A:Option Addr) (ns:List (ByteArray×Nat)):Prop:=RowV w A ns.length 2 (nms ns)
def NOk (w:World) (e:NE):Prop:=NmIn w e.A e.n.ns∧Bts w e.B e.n.b.length e.n.b∧e.n.ns.length≤e.c∧e.n.b.length≤e.d
def TIn (w:World) (A:Option Addr) (es:List NE):Prop:=RowV w A es.length 5 (nes es)∧∀e∈es,NOk w e
def NOwn (w:World) (B:Nat) (e:NE):Prop:=OwnV w 65 2 B e.A e.n.ns.length e.c (nms e.n.ns)∧OwnB w 5 B e.B e.d e.n.b
def TOwn (w:World) (B:Nat) (A:Option Addr) (c:Nat) (es:List NE):Prop:=OwnV w 53 5 B A es.length c (nes es)∧∀e∈es,NOwn w B e
section
variable {S:Nat→Prop} {w w':World} {A:Option Addr} {c B B':Nat} {es:List NE} {ns:List (ByteArray×Nat)} {e:NE}
theorem NOk.new (h:NOk w e) (hk:New w w'):NOk w' e:=⟨h.1.new hk,h.2.1.new hk,h.2.2⟩
theorem TIn.new (h:TIn w A es) (hk:New w w'):TIn w' A es:=⟨h.1.new hk,fun e he=>(h.2 e he).new hk⟩
theorem NOwn.new (h:NOwn w B e) (hk:New w w'):NOwn w' B e:=⟨h.1.new hk,h.2.new hk⟩
theorem TOwn.new (h:TOwn w B A c es) (hk:New w w'):TOwn w' B A c es:=⟨h.1.new hk,fun e he=>(h.2 e he).new hk⟩
theorem NOwn.ok (h:NOwn w B e):NOk w e:=⟨h.1.row,h.2.bts,h.1.2.1,h.2.le.1⟩
theorem TOwn.in_ (h:TOwn w B A c es):TIn w A es:=⟨h.1.row,fun e he=>(h.2 e he).ok⟩
theorem NOwn.mono (h:NOwn w B e) (hb:B'≤B):NOwn w B' e:=⟨h.1.mono hb,h.2.mono hb⟩
theorem TOwn.mono (h:TOwn w B A c es) (hb:B'≤B):TOwn w B' A c es:=⟨h.1.mono hb,fun e he=>(h.2 e he).mono hb⟩
theorem TOwn.nil (w:World) (B:Nat):TOwn w B none 0 []:=⟨OwnV.nil _ _ _ _,by simp⟩
theorem TOwn.drewN (h:TOwn w B A c es) (q:Nat):TOwn (w.drewN q) B A c es:=h.new (kR.drewN q)
theorem TIn.drewN (h:TIn w A es) (q:Nat):TIn (w.drewN q) A es:=h.new (kR.drewN q)
theorem NmIn.at_ {i:Nat} (h:NmIn w A ns) (hi:i < ns.length):∃(g o:Nat) (e:ByteArray×Nat),A=some ⟨g,o,none⟩∧ns[i]?=some e ∧
  w.cell? ⟨g,o+i*2,none⟩=some (.string e.1)∧w.cell? ⟨g,o+i*2+1,none⟩=some (.int .i64 e.2):=by
 obtain⟨h1,h2⟩:=h;obtain⟨g,o,rfl,hat⟩:=h2 (Nat.lt_of_le_of_lt (Nat.zero_le i) hi);have he:ns[i]?=some ns[i]:=List.getElem?_eq_getElem hi;exact⟨g,o,ns[i],rfl,he,hat _ _ (flt_at nmc_len (j:=0) he (by omega) rfl),by rw[Nat.add_assoc];exact hat _ _ (flt_at nmc_len (j:=1) he (by omega) rfl)⟩
theorem TIn.at_ {i:Nat} (h:TIn w A es) (hi:i < es.length):∃(g o:Nat) (e:NE),A=some ⟨g,o,none⟩∧es[i]?=some e∧NOk w e ∧
  w.cell? ⟨g,o+i*5,none⟩=some (.int .i64 e.n.i)∧w.cell? ⟨g,o+i*5+1,none⟩=some (.int .u8 e.n.k)∧w.cell? ⟨g,o+i*5+2,none⟩=some (.int .i64 e.n.l) ∧
  w.cell? ⟨g,o+i*5+3,none⟩=some (.slice e.A e.n.ns.length e.c)∧w.cell? ⟨g,o+i*5+4,none⟩=some (.slice e.B e.n.b.length e.d):=by
 obtain⟨⟨h1,h2⟩,h3⟩:=h;obtain⟨g,o,rfl,hat⟩:=h2 (Nat.lt_of_le_of_lt (Nat.zero_le i) hi);have he:es[i]?=some es[i]:=List.getElem?_eq_getElem hi
 have key:∀j u,j < 5→es[i].cells[j]?=some u→w.cell? ⟨g,o+i*5+j,none⟩=some u:=fun j u hj hu=>by
  rw[Nat.add_assoc];exact hat _ _ (flt_at zcy he hj hu)
 exact⟨g,o,es[i],rfl,he,h3 _ (List.getElem_mem hi),key 0 _ (by omega) rfl,key 1 _ (by omega) rfl,key 2 _ (by omega) rfl,key 3 _ (by omega) rfl,key 4 _ (by omega) rfl⟩
end
theorem TIn.get {w:World} {g o:Nat} {es:List NE} {i:Nat} {e:NE} (h:TIn w (some ⟨g,o,none⟩) es) (hx:es[i]?=some e):NOk w e ∧
  w.cell? ⟨g,o+i*5,none⟩=some (.int .i64 e.n.i)∧w.cell? ⟨g,o+i*5+1,none⟩=some (.int .u8 e.n.k)∧w.cell? ⟨g,o+i*5+2,none⟩=some (.int .i64 e.n.l) ∧
  w.cell? ⟨g,o+i*5+3,none⟩=some (.slice e.A e.n.ns.length e.c)∧w.cell? ⟨g,o+i*5+4,none⟩=some (.slice e.B e.n.b.length e.d):=by
 obtain⟨g',o',e',h1,h2,h3,h4⟩:=h.at_ (i:=i) (List.getElem?_eq_some_iff.1 hx).1
 injection h1 with h1
 injection h1 with e1 e2
 subst e1 e2;rw[hx] at h2
 injection h2 with h2
 subst h2;exact⟨h3,h4⟩
theorem NmIn.get {w:World} {g o:Nat} {ns:List (ByteArray×Nat)} {i:Nat} {e:ByteArray×Nat} (h:NmIn w (some ⟨g,o,none⟩) ns) (hx:ns[i]?=some e):
  w.cell? ⟨g,o+i*2,none⟩=some (.string e.1)∧w.cell? ⟨g,o+i*2+1,none⟩=some (.int .i64 e.2):=by
 obtain⟨g',o',e',h1,h2,h3⟩:=NmIn.at_ h (i:=i) (List.getElem?_eq_some_iff.1 hx).1
 injection h1 with h1
 injection h1 with e1 e2
 subst e1 e2;rw[hx] at h2
 injection h2 with h2
 subst h2;exact h3
theorem TIn.pos {w:World} {A:Option Addr} {es:List NE} {i:Nat} (h:TIn w A es) (hi:i < es.length):∃(g o:Nat) (e:NE),A=some ⟨g,o,none⟩∧es[i]?=some e:=by
 obtain⟨g,o,e,h1,h2,_⟩:=h.at_ hi;exact⟨g,o,e,h1,h2⟩
theorem NmIn.pos {w:World} {A:Option Addr} {ns:List (ByteArray×Nat)} {i:Nat} (h:NmIn w A ns) (hi:i < ns.length):∃(g o:Nat) (e:ByteArray×Nat),A=some ⟨g,o,none⟩∧ns[i]?=some e:=by
 obtain⟨g,o,e,h1,h2,_⟩:=NmIn.at_ h hi;exact⟨g,o,e,h1,h2⟩
theorem zab (es:List NE):(nds es).length=es.length:=by unfold nds;rw[List.length_map]
theorem zbc {es:List NE} {i:Nat} {e:NE} (h:es[i]?=some e):(nds es)[i]?=some e.n:=by unfold nds;rw[List.getElem?_map,h];rfl
def posI:List ND→Nat→Nat
 | [],_=>0
 | n::r,j=>if n.i=j then 0 else posI r j+1
theorem pos_some {L:List ND} {j:Nat} {n:ND} (h:ndI L j=some n):L[posI L j]?=some n:=by
 induction L with
 | nil=>cases h
 | cons m r ih=>
  unfold ndI at h;unfold posI
  split at h
  ·rename_i e;rw[if_pos e];injection h with h;subst h;rfl
  ·rename_i e;rw[if_neg e];simpa using ih h
theorem pos_lt {L:List ND} {j k:Nat} (hk:k < posI L j) {n:ND} (hn:L[k]?=some n):n.i≠j:=by
 induction L generalizing k with
 | nil=>simp at hn
 | cons m r ih=>
  unfold posI at hk
  split at hk
  ·omega
  ·rename_i e
   cases k with
   | zero=>simp at hn;subst hn;exact e
   | succ k=>exact ih (k:=k) (by omega) (by simpa using hn)
theorem pos_le (L:List ND) (j:Nat):posI L j≤L.length:=by
 induction L with
 | nil=>exact Nat.le_refl _
 | cons m r ih=>unfold posI;split<;>simp<;>omega
theorem pos_none {L:List ND} {j:Nat} (h:ndI L j=none):posI L j=L.length:=by
 induction L with
 | nil=>rfl
 | cons m r ih=>
  unfold ndI at h;unfold posI
  split at h
  ·cases h
  ·rename_i e;rw[if_neg e,ih h];rfl
end
section
def rch (L:List ND):Nat→Nat→Nat→Bool
 | 0,_,_=>false
 | f+1,j,x=>match ndI L j with
  | none=>false
  | some n=>n.ns.any fun e=>e.2 == x || rch L f e.2 x
theorem rch_step {L:List ND} {f j x:Nat} {n:ND} (h:ndI L j=some n):rch L (f+1) j x=n.ns.any fun e=>e.2 == x || rch L f e.2 x:=by
 rw[rch,h]
theorem rch_one {L:List ND} {f j:Nat} {n:ND} {e:ByteArray×Nat} (h:ndI L j=some n) (he:e∈n.ns):rch L (f+1) j e.2=true:=by
 rw[rch_step h];exact List.any_eq_true.2 ⟨e,he,by simp⟩
theorem rch_more {L:List ND}:∀(f j y:Nat) {m:ND} {e:ByteArray×Nat},rch L f j y=true→ndI L y=some m→e∈m.ns→rch L (f+1) j e.2=true:=by
 intro f
 induction f with
 | zero=>intro j y m e h _ _;cases h
 | succ f ih=>
  intro j y m e h hm he
  cases hn:ndI L j with
  | none=>rw[rch,hn] at h;cases h
  | some n=>
   rw[rch_step hn] at h;obtain⟨x,hx,h⟩:=List.any_eq_true.1 h;rw[rch_step hn];refine List.any_eq_true.2 ⟨x,hx,?_⟩;rw[Bool.or_eq_true] at h ⊢
   rcases h with h|h
   ·have:x.2=y:=by simpa using h
    rw[this];exact .inr (rch_one hm he)
   ·exact .inr (ih x.2 y h hm he)
theorem rch_up {L:List ND}:∀(f j x:Nat),rch L f j x=true→rch L (f+1) j x=true:=by
 intro f
 induction f with
 | zero=>intro j x h;cases h
 | succ f ih=>
  intro j x h
  cases hn:ndI L j with
  | none=>rw[rch,hn] at h;cases h
  | some n=>
   rw[rch_step hn] at h ⊢;obtain⟨e,he,h⟩:=List.any_eq_true.1 h;refine List.any_eq_true.2 ⟨e,he,?_⟩;rw[Bool.or_eq_true] at h ⊢;exact h.imp id (ih e.2 x)
theorem rch_le {L:List ND} {f g j x:Nat} (h:rch L f j x=true) (hg:f≤g):rch L g j x=true:=by
 obtain⟨k,rfl⟩:∃k,g=f+k:=⟨g - f,by omega⟩;clear hg
 induction k with
 | zero=>exact h
 | succ k ih=>exact rch_up _ _ _ ih
theorem ent_of {T:TT} (h:Rt T) {n:ND} (hn:n∈T.l) (h1:n.i≠1):∃m∈T.l,∃e∈m.ns,e.2=n.i:=by
 have hc:=h.cnt n.i
 have hw:zar T.l n.i=n.l:=by unfold zar;rw[zbf h.ord hn];simp[h1]
 have hl:1≤n.l:=by rcases (h.fin n hn).2.2.2 with ⟨_,h2,_⟩|⟨_,h2,_⟩<;>omega
 apply Classical.byContradiction
 intro hno
 have:∀L:List ND,(∀m∈L,∀e∈m.ns,e.2≠n.i)→cntL L n.i=0:=fun L=>by
  induction L with
  | nil=>intro _;rfl
  | cons m r ih=>
   intro hh;rw[cntL,ih fun m hm=>hh m (List.mem_cons_of_mem _ hm)]
   have:cntN m.ns n.i=0:=by
    unfold cntN;rw[List.countP_eq_zero];intro e he;simpa using hh m (List.mem_cons_self ..) e he
   omega
 have h0:=this T.l fun m hm e he e2=>hno ⟨m,hm,e,he,e2⟩
 omega
theorem dir_of {T:TT} (h:Rt T) {m:ND} (hm:m∈T.l) {e:ByteArray×Nat} (he:e∈m.ns):m.k=1:=
 Classical.byContradiction fun hk=>by
  have:=(zbd (h.fin m hm) hk).2.2.2.1
  rw[this] at he;cases he
theorem rch_dir {T:TT} (h:Rt T) {d:Nat→Nat} (hd:Deep T.l d):∀(k:Nat) (m:ND),m∈T.l→m.k=1→d m.i=k→m.i≠1→rch T.l k 1 m.i=true:=by
 intro k
 induction k using Nat.strongRecOn with
 | ind k ih=>
  intro m hm hk hdk h1;obtain⟨q,hq,e,he,hei⟩:=ent_of h hm h1;have h6:=hd.2 q hq e he;have hde:d e.2=d q.i+1:=h6.2 m hm hei.symm hk;rw[hei] at hde;have hqd:=dir_of h hq he
  by_cases hq1:q.i=1
  ·have hn:ndI T.l 1=some q:=by rw[←hq1];exact zbf h.ord hq
   rw[←hei];exact rch_le (rch_one (f:=0) hn he) (by omega)
  ·have:=ih (d q.i) (by omega) q hq hqd rfl hq1
   rw[←hei];exact rch_le (rch_more _ _ _ this (zbf h.ord hq) he) (by omega)
theorem rch_all {T:TT} (h:Rt T) {x:Nat} (hx:x∈inos T.l):x=1∨rch T.l 8 1 x=true:=by
 obtain⟨d,hd⟩:=h.dep;obtain⟨n,hn,rfl⟩:=List.mem_map.1 hx
 by_cases h1:n.i=1
 ·exact .inl h1
 ·refine .inr ?_;obtain⟨q,hq,e,he,hei⟩:=ent_of h hn h1;have h6:=(hd.2 q hq e he).1;rw[←hei]
  by_cases hq1:q.i=1
  ·have hn1:ndI T.l 1=some q:=by rw[←hq1];exact zbf h.ord hq
   exact rch_le (rch_one (f:=0) hn1 he) (by omega)
  ·have:=rch_dir h hd _ q hq (dir_of h hq he) rfl hq1
   exact rch_le (rch_more _ _ _ this (zbf h.ord hq) he) (by omega)
theorem hgt_none {L:List ND} {f j:Nat} {y:ND} (h:ndI L j=some y) (hn:y.ns=[]):hgt L f j=0:=by
 cases f with
 | zero=>rfl
 | succ f=>rw[hgt,h];simp[hn,hgtN]
theorem hgt_deep {T:TT} (h:Rt T) {d:Nat→Nat} (hd:Deep T.l d):∀(f j:Nat) (y:ND),ndI T.l j=some y→y.ns≠[]→hgt T.l f j+d j≤6:=by
 intro f
 induction f with
 | zero=>
  intro j y hy hne;obtain⟨hm,hi⟩:=zaa hy;obtain⟨e,he⟩:=List.exists_mem_of_ne_nil _ hne
  have:=(hd.2 y hm e he).1
  rw[hi] at this;rw[hgt];omega
 | succ f ih=>
  intro j y hy hne;obtain⟨hm,hi⟩:=zaa hy;rw[hgt,hy]
  have hall:∀ns:List (ByteArray×Nat),(∀e∈ns,e∈y.ns)→(ns≠[]→d j+1≤6)→hgtN (hgt T.l f) ns+d j≤6∨ns=[]:=fun ns=>by
   induction ns with
   | nil=>intro _ _;exact .inr rfl
   | cons e r ih2=>
    intro hh h6;have he:=hh e (List.mem_cons_self ..);have h6':=hd.2 y hm e he;obtain⟨c,hc⟩:=ndI_of (h.ent y hm e he);obtain⟨hcm,hci⟩:=zaa hc
    have h1:1+hgt T.l f e.2+d j≤6:=by
     by_cases hcn:c.ns=[]
     ·rw[hgt_none hc hcn]
      have:=h6 (by simp)
      omega
     ·have hck:c.k=1:=by
       obtain⟨x,hx⟩:=List.exists_mem_of_ne_nil _ hcn;exact dir_of h hcm hx
      have h3:=h6'.2 c hcm hci hck
      have:=ih e.2 c hc hcn
      rw[hi] at h3;omega
    refine .inl ?_;rw[hgtN]
    rcases ih2 (fun x hx=>hh x (List.mem_cons_of_mem _ hx)) (fun _=>h6 (by simp)) with h2|h2
    ·omega
    ·rw[h2,hgtN];omega
  rcases hall y.ns (fun _ h=>h) (fun _=>by
   obtain⟨e,he⟩:=List.exists_mem_of_ne_nil _ hne
   have:=(hd.2 y hm e he).1
   rwa [hi] at this) with h2|h2
  ·exact h2
  ·exact absurd h2 hne
theorem hgt_root {T:TT} (h:Rt T):hgt T.l 8 1≤6:=by
 obtain⟨d,hd⟩:=h.dep;obtain⟨r,hr,_⟩:=h.one
 by_cases hn:r.ns=[]
 ·rw[hgt_none hr hn];omega
 ·have:=hgt_deep h hd 8 1 r hr hn
  omega
theorem cnt_put {l:List Nat} (hl:l.Nodup) {j:Nat} (hj:j∈l) (s:Nat→Bool):l.countP (fun x=>j == x || s x)=if s j=true then l.countP s else l.countP s+1:=by
 induction l with
 | nil=>cases hj
 | cons a r ih=>
  rw[List.nodup_cons] at hl;rw[List.countP_cons,List.countP_cons]
  by_cases e:j=a
  ·subst e
   have hr:r.countP (fun x=>j == x || s x)=r.countP s:=by
    apply List.countP_congr
    intro x hx
    have:j≠x:=fun e=>hl.1 (e ▸ hx)
    simp[this]
   rw[hr];simp only[beq_self_eq_true,Bool.true_or,if_true]
   split<;>simp_all
  ·have hj:j∈r:=by simpa [e] using hj
   rw[ih hl.2 hj];simp only[show (j == a)=false by simpa using e,Bool.false_or]
   split<;>omega
theorem inos_nodup {L:List ND} (h:OrdN L):(inos L).Nodup:=by
 unfold inos;rw[List.Nodup,List.pairwise_map]
 exact h.imp fun h e=>by omega
end
end Go.Proofs.YtjjamoemheljdaaGreat
