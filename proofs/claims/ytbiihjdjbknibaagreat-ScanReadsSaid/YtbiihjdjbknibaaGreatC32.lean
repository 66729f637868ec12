/-
  Layer 7: contracts (Ml).
-/
import Derived.Sort.CutIn
import Derived.Test.YtbiihjdjbknibaaGreatC31
namespace Go.Proofs.YtbiihjdjbknibaaGreat
set_option maxRecDepth 100000
set_option maxHeartbeats 8000000
set_option linter.unusedSimpArgs false
set_option linter.unusedVariables false
section
set_option maxRecDepth 100000
open Go.RowKit
attribute [local go_sem] Oper.semAt_some
def Kc (W W':World):Prop:=Kept (fun b=>At W b 94∨At W b 30) W W'
theorem Kc.refl (W:World):Kc W W:=kR
theorem Kc.trans {X Y Z:World} (h:Kc X Y) (k:Kc Y Z):Kc X Z:=by
 refine Kept.trans h k fun i hi hs=>?_
 by_cases hx:At X i 94∨At X i 30
 ·exact hx
 ·have:=Kept.block h i hi hx
  rcases hs with ⟨cs,fr,e⟩|⟨cs,fr,e⟩
  ·exact .inl ⟨cs,fr,this ▸ e⟩
  ·exact .inr ⟨cs,fr,this ▸ e⟩
theorem Kc.new {X Y:World} (h:New X Y):Kc X Y:=h.mono fun _ _ f=>f.elim
theorem Kc.row {X Y:World} {A:Option Addr} (h:Kept (InRow A) X Y) (ha:∀a,A=some a→At X a.block 94):Kc X Y:=
 h.mono fun _ _ ⟨a,e,e2⟩=>.inl (e2 ▸ ha a e)
theorem Kc.box {X:World} {g:Nat} (h:At X g 30) (u:Value):Kc X (X.setCell ⟨g,0,none⟩ u):=(Kept.set1 X g 0 u).mono fun _ _ e=>.inr (e ▸ h)
theorem Kc.keeps {X Y:World} (B:Nat) (h:Kc X Y):KeepsFrom B X Y:=⟨h.size,fun k o _ hk ho=>by
 refine (h.block k (Array.getElem?_eq_some_iff.1 hk).1 ?_).trans hk
 rintro (⟨cs,fr,e⟩|⟨cs,fr,e⟩)<;>(rw[hk] at e;injection e with e;rw[e] at ho;cases ho)⟩
theorem Kc.kp {X Y:World} (h:Kc X Y):KpC X Y:=⟨h.size,fun k hk=>h.block k hk.lt fun hs=>by
 rcases hs with hs|hs
 ·exact hk.ne_of hs (by decide) rfl
 ·exact hk.ne_of hs (by decide) rfl⟩
theorem kept_of_own {X Y:World} {B:Nat} {row:Option Nat} (hg:X.grownBy Y row) (hr:∀r,row=some r→B≤r∧∃o:Obj,X.heap[r]?=some o∧o.isCells=false):
  Kept (fun k=>B≤k∧∃o:Obj,X.heap[k]?=some o∧o.isCells=false) X Y:=⟨hg.os,hg.tape,hg.output,hg.size,fun k hk hn=>hg.block k hk fun e=>hn (hr k e.symm)⟩
theorem At.cells {X:World} {b:Nat} {t:TypeId} {B:Nat} (h:At X b t):¬(B≤b∧∃o:Obj,X.heap[b]?=some o∧o.isCells=false):=by
 rintro ⟨_,o,ho,hc⟩;obtain⟨cs,fr,e⟩:=h;rw[e] at ho
 injection ho with ho
 rw[←ho] at hc;cases hc
theorem latest_stops (m:Nat) (hm:1≤m) (Bs:Nat) (A:Option Addr) (n c:Nat) (es:List CE) (hsort:SortC n) (hn:n*72≤140737488351232) (hA:A=none→c=0∧n=0) (hlen:es.length=n) (w:World)
  (hBs:w.cell? ⟨Bs,0,none⟩=some (.slice A n c)) (ha:RowV w A n 6 (ces es)):
  SeqStopsK Fence.wide m Tryz.prog 91 #[.pointer (some ⟨Bs,0,none⟩)] (fun x:{x:CE // x∈es}=>#[ceV x.1]) KpC (LatS es n) (fun _=>True) n w:=fun l J Jx W hW hJ _ hY h0=>
 latest1_in m hm l Bs A n c es hsort hn hA hlen J Jx W (fun s X Y hs hk=>hJ s X Y none hs (grown_of_new hk) (by simp)) hY
  ((hW.cell (p:=⟨Bs,0,none⟩) (World.block_lt_of_cell? w _ hBs)).trans hBs) (ha.new (New.of_below hW)) h0
theorem under_facts:Tryz.prog.underlying 30=some (.slice 94):=by kernel_rfl
theorem run_to (A:Option Addr) (n c p:Nat) (h:p≤c) (w:World):(Instr.slice 30 (.slice A n c) none (some (.int .i64 (p:Nat))) none).run Tryz.prog w=.ok (.slice A p c) w:=by
 obtain⟨i0,hi,hz0,hz1,hz2⟩:=info_parts info_fact
 have h2:(0:Int)≤(p:Int):=by omega
 simp[Instr.slice,Instr.sliceBounds,Instr.sliceBound,run_underlying under_facts,sizeOf,typeInfo,hi,go_sem,h2];intro hh;omega
abbrev chF {es:List CE} (x:{x:CE // x∈es}):CT:=x.1.f
def ApP (w:World) (l:List FT) (cs:List CT) (e:Ending) (w':World):Prop:=
 ∃A c es,e=.returned (.slice A es.length c)∧fts es=(if ordF l=true then apF l cs else [])∧FOwn w' w.heap.size A c es∧New w w'
def ApI (w:World) (g0:Nat) (l:List FT) (pre:List CT) (W:World):Prop:=
 ∃(Ao:Option Addr) (co:Nat) (eo:List FE) (Al:Option Addr) (cl:Nat) (el:List FE),
  Blk W g0 30 [.slice Ao eo.length co]∧Blk W (g0+1) 30 [.slice Al el.length cl]∧FOwn W w.heap.size Ao co eo∧FIn w Al el.length el∧el.length≤cl∧cl≤maxLen ∧
   fts eo=(runA l pre).1∧fts el=(runA l pre).2∧New w W∧g0+2 < W.heap.size
theorem ApI.own {w:World} {g0:Nat} {l:List FT} (hg:w.heap.size≤g0) {pre:List CT} {X Y:World} {row:Option Nat} (h:ApI w g0 l pre X) (hgr:X.grownBy Y row) (hr:∀r,row=some r→g0+3≤r∧∃o:Obj,X.heap[r]?=some o∧o.isCells=false):ApI w g0 l pre Y:=by
 obtain⟨Ao,co,eo,Al,cl,el,h1,h2,h3,h4,h5,h6,h7,h8,h9,h10⟩:=h;have k:=kept_of_own hgr hr;refine⟨Ao,co,eo,Al,cl,el,h1.kept k h1.at_.cells,h2.kept k h2.at_.cells,⟨h3.1.kept k fun a ha=>(h3.1.at_ a ha).1.cells,fun e he=>⟨(h3.2 e he).1.kept k fun a ha=>((h3.2 e he).1.at_ a ha).1.cells,(h3.2 e he).2⟩⟩,h4,h5,h6,h7,h8,h9.trans k fun i hi hs=>?_,Nat.lt_of_lt_of_le h10 k.size⟩
 have:=hs.1
 omega
theorem FOwn.kept {S:Nat→Prop} {X Y:World} {B c:Nat} {A:Option Addr} {es:List FE} (h:FOwn X B A c es) (hk:Kept S X Y) (h1:∀b,At X b 94→¬S b) (h2:∀b,At X b 5→¬S b):FOwn Y B A c es:=
 ⟨h.1.kept hk fun a ha=>h1 _ (h.1.at_ a ha).1,fun e he=>⟨(h.2 e he).1.kept hk fun a ha=>h2 _ ((h.2 e he).1.at_ a ha).1,(h.2 e he).2⟩⟩
structure BdE (w W:World) (g0 Bx:Nat) (x:CE) (A2:Option Addr) (c2:Nat) (e2:List FE) (Al:Option Addr) (cl:Nat) (el:List FE) (X:World):Prop where
 b0:Blk X g0 30 [.slice A2 e2.length c2]
 b1:Blk X (g0+1) 30 [.slice Al el.length cl]
 bx:Blk X Bx 105 [.int .i64 x.f.k.i,.int .u8 (x.f.k.t:Nat),.string x.f.k.n,.int .i64 x.f.k.c,.slice x.A x.f.v.length x.c,.bool x.f.g]
 fo:FOwn X w.heap.size A2 c2 e2
 fi:FIn w Al el.length el
 hc:el.length≤cl∧cl≤maxLen
 nw:New w X
 kc:Kc W X
 sz:g0+2 < X.heap.size
 hg:w.heap.size≤g0
section
variable {w W:World} {g0 Bx:Nat} {x:CE} {A2:Option Addr} {c2:Nat} {e2:List FE} {Al:Option Addr} {cl:Nat} {el:List FE} {X:World}
theorem BdE.new {Y:World} (h:BdE w W g0 Bx x A2 c2 e2 Al cl el X) (hk:New X Y):BdE w W g0 Bx x A2 c2 e2 Al cl el Y:=
 ⟨h.b0.kept hk id,h.b1.kept hk id,h.bx.kept hk id,h.fo.new hk,h.fi,h.hc,h.nw.new hk,h.kc.trans (Kc.new hk),Nat.lt_of_lt_of_le h.sz hk.size,h.hg⟩
theorem BdE.more {Y:World} {A3:Option Addr} {c3:Nat} {e3:List FE} (h:BdE w W g0 Bx x A2 c2 e2 Al cl el X) (hk:Kept (InRow A2) X Y) (ho:FOwn Y w.heap.size A3 c3 (e2++e3)) (n:Nat) (hn:n=(e2++e3).length):
  BdE w W g0 Bx x A3 c3 (e2++e3) Al cl el (Y.setCell ⟨g0,0,none⟩ (.slice A3 n c3)):=by
 subst hn
 have hA:∀{b t},At X b t→t≠94→¬InRow A2 b:=fun hb ht ⟨a,ha,e⟩=>(h.fo.1.at_ a ha).1.ne_of hb (fun e=>ht e.symm) e
 have y0:Blk Y g0 30 [.slice A2 e2.length c2]:=h.b0.kept hk (hA h.b0.at_ (by decide));have y1:Blk Y (g0+1) 30 [.slice Al el.length cl]:=h.b1.kept hk (hA h.b1.at_ (by decide));have yx:=h.bx.kept hk (hA h.bx.at_ (by decide));have ks:=Kept.set1 Y g0 0 (.slice A3 (e2++e3).length c3)
 have hN:New w Y:=h.nw.trans hk fun i hi ⟨a,ha,e⟩=>by have:=(h.fo.1.at_ a ha).2;omega
 have hC:Kc W Y:=h.kc.trans (Kc.row hk fun a ha=>(h.fo.1.at_ a ha).1);refine⟨y0.put 0 _,y1.kept ks (by omega),yx.kept ks (yx.ne_of y0 (by decide)),ho.kept ks (fun b hb e=>?_) (fun b hb e=>?_),h.fi,h.hc,hN.trans ks fun i hi e=>?_,hC.trans (Kc.box y0.at_ _),by have h1:=h.sz;have h2:=hk.size;have h3:=ks.size;omega,h.hg⟩
 ·exact hb.ne_of y0.at_ (by decide) e
 ·exact hb.ne_of y0.at_ (by decide) e
 ·have:=h.hg;omega
theorem BdE.cut {k:Nat} (h:BdE w W g0 Bx x A2 c2 e2 Al cl el X) (hk:k≤el.length):
  BdE w W g0 Bx x A2 c2 e2 (if cl=k then Al else Al.map (·.add (k*5))) (cl - k) (el.drop k) (X.setCell ⟨g0+1,0,none⟩ (.slice (if cl=k then Al else Al.map (·.add (k*5))) (el.length - k) (cl - k))):=by
 have ks:=Kept.set1 X (g0+1) 0 (.slice (if cl=k then Al else Al.map (·.add (k*5))) (el.length - k) (cl - k));have h1:=h.hc.1;have h2:=h.hc.2;refine⟨h.b0.kept ks (by omega),by rw[List.length_drop];exact h.b1.put 0 _,h.bx.kept ks (h.bx.ne_of h.b1 (by decide)),h.fo.kept ks (fun b hb e=>?_) (fun b hb e=>?_),by rw[List.length_drop];exact h.fi.cut hk h1,by rw[List.length_drop];omega,h.nw.trans ks fun i hi e=>?_,h.kc.trans (Kc.box h.b1.at_ _),Nat.lt_of_lt_of_le h.sz ks.size,h.hg⟩
 ·exact hb.ne_of h.b1.at_ (by decide) e
 ·exact hb.ne_of h.b1.at_ (by decide) e
 ·have:=h.hg;omega
end
def BdS (w W:World) (g0 Bx:Nat) (x:CE) (oo ll:List FT) (X:World):Prop:=
 ∃A2 c2 e2 Al cl el,fts e2=oo∧fts el=ll∧BdE w W g0 Bx x A2 c2 e2 Al cl el X
theorem apply_any (A:Option Addr) (n c:Nat) (es:List FE) (A':Option Addr) (n' c':Nat) (cs:List CE) (w:World) (h:FIn w A n es) (hc:n≤c∧c≤maxLen) (hcs:CIn w A' n' cs) (hA':A'=none→c'=0∧n'=0)
  (hb:(n+n')*64≤140737488355328) (hb2:n'*72≤140737488351232) (hsort:SortC n'):
  Calls Tryz.prog 25 #[.slice A n c,.slice A' n' c'] w (ApP w (fts es) (cts cs)):=by
 have H:=jH h;have HC:=jH hc;have HCS:=jH hcs;have HLE:Hid (es.length=n):=h.len;have HLC:Hid (cs.length=n'):=hcs.len;have HB:Hid ((n+n')*64≤140737488355328∧n'*72≤140737488351232∧(A'=none→c'=0∧n'=0)):=⟨hb,hb2,hA'⟩;clear h hc hcs hb hb2 hA';have IO:=jH (inOrder_any A n c es w H.out (Nat.le_trans HC.out.1 HC.out.2));have HOB:∃b,ordF (fts es)=b:=⟨_,rfl⟩;obtain⟨b,hob⟩:=HOB;have HO:=jH hob;rw[hob] at IO;clear hob;refine callsIn_wide.1 (?_:CallsIn Fence.wide 6 _ _ _ _ _);refine callsIn_of_wp_marks Tryz.func25 rfl trivial ?_ rfl;simp only[Tryz.ntmps25,List.size_toArray,List.length_cons,List.length_nil,Nat.reduceAdd,Nat.reduceSub,Array.replicate_succ,Array.replicate_zero,List.push_toArray,List.append_toArray,List.nil_append,List.cons_append]
 cases b
 ·have E:Hid (∀w1,New w w1→ApP w (fts es) (cts cs) (.returned (.slice none 0 0)) w1):=fun w1 h1=>⟨none,0,[],rfl,by rw[HO.out];rfl,FOwn.nil _ _,h1⟩
  gi_wp2_with (refine⟨trivial,?_⟩;gi_at_call 60;refine (callsIn_wide.2 IO.out).mono ?_;rintro e w1 ⟨rfl,h1⟩;have N1:=jH h1;clear h1)
  refine⟨_,results_tmp rfl _ _ _,?_⟩;exact E.out _ N1.out
 gi_wp2_with (first
  | (refine⟨trivial,?_⟩;gi_at_call 60;refine (callsIn_wide.2 IO.out).mono ?_;rintro e w1 ⟨rfl,h1⟩;have N1:=jH h1;clear h1)
  | (refine⟨trivial,?_⟩;gi_at_call 61;refine (callsIn_wide.2 (latest_any A' n' c' _)).mono ?_;rintro e w2 ⟨rfl,rfl⟩))
 obtain⟨W0,hW0⟩:∃W0,W0=((w1.alloc (.cells #[.slice none 0 0] 30)).alloc (.cells #[.slice A n c] 30)).alloc (.cells #[.slice A' n' c'] 44):=⟨_,rfl⟩
 have N0:Hid (New w W0):=by rw[hW0];exact ((N1.out.alloc _).alloc _).alloc _
 have hsz:W0.heap.size=w1.heap.size+3:=by rw[hW0];simp
 have B0:Hid (Blk W0 w1.heap.size 30 [.slice none 0 0]):=by rw[hW0];exact ((Blk.made w1 _ _).alloc _).alloc _
 have B1:Hid (Blk W0 (w1.heap.size+1) 30 [.slice A n c]):=by
  rw[hW0]
  have:=Blk.made (w1.alloc (.cells #[.slice none 0 0] 30)) 30 #[.slice A n c]
  rw[World.size_alloc] at this;exact this.alloc _
 have B2:Hid (Blk W0 (w1.heap.size+1+1) 44 [.slice A' n' c']):=by
  rw[hW0]
  have:=Blk.made ((w1.alloc (.cells #[.slice none 0 0] 30)).alloc (.cells #[.slice A n c] 30)) 44 #[.slice A' n' c']
  rwa [World.size_alloc,World.size_alloc] at this
 have hg0:w.heap.size≤w1.heap.size:=N1.out.size;rw[←hW0];clear hW0 N1 IO;generalize w1.heap.size=g0 at *;have I0:Hid (ApI w g0 (fts es) [] W0):=⟨none,0,[],A,c,es,B0.out,by rw[HLE.out];exact B1.out,FOwn.nil _ _,by rw[HLE.out];exact H.out,by rw[HLE.out];exact HC.out.1,HC.out.2,rfl,rfl,N0.out,by omega⟩
 have RUN:Hid (∀pre:List CT,(runA (fts es) pre).1.length+(runA (fts es) pre).2.length≤n+pre.length∧ordF (runA (fts es) pre).2=true):=fun pre=>⟨by have:=runA_len (fts es) pre;rwa [fts_len,HLE.out] at this,runA_ord HO.out pre⟩
 have SEQ:=latest_stops 5 (by omega) (g0+1+1) A' n' c' cs hsort HB.out.2.1 HB.out.2.2 HLC.out W0 (B2.out.cell 0) (HCS.out.1.new N0.out);refine wpIn_rangeFunc_ownH (α:={x:CE // x∈cs}) rfl (by omega) (gf:=91) (lb:=#[.pointer (some ⟨g0+1+1,0,none⟩)]) rfl trivial (enters_of Tryz.func91 (by kernel_rfl) rfl) SEQ KpC.trans (fun W l o o'=>KpC.putObj W l o o') (Below.refl _ _) (fun _=>rfl)
  (fun pre W=>ApI w g0 (fts es) (pre.map chF) W) (fun _ _ _=>False)
  (fun _ _ _ _ hs hg hr=>ApI.own hg0 hs hg fun r e=>by have:=hr r e;rwa [hsz] at this)
  (fun _ _ _ _ _ hs _ _=>hs) I0.out
  (fun x a' W=>∃Bx,g0+2 < Bx∧Blk W Bx 105 [.int .i64 x.1.f.k.i,.int .u8 (x.1.f.k.t:Nat),.string x.1.f.k.n,.int .i64 x.1.f.k.c,.slice x.1.A x.1.f.v.length x.1.c,.bool x.1.f.g]∧a'={ tmps:=#[.slice A n c,.slice A' n' c',undef,undef,.slice none 0 0,.pointer (some ⟨g0,0,none⟩),.pointer (some ⟨g0+1,0,none⟩),.pointer (some ⟨Bx,0,none⟩),undef,undef,.slice A n c,.bool true,.bool false,.slice A n c,.slice A' n' c',.func (.func 91) #[] #[.pointer (some ⟨g0+1+1,0,none⟩)],
   .agg #[.int .i64 x.1.f.k.i,.int .u8 (x.1.f.k.t:Nat),.string x.1.f.k.n,.int .i64 x.1.f.k.c,.slice x.1.A x.1.f.v.length x.1.c,.bool x.1.f.g],undef,undef,undef,undef,undef,undef,undef,undef,undef,undef,undef,undef,undef,undef,undef,undef,undef,undef,undef,undef,undef,undef,undef,undef,undef,undef,undef,undef,undef,undef,undef,undef],defers:=[] })
  (fun x a' _ X Y row hs hg hr=>by
   obtain⟨Bx,h1,h2,h3⟩:=hs
   exact⟨Bx,h1,h2.kept (kept_of_own hg hr) h2.at_.cells,h3⟩)
  ?assign ?body ?done ?stop
 case assign=>
  rintro l pre ⟨x,hx⟩ W K hI hK;have HK:=jH hK;clear hK;unfold ceV
  gi_wp2
  have hsW:g0+2 < W.heap.size:=by obtain⟨_,_,_,_,_,_,_,_,_,_,_,_,_,_,_,hh⟩:=hI;exact hh
  refine HK.out _ _ ((Kc.new (kR.alloc _)).keeps _) (KpC.new (kR.alloc _)) (ApI.own hg0 hI (grown_of_new (kR.alloc _)) (by simp)) ⟨W.heap.size,hsW,Blk.made W _ _,rfl⟩
 case body=>
  rintro l pre ⟨x,hx⟩ a' W _ _ ⟨Ao,co,eo,Al,cl,el,h1,h2,h3,h4,h5,h6,h7,h8,h9,h10⟩ ⟨Bx,hBx,bX,rfl⟩ hlt
  have HLT:Hid (eo.length+el.length≤n+pre.length∧pre.length < n'):=by
   have:=(RUN.out (pre.map chF)).1
   rw[←h7,←h8,fts_len,fts_len,List.length_map] at this;exact⟨this,hlt⟩
  have PL:=jH (place_any Al el.length cl el x.f.k W (h4.new h9) (by rw[h8];exact (RUN.out _).2) (Nat.le_trans h5 h6))
  have HST:Hid (runA (fts es) ((pre++[(⟨x,hx⟩:{x:CE // x∈cs})]).map chF)=stepA (fts eo,fts el) x.f):=by
   rw[Hid,List.map_append,h7,h8];exact runA_more _ _ _
  have HP:Hid (plN (fts el) x.f.k≤el.length∧(plB (fts el) x.f.k=true→plN (fts el) x.f.k < el.length)):=⟨by have:=plN_le (fts el) x.f.k;rwa [fts_len] at this,fun hh=>by have:=plB_lt hh;rwa [fts_len] at this⟩;have HXOK:=jH (HCS.out.2 x hx);have b1:=h2.cell 0;have x0:=bX.cell 0;have x1:=bX.cell 1;have x2:=bX.cell 2;have x3:=bX.cell 3
  dsimp only[List.getElem?_cons_zero,List.getElem?_cons_succ] at b1 x0 x1 x2 x3
  have B0H:=jH h1;have B1H:=jH h2;have BXH:=jH bX;have FOH:=jH h3;have FIH:=jH h4;have HCL:Hid (el.length≤cl∧cl≤maxLen):=⟨h5,h6⟩;have NW:=jH h9;have HSZ:=jH h10;clear h1 h2 h3 h4 h5 h6 h7 h8 h9 h10 bX hlt;unfold stepA at HST
  dsimp only at HST
  unfold PlP at PL;generalize plN (fts el) x.f.k=p at *;generalize plB (fts el) x.f.k=q at *
  gi_wp2_with (first
   | (refine⟨trivial,?_⟩;gi_at_call 62;refine (CallsIn.inRound l (callsIn_wide.2 PL.out)).mono ?_;rintro e w4 ⟨rfl,hk4⟩)
   | fail)
  have HK4:=jH hk4;have HE4:Hid (BdE w W g0 Bx x Ao co eo Al cl el w4):=BdE.new ⟨B0H.out,B1H.out,BXH.out,FOH.out,FIH.out,HCL.out,NW.out,Kc.refl _,HSZ.out,hg0⟩ HK4.out;have b04:=HE4.out.b0.q0;have b14:=HE4.out.b1.q0
  have OW:Hid (∀u,New W u→Calls Tryz.prog 63 #[.slice Ao eo.length co,.slice Al p cl] u (OwnFP u w.heap.size Ao eo (fts (el.take p)))):=fun u hu=>
   own_any Ao eo.length co eo Al p cl (el.take p) w.heap.size u (FOH.out.new hu) rfl (fun v hv=>(FIH.out.take HP.out.1).new ((NW.out.new hu).trans hv fun i hi ⟨a,ha,e⟩=>by have:=(FOH.out.1.at_ a ha).2;omega)) (Nat.le_trans NW.out.size hu.size)
    (by have h1:=HLT.out;have h2:=HP.out.1;have h3:=HB.out.1;omega)
  have hp1:p≤cl:=Nat.le_trans HP.out.1 HCL.out.1
  have hsl:=fun u=>run_to Al el.length cl p hp1 u
  have HB5:Hid (∀u v,New W u→Kept (InRow Ao) u v→Blk v g0 30 [.slice Ao eo.length co]):=fun u v hu hk=>(B0H.out.kept hu id).kept hk fun ⟨a,ha,e⟩=>(FOH.out.1.at_ a ha).1.ne_of B0H.out.at_ (by decide) e
  clear hk4 b1 x0 x1 x2 x3 RUN SEQ I0 B0 B1 B2 PL
  gi_cut [] from 24 (fun wx=>Hid (BdS w W g0 Bx x (fts eo++(fts el).take p) (fts el) wx))
  case first=>
   gi_region_with (first
    | (refine⟨trivial,?_⟩;gi_at_call 63;refine (CallsIn.inRound l (callsIn_wide.2 (OW.out _ (by first|exact HK4.out|exact HK4.out.drew|exact HK4.out.drewN _)))).mono ?_;rintro e w5 ⟨A2,c2,es2,rfl,hf2,ho2,hk2,ha2⟩;have f0:=(HB5.out _ _ (by first|exact HK4.out|exact HK4.out.drew|exact HK4.out.drewN _) hk2).free 0;have c0:=(HB5.out _ _ (by first|exact HK4.out|exact HK4.out.drew|exact HK4.out.drewN _) hk2).cell 0)
    | fail)
   all_goals
    have hk3:Kept (InRow Ao) w4 w5:=(by first|exact hk2|exact Kept.trans ((Kept.refl (InRow Ao) w4).drew) hk2 fun _ _ h=>h);have E5:=HE4.out.more hk3 ho2 (eo.length+(fts (el.take p)).length) (by rw[List.length_append,←fts_len es2,hf2])
    gi_wp2_with fail
    gi_meet
    case rel=>exact⟨_,_,_,_,_,_,by rw[fts_append,hf2];unfold fts;rw[List.map_take],rfl,E5⟩
  case rest=>
   obtain⟨A5,c5,e5,A6,c6,e6,ho5,hl6,E5⟩:=hcut.out;have HE5:=jH E5;have HO5:=jH ho5;have HL6:=jH hl6
   have hl5:e6.length=el.length:=by rw[←fts_len e6,hl6,fts_len]
   have HP6:Hid (p≤e6.length∧(q=true→p < e6.length)):=by rw[hl5];exact HP.out
   have b1:=E5.b1.q0;have f1:=E5.b1.free 0;clear hcut ho5 hl6 E5 HE4 OW HB5 HK4 hl5 hsl hp1 b04 b14
   gi_upto_region 9 with fail
   gi_cut [] from 24 (fun wx=>Hid (BdS w W g0 Bx x (fts eo++(fts el).take p) ((fts el).drop p) wx))
   case first=>
    have C6:=jH (HE5.out.cut HP6.out.1)
    have hfd:Hid (fts (e6.drop p)=(fts el).drop p):=by rw[Hid,←HL6.out];unfold fts;rw[List.map_drop]
    have hp6:p≤e6.length:=HP6.out.1
    by_cases hcp:c6=p
    ·subst hcp;have C7:=C6.out;rw[if_pos rfl,Nat.sub_self] at C7;have C8:=jH C7;clear C7
     gi_wp2_with fail
     gi_meet
     case rel=>exact⟨_,_,_,_,_,_,HO5.out,hfd.out,C8.out⟩
    ·have C7:=C6.out;rw[if_neg hcp] at C7;have C8:=jH C7;clear C7
     gi_wp2_with fail
     gi_meet
     case rel=>exact⟨_,_,_,_,_,_,HO5.out,hfd.out,C8.out⟩
   case rest=>
    obtain⟨A7,c7,e7,A8,c8,e8,ho7,hl8,E7⟩:=hcut.out;have HE7:=jH E7;have HO7:=jH ho7;have HL8:=jH hl8
    have hl7:e8.length=e6.length - p:=by rw[←fts_len e8,hl8,List.length_drop,←HL6.out,fts_len]
    have HP8:Hid (q=true→1≤e8.length):=fun hh=>by have:=HP6.out.2 hh;omega
    have b17:=E7.b1.q0;have f17:=E7.b1.free 0;clear hcut ho7 hl8 E7 HE5 b1 f1 hl7
    gi_upto_if 32 with fail
    gi_cut [] from 24 (fun wx=>Hid (BdS w W g0 Bx x (fts eo++(fts el).take p) ((fts el).drop (p+if q=true then 1 else 0)) wx))
    case first=>
     cases q
     ·gi_wp2_with fail
      gi_meet
      case rel=>exact⟨_,_,_,_,_,_,HO7.out,HL8.out,HE7.out⟩
     ·have C6:=jH (HE7.out.cut (HP8.out rfl))
      have hfd:Hid (fts (e8.drop 1)=(fts el).drop (p+1)):=by rw[Hid,←List.drop_drop,←HL8.out];unfold fts;rw[List.map_drop]
      have hp8:1≤e8.length:=HP8.out rfl
      have hp9:(1:Int)≤(e8.length:Int):=by omega
      by_cases hcp:c8=1
      ·subst hcp;have C7:=C6.out;rw[if_pos rfl,Nat.sub_self] at C7;have C8:=jH C7;clear C7
       gi_wp2_with fail
       gi_meet
       case rel=>exact⟨_,_,_,_,_,_,HO7.out,hfd.out,C8.out⟩
      ·have C7:=C6.out;rw[if_neg hcp] at C7;have C8:=jH C7;clear C7
       gi_wp2_with fail
       gi_meet
       case rel=>exact⟨_,_,_,_,_,_,HO7.out,hfd.out,C8.out⟩
    case rest=>
     obtain⟨A9,c9,e9,A0,cc,ee,ho9,hle,E9⟩:=hcut.out;have HE9:=jH E9;have HO9:=jH ho9;have HLE9:=jH hle;obtain⟨x0,x1,x2,x3,x4,x5⟩:=E9.bx.p6;have b0:=E9.b0.q0
     have FIN:Hid (∀X A2 c2 e2 Al cl ee,fts e2=fts eo++(fts el).take p++(if x.f.g=true then [] else [⟨x.f.k,x.f.v⟩])→fts ee=(fts el).drop (p+if q=true then 1 else 0)→BdE w W g0 Bx x A2 c2 e2 Al cl ee X →
       (KeepsFrom W0.heap.size W X∧KpC W X∧ApI w g0 (fts es) ((pre++[(⟨x,hx⟩:{x:CE // x∈cs})]).map chF) X)):=fun X A2 c2 e2 Al cl ee h1 h2 h=>
      ⟨h.kc.keeps _,h.kc.kp,A2,c2,e2,Al,cl,ee,h.b0,h.b1,h.fo,h.fi,h.hc.1,h.hc.2,by rw[HST.out];exact h1,by rw[HST.out];exact h2,h.nw,h.sz⟩
     have hl9:e9.length+1≤n+n':=by
      have h1:=congrArg List.length ho9;rw[fts_len,List.length_append,List.length_take,fts_len,fts_len] at h1;have h2:=HLT.out;have h3:=HP.out.1;omega
     have HL9:=jH hl9;clear hcut ho9 hle E9 HE7 b17 f17 HST hl9;obtain⟨gg,hgg⟩:∃b,x.f.g=b:=⟨_,rfl⟩;have HGG:=jH hgg;rw[hgg] at x5;clear hgg;cases gg
     ·have HXE:=jH (show (⟨⟨x.f.k,x.f.v⟩,x.A,x.c⟩:FE)=⟨⟨x.f.k,x.f.v⟩,x.A,x.c⟩ from rfl)
      have OW2:Hid (Calls Tryz.prog 63 #[.slice A9 e9.length c9,.slice (some ⟨wc.heap.size,0,none⟩) 1 1] (wc.alloc (.cells #[.int .i64 x.f.k.i,.int .u8 (x.f.k.t:Nat),.string x.f.k.n,.int .i64 x.f.k.c,.slice x.A x.f.v.length x.c] 94))
        (OwnFP (wc.alloc (.cells #[.int .i64 x.f.k.i,.int .u8 (x.f.k.t:Nat),.string x.f.k.n,.int .i64 x.f.k.c,.slice x.A x.f.v.length x.c] 94)) w.heap.size A9 e9 (fts [⟨⟨x.f.k,x.f.v⟩,x.A,x.c⟩]))):=by
       have nB:New wc (wc.alloc (.cells #[.int .i64 x.f.k.i,.int .u8 (x.f.k.t:Nat),.string x.f.k.n,.int .i64 x.f.k.c,.slice x.A x.f.v.length x.c] 94)):=kR.alloc _;have bB:=Blk.made wc 94 #[.int .i64 x.f.k.i,.int .u8 (x.f.k.t:Nat),.string x.f.k.n,.int .i64 x.f.k.c,.slice x.A x.f.v.length x.c];refine own_any A9 e9.length c9 e9 (some ⟨wc.heap.size,0,none⟩) 1 1 [⟨⟨x.f.k,x.f.v⟩,x.A,x.c⟩] w.heap.size _ (HE9.out.fo.new nB) rfl (fun u hu=>?_) (Nat.le_trans HE9.out.nw.size nB.size) (Nat.le_trans (Nat.mul_le_mul_right 64 HL9.out) HB.out.1)
       have bU:=bB.kept hu fun ⟨a,ha,e⟩=>by
        have:=(HE9.out.fo.1.at_ a ha).1.lt
        rw[e] at this;exact Nat.lt_irrefl _ this
       have nU:New w u:=(HE9.out.nw.new nB).trans hu fun i hi ⟨a,ha,e⟩=>by have:=(HE9.out.fo.1.at_ a ha).2;omega
       refine⟨⟨rfl,fun _=>⟨_,0,rfl,fun j v hj=>by rw[Nat.zero_add,bU.cell];exact hj⟩⟩,fun e he=>?_⟩;simp only[List.mem_cons,List.not_mem_nil,or_false] at he;subst he;exact HXOK.out.new nU
      have HBB:Hid (∀v,Kept (InRow A9) (wc.alloc (.cells #[.int .i64 x.f.k.i,.int .u8 (x.f.k.t:Nat),.string x.f.k.n,.int .i64 x.f.k.c,.slice x.A x.f.v.length x.c] 94)) v→Blk v g0 30 [.slice A9 e9.length c9]):=fun v hk=>
       (HE9.out.b0.alloc _).kept hk fun ⟨a,ha,e⟩=>(HE9.out.fo.1.at_ a ha).1.ne_of HE9.out.b0.at_ (by decide) e
      clear HXE
      gi_wp2_with (refine⟨trivial,?_⟩;gi_at_call 63;refine (CallsIn.inRound l (callsIn_wide.2 OW2.out)).mono ?_;rintro e w5 ⟨A2,c2,es2,rfl,hf2,ho2,hk2,ha2⟩;have f0:=(HBB.out _ hk2).free 0;have c0:=(HBB.out _ hk2).cell 0)
      have E6:=(HE9.out.new ((Kept.refl _ wc).alloc (.cells #[.int .i64 x.f.k.i,.int .u8 (x.f.k.t:Nat),.string x.f.k.n,.int .i64 x.f.k.c,.slice x.A x.f.v.length x.c] 94))).more hk2 ho2 (e9.length+(fts [(⟨⟨x.f.k,x.f.v⟩,x.A,x.c⟩:FE)]).length) (by rw[List.length_append,←fts_len es2,hf2]);exact FIN.out _ _ _ _ _ _ _ (by rw[fts_append,HO9.out,hf2,HGG.out];rfl) HLE9.out E6
     ·gi_wp2_with fail
      exact FIN.out _ _ _ _ _ _ _ (by rw[HO9.out,HGG.out,if_pos rfl,List.append_nil]) HLE9.out HE9.out
 case done=>
  rintro D xs W hD hS ⟨Ao,co,eo,Al,cl,el,h1,h2,h3,h4,h5,h6,h7,h8,h9,h10⟩ hK
  have HLAT:Hid (fts eo++fts el=apF (fts es) (cts cs)):=by rw[Hid,h7,h8];exact lat_ap HO.out hS
  have hle:eo.length+el.length≤n+n':=by
   have h0:=(RUN.out (xs.map chF)).1;rw[←h7,←h8,fts_len,fts_len,List.length_map] at h0;obtain⟨ds,e1,_,_,e4⟩:=hS;have h2:=congrArg List.length e4;have h3:=latC_len ds;rw[List.length_map] at h2;omega
  have b0:=h1.cell 0;have b1:=h2.cell 0;have OW:=jH (own_any Ao eo.length co eo Al el.length cl el w.heap.size W h3 rfl (fun u hu=>h4.new (h9.trans hu fun i hi ⟨a,ha,e⟩=>by have:=(h3.1.at_ a ha).2;omega)) h9.size (Nat.le_trans (Nat.mul_le_mul_right 64 hle) HB.out.1))
  have ND:Hid (∀a,Ao=some a→a.block≠D):=fun a ha e=>by
   obtain⟨cs,fr,ee⟩:=(h3.1.at_ a ha).1;rw[e,hK] at ee;cases ee
  have HN9:=jH h9;have HOW:=jH h3;have HD:=jH hD;clear h1 h2 h3 h4 h5 h6 h7 h8 h9 h10 hS hD
  gi_wp2_with (refine⟨trivial,?_⟩;gi_at_call 63;refine (callsIn_wide.2 OW.out).mono ?_;rintro e w4 ⟨A2,c2,es2,rfl,hf,ho,hk,ha⟩)
  have hK':w4.heap[D]?=some (.deferred (some [])):=(hk.block D (Array.getElem?_eq_some_iff.1 hK).1 fun ⟨a,ha,e⟩=>ND.out a ha e).trans hK
  have N4:New w w4:=HN9.out.trans hk fun i hi ⟨a,ha,e⟩=>by have:=(HOW.out.1.at_ a ha).2;omega
  have hD2:w.heap.size≤D:=Nat.le_trans N0.out.size HD.out;refine⟨by simp,.inl ⟨_,_,rfl,run_takeDeferred hK',?_⟩⟩;refine⟨_,results_tmp rfl _ _ _,?_⟩;have hgp:=grownBy_putObj' w4 D (.deferred none)
  have kp:=kept_of_own (B:=w.heap.size) hgp fun r e=>by cases e;exact⟨hD2,_,hK',rfl⟩
  refine⟨A2,c2,eo++es2,?_,?_,?_,N4.trans kp fun i hi hs=>by have:=hs.1;omega⟩
  ·rw[List.length_append,←fts_len es2,hf]
   rfl
  ·rw[fts_append,hf,HLAT.out,HO.out,if_pos rfl]
  ·exact⟨ho.1.kept kp fun a ha=>(ho.1.at_ a ha).1.cells,fun e he=>⟨(ho.2 e he).1.kept kp fun a ha=>((ho.2 e he).1.at_ a ha).1.cells,(ho.2 e he).2⟩⟩
 case stop=>
  rintro D c pre W _ _ h _;exact h.elim
end
end Go.Proofs.YtbiihjdjbknibaaGreat
