/-
  Layer 7: contracts (Oc Od Oq Oe).
-/
import Derived.Test.YtbiihjdjbknibaaGreatC38
import Derived.Test.YtbiihjdjbknibaaGreatC37
import Derived.Test.YtbiihjdjbknibaaGreatRows
import Derived.Deep.CondSized
namespace Go.Proofs.YtbiihjdjbknibaaGreat
set_option maxRecDepth 100000
set_option maxHeartbeats 8000000
set_option linter.unusedSimpArgs false
set_option linter.unusedVariables false
section
set_option maxRecDepth 100000
open Go.ChangeShapes Go.WideShapes Go.ChangeAt Go.RowKit
end
section
set_option maxRecDepth 100000
open Go.ChangeShapes Go.WideShapes Go.ChangeAt Go.RowKit
theorem same_new (A B:Option Addr) (n m c d:Nat) (l k:List Nat) (r:Bool) (h:decide (l=k)=r) (hn:n≤maxLen) (u:World) (ha:Bts u A n l) (hb:Bts u B m k):
  Calls Tryz.prog 30 #[.slice A n c,.slice B m d] u fun e w'=>e=.returned (.bool r)∧Below u.heap.size u w':=
 (same_any A B n m c d l k u ha hb hn).mono fun e w' hh=>by
  obtain⟨z,he,hw⟩:=hh;exact⟨by rw[he,h],by rw[hw];exact (kR.drewN z).below⟩
end
section
set_option maxRecDepth 100000
section
open Go.ChangeShapes Go.WideShapes Go.ChangeAt Go.RowKit
def OwnR (w:World) (B:Nat) (A:Option Addr) (c n:Nat):Prop:=
 (A=none∧c=0∧n=0)∨∃(g:Nat) (xs:List Nat),A=some ⟨g,0,none⟩∧B≤g∧Blk w g 5 (xs.map byt)∧(∀x∈xs,x < 256)∧xs.length=c∧n≤c∧c≤maxLen
theorem OwnR.kept {S:Nat→Prop} {w w':World} {B c n:Nat} {A:Option Addr} (h:OwnR w B A c n) (hk:Kept S w w') (hn:∀a,A=some a→¬S a.block):OwnR w' B A c n:=by
 rcases h with h|⟨g,xs,rfl,h1,h2,h3⟩
 ·exact .inl h
 ·exact .inr ⟨g,xs,rfl,h1,h2.kept hk (hn _ rfl),h3⟩
theorem OwnR.at_ {w:World} {B c n:Nat} {A:Option Addr} (h:OwnR w B A c n):∀a,A=some a→At w a.block 5∧B≤a.block:=by
 rintro a rfl
 rcases h with ⟨h,_⟩|⟨g,xs,h,hB,hblk,_⟩
 ·cases h
 ·injection h with h;subst h;exact⟨hblk.at_,hB⟩
end
section
open Go.ChangeShapes Go.WideShapes Go.ChangeAt Go.RowKit
def COwn (w:World) (B:Nat) (A:Option Addr) (c:Nat) (es:List CE):Prop:=
 OwnV w 105 6 B A es.length c (ces es)∧∀e∈es,OwnB w 5 B e.A e.c e.f.v∧e.f.v.length≤140737488351232∧e.f.k.n.size≤maxLen
theorem cts_lenE (es:List CE):(cts es).length=es.length:=by unfold cts;rw[List.length_map]
section
variable {w w':World} {A:Option Addr} {c B:Nat} {es:List CE}
theorem COwn.nil (w:World) (B:Nat):COwn w B none 0 []:=⟨OwnV.nil _ _ _ _,by simp⟩
theorem COwn.new (h:COwn w B A c es) (hk:New w w'):COwn w' B A c es:=⟨h.1.new hk,fun e he=>⟨(h.2 e he).1.new hk,(h.2 e he).2⟩⟩
theorem COwn.in_ (h:COwn w B A c es):CIn w A es.length es:=by
 refine⟨h.1.row,fun e he=>?_⟩;obtain⟨h1,h2,h3⟩:=h.2 e he;refine⟨h1.bts,fun hA=>?_,h2,h3⟩
 rcases h1.2 with ⟨_,e1,e2⟩|⟨g,sp,e1,_⟩
 ·exact⟨e1,by rw[e2];rfl⟩
 ·rw[hA] at e1;cases e1
theorem COwn.none (h:COwn w B A c es) (hA:A=none):c=0∧es.length=0:=by
 obtain⟨_,h2,_,h4⟩:=h.1
 rcases h4 with ⟨_,h⟩|⟨g,sp,h,_⟩
 ·omega
 ·rw[hA] at h;cases h
theorem COwn.more {w5 w7:World} {B k:Nat} {A A2:Option Addr} {c c2:Nat} {es:List CE} {x:CT} {A4:Option Addr} {c4:Nat} (h:COwn w5 B A c es) (o4:OwnB w7 5 B A4 c4 x.v)
  (hx:x.v.length≤140737488351232∧x.k.n.size≤maxLen) (k7:Kept (InRow A) w5 w7) (hk:es.length=k)
  (o7:OwnV w7 105 6 B A2 (k+1) c2 (ces es++[.int .i64 x.k.i,.int .u8 (x.k.t:Nat),.string x.k.n,.int .i64 x.k.c,.slice A4 x.v.length c4,.bool x.g])):COwn w7 B A2 c2 (es++[⟨x,A4,c4⟩]):=by
 refine⟨?_,fun e he=>?_⟩
 ·rw[List.length_append,ces_append,hk];exact o7
 ·rcases List.mem_append.1 he with he|he
  ·obtain⟨h1,h2⟩:=h.2 e he;refine⟨h1.kept k7 fun a ha hr=>?_,h2⟩;obtain⟨b,hb,e2⟩:=hr;exact (h1.at_ a ha).1.ne_of (e2 ▸ (h.1.at_ b hb).1) (by decide) rfl
  ·simp only[List.mem_cons,List.not_mem_nil,or_false] at he;subst he;exact⟨o4,hx⟩
end
theorem changes0_yes (A B:Option Addr) (n m c d:Nat) (es fs:List CE) (w:World) (ha:CIn w A n es) (hb:CIn w B m fs) (hn:n≤maxLen) (hef:cts es=cts fs):
  Calls Tryz.prog 16 #[.slice A n c,.slice B m d] w (True1 w):=by
 obtain rfl:n=m:=by rw[←ha.len,←hb.len,←cts_lenE,hef,cts_lenE]
 have HE:=jH hef;have HA:=jH ha;have HB:=jH hb;unfold maxLen at hn;clear ha hb hef;go_enter Tryz.func16,Tryz.ntmps16;go_wp2_with fail
 go_loopw [5] (fun i wr=>∃k:Nat,k≤n∧i=.int .i64 k∧Hid (New w wr)) (fun i _=>n - (intOf i).toNat)
 case atStart=>exact⟨0,Nat.zero_le _,rfl,kR⟩
 case round=>
  obtain⟨k,hk,rfl,HN⟩:=hrel
  by_cases hlt:k < n
  ·obtain⟨g,o,x,eA,hx,x0,x1,x2,x3,x4,x5⟩:=rowC_at (HA.out.new HN.out).1 (i:=k) hlt;obtain⟨g',o',y,eB,hy,y0,y1,y2,y3,y4,y5⟩:=rowC_at (HB.out.new HN.out).1 (i:=k) hlt;have okx:COk wr x:=(HA.out.new HN.out).2 x (List.mem_of_getElem? hx);have oky:COk wr y:=(HB.out.new HN.out).2 y (List.mem_of_getElem? hy);subst eA eB
   have hfx:(cts es)[k]?=some x.f:=by unfold cts;rw[List.getElem?_map,hx];rfl
   have hfy:(cts fs)[k]?=some y.f:=by unfold cts;rw[List.getElem?_map,hy];rfl
   have exy:x.f=y.f:=by rw[HE.out,hfy] at hfx;injection hfx with hfx;exact hfx.symm
   have s1:(0:Int)≤(k:Int):=by omega
   have s3:(k:Int) < (n:Int):=by omega
   obtain⟨xf,xA,xc⟩:=x;obtain⟨yf,yA,yc⟩:=y
   dsimp only at *
   subst exy;have BX:=jH okx.1;have BY:=jH oky.1;have hxl:Hid (xf.v.length≤maxLen):=Nat.le_trans okx.2.2.1 (by unfold maxLen;omega);clear hx hy hfx hfy okx oky
   have HNQ:∀u,Sem.run Tryz.prog (binOp .neq 92 (.agg #[.int .i64 xf.k.i,.int .u8 (xf.k.t:Nat),.string xf.k.n,.int .i64 xf.k.c]) (.agg #[.int .i64 xf.k.i,.int .u8 (xf.k.t:Nat),.string xf.k.n,.int .i64 xf.k.c])) u=.ok (.bool false) u:=fun u=>by rw[key_neq,decide_eq_true rfl];rfl
   have CS:=jH (fun (q:Nat) (os:Array Obj)=>Calls.regrown_of (d:=q) (os:=os) (same_new xA yA xf.v.length xf.v.length xc yc xf.v xf.v true (decide_eq_true rfl) hxl.out (Go.Sort.grow (redrawn wr q) os) (BX.out.new (new_regrown kR q os)) (BY.out.new (new_regrown kR q os))))
   have p0:=fun d os=>cell_regrown x0 d os
   have p1:=fun d os=>cell_regrown x1 d os
   have p2:=fun d os=>cell_regrown x2 d os
   have p3:=fun d os=>cell_regrown x3 d os
   have p4:=fun d os=>cell_regrown x4 d os
   have p5:=fun d os=>cell_regrown x5 d os
   have r0:=fun d os=>cell_regrown y0 d os
   have r1:=fun d os=>cell_regrown y1 d os
   have r2:=fun d os=>cell_regrown y2 d os
   have r3:=fun d os=>cell_regrown y3 d os
   have r4:=fun d os=>cell_regrown y4 d os
   have r5:=fun d os=>cell_regrown y5 d os
   clear x0 x1 x2 x3 x4 x5 y0 y1 y2 y3 y4 y5;go_wp2_with fail;refine wp_region_quiet_below (by kernel_rfl) (by kernel_rfl) ?_
   repeat (quiet_step (first
    | (go_at_call 30;exact CS.out _ _)))
   refine wpQuiet_nil ?_;intro _ hw';obtain⟨⟨dq,osq⟩,hw''⟩:=hw';subst hw'';have K9:Hid (New w (Go.Sort.grow (redrawn wr dq) osq)):=new_regrown HN.out dq osq;clear CS p0 p1 p2 p3 p4 p5 r0 r1 r2 r3 r4 r5 HNQ;go_wp2;go_roundw
   case rel=>exact⟨k+1,by omega,by go_num,K9⟩
   case measure=>simp[intOf];omega
  ·go_wp2;go_ret;exact⟨rfl,HN.out⟩
end
end
section
set_option maxRecDepth 100000
open Go.ChangeShapes Go.WideShapes Go.ChangeAt Go.RowKit Go.Deep
end
end Go.Proofs.YtbiihjdjbknibaaGreat
