/-
  Layer 7: contracts (Mf Mg Mh Mi Mj).
-/
import Derived.Test.YtbiihjdjbknibaaGreatC13
import Derived.Test.YtbiihjdjbknibaaGreatC29
import Derived.RangeFuncNested
import Derived.RangeFuncLeaves
import Derived.OwnWalkIn
import Derived.TacticsInMore
import Derived.LoopNIn
import Derived.LoopIn
import Derived.Sort.QuietTacIn
import Derived.Sort.QuietIn
import Derived.Sort.BigQuietIn
namespace Go.Proofs.YtbiihjdjbknibaaGreat
set_option maxRecDepth 100000
set_option maxHeartbeats 8000000
set_option linter.unusedSimpArgs false
set_option linter.unusedVariables false
section
set_option maxRecDepth 100000
open Go.RowKit
theorem info_fact:(Tryz.prog.info? 94).map (fun i=>(i.zero,i.size,i.bytes))=some (some (.agg #[.int .i64 0,.int .u8 0,.string ⟨#[]⟩,.int .i64 0,.slice none 0 0]),5,64):=by kernel_rfl
theorem step_append_fact {w wb:World} {ops:Array Oper} {o:Oper} {a:Act} {K:Act→World→Prop} {Q:Exit→Act→World→Prop} {E:Prop} (hgd:o.guard=none) (s x:Operand)
  (ho:o.op=.call { callee:=.builtin .append,args:=#[s,x],argTypes:=#[30,30] })
  (B:Nat) (A:Option Addr) (k ch:Nat) (vs:List Value) (hsv:a.eval s=.slice A k ch) (hown:OwnV wb 94 5 B A k ch vs) (hk:New wb w)
  (g c':Nat) (us:List Value) (hx:a.eval x=.slice (some ⟨g,0,none⟩) 1 c') (hb:Blk w g 94 us) (hul:us.length=5) (h1:∀u∈us,u.oneCell'=true) (hn:(k+1)*64≤140737488355328) (hbase:B≤wb.heap.size)
  (h:∀A2 c2 w',Hid (OwnV w' 94 5 B A2 (k+1) c2 (vs++us))→Hid (Kept (InRow A) wb w')→Hid (A2=A∨∃y,A2=some y∧wb.heap.size≤y.block)→Hid (Kept (InRow A) w w')→K (a.put o.dst (.slice A2 (k+1) c2)) w'):
  if Region.wanted o (yielded ops a.tmps)=true then Oper.wp Tryz.prog o a w K Q else E:=by
 obtain⟨i0,hi,hz0,hz1,hz2⟩:=info_parts info_fact
 have hr:RowV w (some ⟨g,0,none⟩) 1 i0.size us:=by
  rw[hz1];exact⟨by rw[hul],fun _=>⟨g,0,rfl,fun j v hj=>by rw[Nat.zero_add,hb.cell];exact hj⟩⟩
 have ho':OwnV w 94 i0.size B A k ch vs:=by rw[hz1];exact hown.new hk
 refine step_append_rowV w hgd s x 30 ho 94 i0 (.agg #[.int .i64 0,.int .u8 0,.string ⟨#[]⟩,.int .i64 0,.slice none 0 0]) Tryz.underlying30 hi hz0 (by rw[hz1];rfl) (by rw[hz1];omega) B A k ch vs hsv ho' (some ⟨g,0,none⟩) 1 c' us hx hr h1 (by rw[hz2];omega) (by omega) (Nat.le_trans hbase hk.size) ?_;intro A2 c2 w' h3 h4 h5;refine h A2 c2 w' (by have:=h3.out;rw[hz1] at this;exact this) ?_ ?_ ?_
 ·refine (hk.mono (S':=InRow A) fun _ _ f=>f.elim).grown h4.out fun q _ hA=>?_
  obtain⟨a,ha,e⟩:=Option.map_eq_some_iff.1 hA;exact⟨a,ha,e⟩
 ·rcases h5.out with e|e
  ·exact .inl e
  ·exact .inr ⟨_,e,hk.size⟩
 ·refine (Kept.refl (InRow A) w).grown h4.out fun q _ hA=>?_
  obtain⟨a,ha,e⟩:=Option.map_eq_some_iff.1 hA;exact⟨a,ha,e⟩
def OwnFP (w:World) (B:Nat) (Ao:Option Addr) (eo:List FE) (l:List FT) (e:Ending) (w':World):Prop:=
 ∃A2 c2 es2,e=.returned (.slice A2 (eo.length+l.length) c2)∧fts es2=l∧FOwn w' B A2 c2 (eo++es2)∧Kept (InRow Ao) w w'∧(∀a,A2=some a→InRow Ao a.block∨w.heap.size≤a.block)
theorem fts_len (es:List FE):(fts es).length=es.length:=by unfold fts;rw[List.length_map]
theorem fts_append (a b:List FE):fts (a++b)=fts a++fts b:=by unfold fts;rw[List.map_append]
theorem FOwn.more {w5 w7:World} {B k:Nat} {A A2:Option Addr} {c c2:Nat} {es:List FE} {x:FT} {A4:Option Addr} {c4:Nat} (h:FOwn w5 B A c es) (o4:OwnB w7 5 B A4 c4 x.v)
  (hx:x.v.length≤140737488351232∧x.k.n.size≤maxLen) (k7:Kept (InRow A) w5 w7) (hk:es.length=k)
  (o7:OwnV w7 94 5 B A2 (k+1) c2 (fes es++[.int .i64 x.k.i,.int .u8 (x.k.t:Nat),.string x.k.n,.int .i64 x.k.c,.slice A4 x.v.length c4])):FOwn w7 B A2 c2 (es++[⟨x,A4,c4⟩]):=by
 refine⟨?_,fun e he=>?_⟩
 ·rw[List.length_append,fes_append,hk];exact o7
 ·rcases List.mem_append.1 he with he|he
  ·obtain⟨h1,h2⟩:=h.2 e he;refine⟨h1.kept k7 fun a ha hr=>?_,h2⟩;obtain⟨b,hb,e2⟩:=hr;exact (h1.at_ a ha).1.ne_of (e2 ▸ (h.1.at_ b hb).1) (by decide) rfl
  ·simp only[List.mem_cons,List.not_mem_nil,or_false] at he;subst he;exact⟨o4,hx⟩
theorem own_any (Ao:Option Addr) (m co:Nat) (eo:List FE) (A:Option Addr) (n c:Nat) (es:List FE) (B:Nat) (w:World) (ho:FOwn w B Ao co eo) (hm:eo.length=m) (hl:∀u,Kept (InRow Ao) w u→FIn u A n es)
  (hB:B≤w.heap.size) (hbytes:(m+n)*64≤140737488355328):
  Calls Tryz.prog 63 #[.slice Ao m co,.slice A n c] w (OwnFP w B Ao eo (fts es)):=by
 have HLE:Hid (es.length=n):=(hl w kR).len;have HL:=jH hl;have HM:=jH hm;have HO:=jH ho;clear hl hm ho;go_enter Tryz.func63,Tryz.ntmps63;go_wp2_with fail
 go_loopw [0,9] (fun o i wr=>∃(k:Nat) (A':Option Addr) (c':Nat) (es':List FE),k≤n∧i=.int .i64 k∧o=.slice A' (m+k) c'∧Hid (FOwn wr B A' c' (eo++es'))∧Hid (fts es'=(fts es).take k)∧Hid (Kept (InRow Ao) w wr)∧Hid (∀a,A'=some a→InRow Ao a.block∨w.heap.size≤a.block)) (fun _ i _=>n - (intOf i).toNat)
 case atStart=>exact⟨0,Ao,co,[],Nat.zero_le _,rfl,rfl,by simpa using HO,by simp[Hid,fts],kR,fun a ha=>.inl ⟨a,ha,rfl⟩⟩
 case round=>
  obtain⟨k,A',c',es',hk,rfl,rfl,VO,VF,VK,VA⟩:=hrel
  by_cases hlt:k < n
  ·obtain⟨g,o,x,eA,hx,hok,x0,x1,x2,x3,x4⟩:=(HL.out wr VK.out).at_ (i:=k) hlt;subst eA
   have HLN:Hid ((eo++es').length=m+k):=by
    have h1:=congrArg List.length VF.out;rw[fts_len,List.length_take,fts_len,HLE.out] at h1;rw[Hid,List.length_append,HM.out,h1];omega
   have HX:Hid (fts es'++[x.f]=(fts es).take (k+1)):=by
    have:(fts es)[k]?=some x.f:=by unfold fts;rw[List.getElem?_map,hx];rfl
    rw[Hid,List.take_add_one,this,VF.out]
    rfl
   have HOK:=jH hok;have hgl:g < wr.heap.size:=World.block_lt_of_cell? wr _ x0;obtain⟨fx,Ax,cx⟩:=x;obtain⟨kx,vx⟩:=fx
   dsimp only at *
   obtain⟨w5,hw5⟩:∃w5,w5=wr.alloc (.cells #[.int .i64 kx.i,.int .u8 (kx.t:Nat),.string kx.n,.int .i64 kx.c,.slice Ax vx.length cx] 94):=⟨_,rfl⟩
   have n5:New wr w5:=by rw[hw5];exact kR.alloc _
   have B5:Hid (∀u,New w5 u→Blk u wr.heap.size 94 [.int .i64 kx.i,.int .u8 (kx.t:Nat),.string kx.n,.int .i64 kx.c,.slice Ax vx.length cx]):=fun u hu=>by rw[hw5] at hu;exact (Blk.made wr _ _).kept hu id
   have V5:=jH (VO.out.new n5);have K5:=jH (VK.out.new n5)
   have CL:Hid (∀u,New w5 u→Calls Tryz.prog 40 #[.slice Ax vx.length cx] u (RetL u vx)):=fun u hu=>
    clone_any Ax vx.length cx vx u ((HOK.out.1.new n5).new hu) HOK.out.2.2.1 HOK.out.2.1
   have hB5:B≤w5.heap.size:=Nat.le_trans hB K5.out.size;have HW5:=jH hw5
   have hbt:(m+k+1)*64≤140737488355328:=by omega
   clear hw5 n5 hx hok VO VK;go_wp2_with fail;rw[←HW5.out];clear HW5 x0 x1 x2 x3 x4;generalize wr.heap.size=g5 at *
   have V5r:Hid (OwnV w5 94 5 B A' (m+k) c' (fes (eo++es'))):=by have:=V5.out.1;rw[HLN.out] at this;exact this
   have S5:Hid (∀u,New w5 u→u.cell? ⟨g5,0,none⟩=some (.int .i64 kx.i)∧u.cell? ⟨g5,1,none⟩=some (.int .u8 (kx.t:Nat))∧u.cell? ⟨g5,2,none⟩=some (.string kx.n)∧u.cell? ⟨g5,3,none⟩=some (.int .i64 kx.c)∧u.cell? ⟨g5,4,none⟩=some (.slice Ax vx.length cx)):=fun u hu=>
    ⟨(B5.out u hu).cell 0,(B5.out u hu).cell 1,(B5.out u hu).cell 2,(B5.out u hu).cell 3,(B5.out u hu).cell 4⟩
   obtain⟨q0,q1,q2,q3,q4⟩:=S5.out w5 kR
   have ONE:Hid (∀(A4:Option Addr) (c4:Nat),∀u∈[Value.int .i64 kx.i,.int .u8 (kx.t:Nat),.string kx.n,.int .i64 kx.c,.slice A4 vx.length c4],u.oneCell'):=by intro A4 c4 u hu;simp at hu;rcases hu with rfl|rfl|rfl|rfl|rfl<;>rfl
   have MK:Hid (∀(wC:World) (A4:Option Addr) (c4:Nat),Blk (wC.alloc (.cells #[.int .i64 kx.i,.int .u8 (kx.t:Nat),.string kx.n,.int .i64 kx.c,.slice A4 vx.length c4] 94)) wC.heap.size 94 [.int .i64 kx.i,.int .u8 (kx.t:Nat),.string kx.n,.int .i64 kx.c,.slice A4 vx.length c4]):=fun wC A4 c4=>Blk.made wC _ _
   have HOK2:Hid (vx.length≤140737488351232∧kx.n.size≤maxLen):=HOK.out.2.2;have hg5:g5 < w5.heap.size:=(B5.out w5 kR).lt;clear HOK
   go_region_law (first
    | (with_reducible refine step_append_fact (wb:=w5) (o:=⟨some 21,_,_,_,_,_⟩) rfl (.tmp 13) (.tmp 20) rfl B A' (m+k) c' (fes (eo++es')) ?_ V5r.out (by first|exact NC.out.alloc _|exact (NC.out.alloc _).drew) wC.heap.size 1 [.int .i64 kx.i,.int .u8 (kx.t:Nat),.string kx.n,.int .i64 kx.c,.slice A4 vx.length c4] ?_ (by first|exact MK.out wC A4 c4|exact (MK.out wC A4 c4).drew) rfl (ONE.out A4 c4) hbt hB5 ?_;(next=>go_simp);(next=>go_simp);intro A7 c7 w7 O7 K7 D7 K8)
    | (go_simp;go_at_call 40;refine (CL.out _ (by first|exact kR|exact kR.drew)).mono ?_;rintro e wC ⟨A4,c4,rfl,o4,k4⟩;have NC:Hid (New w5 wC):=(by first|exact k4|exact kR.drew.new k4);have O4:Hid (OwnB wC 5 B A4 c4 vx):=o4.mono hB5;clear o4 k4;obtain⟨s0,s1,s2,s3,s4⟩:=S5.out wC NC.out))
   all_goals
    have O8:Hid (OwnB w7 5 B A4 c4 vx):=(O4.out.new (w':=wC.alloc (.cells #[.int .i64 kx.i,.int .u8 (kx.t:Nat),.string kx.n,.int .i64 kx.c,.slice A4 vx.length c4] 94)) (kR.alloc _)).kept (S:=InRow A')
     (by first|exact K8.out|exact ((Kept.refl (InRow A') _).drew.trans K8.out fun _ _ h=>h)) fun a ha ⟨b,hb,e2⟩=>(O4.out.at_ a ha).1.ne_of (e2 ▸ ((V5r.out.new NC.out).at_ b hb).1) (by decide) rfl
    have E1:Hid (FOwn w7 B A7 c7 (eo++(es'++[⟨⟨kx,vx⟩,A4,c4⟩]))):=by
     rw[←List.append_assoc];exact FOwn.more V5.out O8.out HOK2.out K7.out HLN.out O7.out
    have E2:Hid (fts (es'++[⟨⟨kx,vx⟩,A4,c4⟩])=(fts es).take (k+1)):=by rw[Hid,fts_append];exact HX.out
    have E3:Hid (Kept (InRow Ao) w w7):=K5.out.trans K7.out fun i hi ⟨b,hb,e2⟩=>by
     rcases VA.out b hb with h1|h1
     ·rwa [e2] at h1
     ·omega
    have E4:Hid (∀a,A7=some a→InRow Ao a.block∨w.heap.size≤a.block):=by
     intro a ha
     rcases D7.out with e|⟨y,e,hy⟩
     ·exact VA.out a (e ▸ ha)
     ·rw[e] at ha
      injection ha with ha
      subst ha;exact .inr (Nat.le_trans K5.out.size hy)
    clear O7 K7 D7 K8 O4 O8 V5 V5r NC VA VF s0 s1 s2 s3 s4;go_wp2;go_roundw
    case rel=>exact⟨k+1,A7,c7,_,by omega,by go_num,by rw[Nat.add_assoc],E1,E2,E3,E4⟩
    case measure=>simp[intOf];omega
  ·have hkn:k=n:=by omega
   have E9:Hid (OwnFP w B Ao eo (fts es) (.returned (.slice A' (m+k) c')) wr):=by
    have hf:=VF.out;rw[List.take_of_length_le (by rw[fts_len,HLE.out];omega)] at hf;refine⟨A',c',es',?_,hf,VO.out,VK.out,VA.out⟩;rw[HM.out,fts_len,HLE.out,hkn]
   clear VO VF VK VA;go_wp2;go_ret;exact E9.out
end
section
set_option maxRecDepth 100000
open Go.RowKit
theorem ft_eq {a b:FT} (h1:a.k=b.k) (h2:a.v=b.v):a=b:=by cases a;cases b;simp_all
instance:DecidableEq FT:=fun a b=>decidable_of_iff (a.k=b.k∧a.v=b.v) ⟨fun h=>ft_eq h.1 h.2,fun h=>by rw[h];exact⟨rfl,rfl⟩⟩
end
section
set_option maxRecDepth 100000
open Go.RowKit
theorem info_change:(Tryz.prog.info? 105).map (fun i=>(i.zero,i.size,i.bytes))=some (some (.agg #[.int .i64 0,.int .u8 0,.string ⟨#[]⟩,.int .i64 0,.slice none 0 0,.bool false]),6,72):=by kernel_rfl
structure CE where
 f:CT
 A:Option Addr
 c:Nat
def CE.cells (e:CE):List Value:=kcells e.f.k++[.slice e.A e.f.v.length e.c,.bool e.f.g]
def ces:List CE→List Value
 | []=>[]
 | e::r=>e.cells++ces r
theorem ce_len (e:CE):e.cells.length=6:=rfl
theorem ces_len:∀(es:List CE),(ces es).length=es.length*6
 | []=>rfl
 | e::r=>by simp only[ces,List.length_append,ce_len,ces_len r,List.length_cons];omega
theorem ces_append:∀(a b:List CE),ces (a++b)=ces a++ces b
 | [],b=>rfl
 | e::a,b=>by simp only[List.cons_append,ces,ces_append a b,List.append_assoc]
theorem ces_at:∀(es:List CE) (i j:Nat) (e:CE) (u:Value),es[i]?=some e→j < 6→e.cells[j]?=some u→(ces es)[i*6+j]?=some u
 | [],i,j,e,u,h,_,_=>by simp at h
 | x::r,0,j,e,u,h,hj,hu=>by
  simp at h;subst h;simp only[ces,Nat.zero_mul,Nat.zero_add];rw[List.getElem?_append_left (by rw[ce_len];exact hj)];exact hu
 | x::r,i+1,j,e,u,h,hj,hu=>by
  simp only[ces];rw[List.getElem?_append_right (by rw[ce_len];omega),ce_len,show (i+1)*6+j - 6=i*6+j by omega];exact ces_at r i j e u (by simpa using h) hj hu
theorem ces_one:∀(es:List CE),∀u∈ces es,u.oneCell'=true
 | [],u,h=>by simp[ces] at h
 | e::r,u,h=>by
  rcases List.mem_append.1 h with h|h
  ·simp[CE.cells,kcells] at h
   rcases h with rfl|rfl|rfl|rfl|rfl|rfl<;>rfl
  ·exact ces_one r u h
def COk (w:World) (e:CE):Prop:=Bts w e.A e.f.v.length e.f.v∧(e.A=none→e.c=0∧e.f.v.length=0)∧e.f.v.length≤140737488351232∧e.f.k.n.size≤maxLen
def CIn (w:World) (A:Option Addr) (n:Nat) (es:List CE):Prop:=RowV w A n 6 (ces es)∧∀e∈es,COk w e
section
variable {S:Nat→Prop} {w w':World} {A:Option Addr} {n c B:Nat} {es:List CE}
theorem COk.kept {e:CE} (h:COk w e) (hk:Kept S w w') (hn:∀a,e.A=some a→¬S a.block):COk w' e:=⟨h.1.kept hk hn,h.2⟩
theorem COk.new {e:CE} (h:COk w e) (hk:New w w'):COk w' e:=h.kept hk fun _ _ f=>f
theorem CIn.new (h:CIn w A n es) (hk:New w w'):CIn w' A n es:=⟨h.1.new hk,fun e he=>(h.2 e he).new hk⟩
theorem CIn.len (h:CIn w A n es):es.length=n:=by have:=h.1.1;rw[ces_len] at this;omega
theorem CIn.drewN (h:CIn w A n es) (q:Nat):CIn (w.drewN q) A n es:=h.new (kR.drewN q)
theorem CIn.nil (w:World) (A:Option Addr):CIn w A 0 []:=⟨RowV.nil w A 6,by simp⟩
theorem rowC_at {i:Nat} (h:RowV w A n 6 (ces es)) (hi:i < n):∃(g o:Nat) (e:CE),A=some ⟨g,o,none⟩∧es[i]?=some e ∧
  w.cell? ⟨g,o+i*6,none⟩=some (.int .i64 e.f.k.i)∧w.cell? ⟨g,o+i*6+1,none⟩=some (.int .u8 (e.f.k.t:Nat))∧w.cell? ⟨g,o+i*6+2,none⟩=some (.string e.f.k.n) ∧
  w.cell? ⟨g,o+i*6+3,none⟩=some (.int .i64 e.f.k.c)∧w.cell? ⟨g,o+i*6+4,none⟩=some (.slice e.A e.f.v.length e.c)∧w.cell? ⟨g,o+i*6+5,none⟩=some (.bool e.f.g):=by
 have hl:es.length=n:=by have:=h.1;rw[ces_len] at this;omega
 obtain⟨h1,h2⟩:=h;obtain⟨g,o,rfl,hat⟩:=h2 (by omega)
 have hi':i < es.length:=by omega
 have he:es[i]?=some es[i]:=List.getElem?_eq_getElem hi'
 have key:∀j u,j < 6→es[i].cells[j]?=some u→w.cell? ⟨g,o+i*6+j,none⟩=some u:=fun j u hj hu=>by
  rw[Nat.add_assoc];exact hat _ _ (ces_at es i j _ u he hj hu)
 exact⟨g,o,es[i],rfl,he,key 0 _ (by omega) rfl,key 1 _ (by omega) rfl,key 2 _ (by omega) rfl,key 3 _ (by omega) rfl,key 4 _ (by omega) rfl,key 5 _ (by omega) rfl⟩
end
def cts (es:List CE):List CT:=es.map (·.f)
def RetC (w:World) (n:Nat) (es:List CE) (e:Ending) (w':World):Prop:=
 ∃A c,e=.returned (.slice A n c)∧OwnV w' 105 6 w.heap.size A n c (ces es)∧New w w'
theorem cloneChanges_any (A:Option Addr) (n c:Nat) (es:List CE) (w:World) (ha:RowV w A n 6 (ces es)) (hn:n*72≤140737488351232) (hA:A=none→c=0∧n=0):
  Calls Tryz.prog 92 #[.slice A n c] w (RetC w n es):=by
 obtain⟨i0,hi,hz0,hz1,hz2⟩:=info_parts info_change
 have hq:=fun w a n c=>Lib.run_eql_slice_nil (P:=Tryz.prog) w 44 105 a n c 0 0 Tryz.underlying44
 have H1:=jH (ces_one es)
 rcases A with _|a
 ·obtain⟨rfl,rfl⟩:=hA rfl;have h0:ces es=[]:=List.eq_nil_of_length_eq_zero (by simpa using ha.1);have E:Hid (RetC w 0 es (.returned (.slice none 0 0)) w):=⟨none,0,rfl,by rw[h0];exact OwnV.nil _ _ _ _,kR⟩;clear hA ha;go_enter Tryz.func92,Tryz.ntmps92;go_wp2;go_ret;exact E.out
 ·have Ha:=jH ha;have Hz:Hid (6=i0.size):=hz1.symm;clear hA ha;go_enter Tryz.func92,Tryz.ntmps92
  go_wp2_with (at_builtin;refine wpList_append_rowV _ rfl _ _ _ rfl 105 i0 (.agg #[.int .i64 0,.int .u8 0,.string ⟨#[]⟩,.int .i64 0,.slice none 0 0,.bool false]) Tryz.underlying44 hi hz0 ?_ ?_ w.heap.size (some ⟨w.heap.size,0,none⟩) 0 0 [] rfl ?_ (some a) n c (ces es) rfl ?_ H1.out ?_ ?_ ?_ ?_)
  ·rw[←Hz.out];rfl
  ·rw[←Hz.out];omega
  ·exact⟨by simp,Nat.le_refl _,by simp,.inr ⟨_,[],rfl,Nat.le_refl _,Blk.made w 105 #[],by simp⟩⟩
  ·rw[←Hz.out];exact Ha.out.new (kR.alloc _)
  ·rw[hz2];omega
  ·omega
  ·simp
  intro A2 c2 w2 hown hg _;go_wp2;go_ret;exact⟨A2,c2,by simp,by simpa [Hz.out.symm] using hown.out,(kR.alloc _).grown hg.out (by simp;omega)⟩
end
section
set_option maxRecDepth 100000
open Go.ChangeShapes Go.WideShapes Go.ChangeAt Go.RowKit
def ordC:List CT→Prop
 | []=>True
 | c::r=>(∀d∈r,befK d.k c.k=false)∧ordC r
def SortP (w:World) (B:Nat) (A:Option Addr) (n c:Nat) (es:List CE) (e:Ending) (w':World):Prop:=
 e=.returned (.tuple #[])∧∃ds,ds.length=n∧ordC (cts ds)∧(∀k,ds.filter (fun d=>decide (d.f.k=k))=es.filter (fun d=>decide (d.f.k=k)))∧OwnV w' 105 6 B A n c (ces ds)∧Kept (InRow A) w w'
def SortC (n:Nat):Prop:=∀(B:Nat) (A:Option Addr) (c:Nat) (es:List CE) (w:World),es.length=n→OwnV w 105 6 B A n c (ces es)→n≤maxLen →
 Calls Tryz.prog 93 #[.slice A n c,.func (.func 94) #[] #[]] w (SortP w B A n c es)
theorem SortP.same {w:World} {B n c:Nat} {A:Option Addr} {es:List CE} (hl:es.length=n) (ho:OwnV w 105 6 B A n c (ces es)) (hn:n≤1):SortP w B A n c es (.returned (.tuple #[])) w:=by
 refine⟨rfl,es,hl,?_,fun _=>rfl,ho,kR⟩
 rcases es with _|⟨e,_|⟨e',r⟩⟩
 ·trivial
 ·exact⟨by simp,trivial⟩
 ·simp at hl;omega
theorem ins_one (A:Option Addr) (n c:Nat) (w:World) (hn:n≤1):
  Calls Tryz.prog 136 #[.slice A n c,.int .i64 0,.int .i64 (n:Nat),.func (.func 94) #[] #[]] w (fun e w'=>e=.returned (.tuple #[])∧w'=w):=by
 have j1:decide ((1:Int) < (n:Int))=false:=decide_eq_false (by omega);go_enter Tryz.func136,Tryz.ntmps136;go_wp2_with fail;refine wp_loop_rounds 1 ?_;rw[rounds_succ];go_wp2
 go_end0
 exact⟨rfl,rfl⟩
theorem stable_one (A:Option Addr) (n c:Nat) (w:World) (hn:n≤1):
  Calls Tryz.prog 113 #[.slice A n c,.int .i64 (n:Nat),.func (.func 94) #[] #[]] w (fun e w'=>e=.returned (.tuple #[])∧w'=w):=by
 have HN:=jH hn;have j1:decide ((20:Int)≤(n:Int))=false:=decide_eq_false (by omega);have j2:decide ((20:Int) < (n:Int))=false:=decide_eq_false (by omega);clear hn;go_enter Tryz.func113,Tryz.ntmps113;go_wp2_with fail;refine wp_loop_rounds 1 ?_;rw[rounds_succ];go_wp2_with fail;refine (ins_one A n c _ HN.out).mono ?_;rintro r w2 ⟨rfl,rfl⟩;go_wp2_with fail;refine wp_loop_rounds 1 ?_;rw[rounds_succ];go_wp2
 go_end0
 exact⟨rfl,rfl⟩
theorem sort_one {n:Nat} (hn:n≤1):SortC n:=by
 intro B A c es w hl ho _;have HR:=jH (SortP.same hl ho hn);have HN:=jH hn;clear hl ho hn;go_enter Tryz.func93,Tryz.ntmps93;go_wp2_with fail;refine (stable_one A n c _ HN.out).mono ?_;rintro r w2 ⟨rfl,rfl⟩;go_wp2
 go_end0
 exact HR.out
end
section
set_option maxRecDepth 100000
open Go.RowKit
def latC:List CE→List CE
 | []=>[]
 | [e]=>[e]
 | e::d::r=>if d.f.k=e.f.k then latC (d::r) else e::latC (d::r)
theorem latC_len:∀(l:List CE),(latC l).length≤l.length
 | []=>Nat.le_refl _
 | [_]=>Nat.le_refl _
 | e::d::r=>by
  have h:=latC_len (d::r);unfold latC
  split
  ·exact Nat.le_trans h (Nat.le_succ _)
  ·exact Nat.succ_le_succ h
theorem latC_same {l:List CE} {k:Nat} {x y:CE} (hx:l[k]?=some x) (hy:l[k+1]?=some y) (h:y.f.k=x.f.k):latC (l.drop k)=latC (l.drop (k+1)):=by
 obtain⟨h1,e1⟩:=List.getElem?_eq_some_iff.1 hx;obtain⟨h2,e2⟩:=List.getElem?_eq_some_iff.1 hy;rw[List.drop_eq_getElem_cons h1,List.drop_eq_getElem_cons h2,e1,e2]
 show (if y.f.k=x.f.k then _ else _)=_
 rw[if_pos h]
theorem latC_other {l:List CE} {k:Nat} {x y:CE} (hx:l[k]?=some x) (hy:l[k+1]?=some y) (h:¬y.f.k=x.f.k):latC (l.drop k)=x::latC (l.drop (k+1)):=by
 obtain⟨h1,e1⟩:=List.getElem?_eq_some_iff.1 hx;obtain⟨h2,e2⟩:=List.getElem?_eq_some_iff.1 hy;rw[List.drop_eq_getElem_cons h1,List.drop_eq_getElem_cons h2,e1,e2]
 show (if y.f.k=x.f.k then _ else _)=_
 rw[if_neg h]
theorem latC_last {l:List CE} {k:Nat} {x:CE} (hx:l[k]?=some x) (hk:l.length=k+1):latC (l.drop k)=x::latC (l.drop (k+1)):=by
 obtain⟨h1,e1⟩:=List.getElem?_eq_some_iff.1 hx;rw[List.drop_eq_getElem_cons h1,e1,List.drop_of_length_le (by omega)]
 rfl
def KpC (X Y:World):Prop:=X.heap.size≤Y.heap.size∧∀k,At X k 105→Y.heap[k]?=X.heap[k]?
theorem KpC.refl (X:World):KpC X X:=⟨Nat.le_refl _,fun _ _=>rfl⟩
theorem KpC.trans {X Y Z:World} (h:KpC X Y) (k:KpC Y Z):KpC X Z:=⟨Nat.le_trans h.1 k.1,fun i hi=>by
 have h1:=h.2 i hi;obtain⟨cs,fr,e⟩:=hi
 exact (k.2 i ⟨cs,fr,h1.trans e⟩).trans h1⟩
theorem KpC.new {X Y:World} (h:New X Y):KpC X Y:=⟨h.size,fun k hk=>h.block k hk.lt id⟩
theorem KpC.putObj {B:Nat} (W:World) (l:Nat) (o o':Obj) (_:B≤l) (h:W.heap[l]?=some o) (hc:o.isCells=false) (_:o.isWalk=false):KpC W (W.putObj l o'):=by
 refine⟨by simp,fun k hk=>World.putObj_heap_other ?_⟩;rintro rfl;obtain⟨cs,fr,e⟩:=hk;rw[h] at e
 injection e with e
 rw[e] at hc;cases hc
theorem KpC.own {X Y:World} {B n c:Nat} {A:Option Addr} {vs:List Value} (h:KpC X Y) (ho:OwnV X 105 6 B A n c vs):OwnV Y 105 6 B A n c vs:=by
 obtain⟨h1,h2,h3,ho⟩:=ho;refine⟨h1,h2,h3,?_⟩
 rcases ho with ho|⟨g,sp,e1,e2,e3,e4⟩
 ·exact .inl ho
 ·exact .inr ⟨g,sp,e1,e2,(h.2 g e3.at_).trans e3,e4⟩
theorem grown_of_new {X Y:World} (h:New X Y):X.grownBy Y none:=⟨h.os,h.tape,h.output,h.size,fun k hk _=>h.block k hk id⟩
def ceV (x:CE):Value:=.agg #[.int .i64 x.f.k.i,.int .u8 (x.f.k.t:Nat),.string x.f.k.n,.int .i64 x.f.k.c,.slice x.A x.f.v.length x.c,.bool x.f.g]
def LatS (es:List CE) (n:Nat) (xs:List {x:CE // x∈es}):Prop:=
 ∃ds:List CE,ds.length=n∧ordC (cts ds)∧(∀k,ds.filter (fun d=>decide (d.f.k=k))=es.filter (fun d=>decide (d.f.k=k)))∧xs.map (·.1)=latC ds
theorem mem_of_filters {ds es:List CE} (h:∀k,ds.filter (fun d=>decide (d.f.k=k))=es.filter (fun d=>decide (d.f.k=k))) {x:CE} (hx:x∈ds):x∈es:=by
 have:x∈ds.filter (fun d=>decide (d.f.k=x.f.k)):=List.mem_filter.2 ⟨hx,by simp⟩
 rw[h] at this;exact (List.mem_filter.1 this).1
theorem latest_any (A:Option Addr) (n c:Nat) (w:World):
  Calls Tryz.prog 61 #[.slice A n c] w fun e w'=>e=.returned (.func (.func 91) #[] #[.pointer (some ⟨w.heap.size,0,none⟩)])∧w'=w.alloc (.cells #[.slice A n c] 44):=by
 go_enter Tryz.func61,Tryz.ntmps61;go_wp2;go_ret;exact⟨rfl,rfl⟩
theorem latest1_in (m:Nat) (hm:1≤m) (l Bs:Nat) (A:Option Addr) (n c:Nat) (es:List CE) (hsort:SortC n) (hn:n*72≤140737488351232) (hA:A=none→c=0∧n=0) (hlen:es.length=n)
  (J Jx:List {x:CE // x∈es}→World→Prop) (W:World) (hJ:∀s X Y,J s X→New X Y→J s Y)
  (hY:∀pre x W1,J pre W1→pre.length < n→YieldAt Fence.wide (m - 1) Tryz.prog l #[ceV x.1] W1 fun e W'=>
   (e=.returned (.bool true)∧J (pre++[x]) W'∧KpC W1 W')∨(e=.returned (.bool false)∧Jx (pre++[x]) W'))
  (hBs:W.cell? ⟨Bs,0,none⟩=some (.slice A n c)) (ha:RowV W A n 6 (ces es)) (h0:J [] W):
  CallsIn Fence.wide m Tryz.prog 91 #[.func (.yield l) #[] #[],.pointer (some ⟨Bs,0,none⟩)] W fun e W'=>(∃v,e=.returned v) ∧
   ((∃xs,LatS es n xs∧J xs W')∨(∃pre,True∧Jx pre W')):=by
 refine callsIn_of_wp Tryz.func91 rfl trivial ?_ rfl;simp only[Tryz.ntmps91,List.size_toArray,List.length_cons,List.length_nil,Nat.reduceAdd,Nat.reduceSub,Array.replicate_succ,Array.replicate_zero,List.push_toArray,List.append_toArray,List.nil_append,List.cons_append];have HS:=jH hsort;have HYY:=jH hY;have HJ:=jH hJ;have HA0:=jH ha;have H0:=jH h0;have HL:=jH hlen;have HNA:Hid (n*72≤140737488351232∧(A=none→c=0∧n=0)):=⟨hn,hA⟩;clear hsort hY hJ ha h0 hlen hn hA
 gi_wp2_with (first
  | (refine⟨trivial,?_⟩;gi_at_call 92;refine (callsIn_wide.2 (cloneChanges_any A n c es W HA0.out HNA.out.1 HNA.out.2)).mono ?_;rintro e w1 ⟨A1,c1,rfl,h1,h2⟩;have HO1:=jH h1;have HK1:=jH h2;clear h1 h2)
  | (refine⟨trivial,?_⟩;gi_at_call 93;refine (callsIn_wide.2 (HS.out W.heap.size A1 c1 es w1 HL.out HO1.out (by unfold maxLen;have:=HNA.out.1;omega))).mono ?_;rintro e w2 ⟨rfl,ds,hd1,hd2,hd3,hd4,hd5⟩))
 have HKW:Hid (New W w2):=HK1.out.trans hd5 fun i hi ⟨a,ha,e⟩=>by
  have:=(HO1.out.at_ a ha).2
  omega
 have HJ2:Hid (J [] w2):=HJ.out _ _ _ H0.out HKW.out;have HD:=jH hd4;have HDL:Hid (ds.length=n):=hd1;have HD2:Hid (ordC (cts ds)):=hd2;have HD3:=jH hd3;have hn:=HNA.out.1;clear hd1 hd2 hd3 hd4 hd5 HKW HO1 HK1 HNA HS
 gi_loopw [12] (fun i wr=>∃(k:Nat) (pre:List {x:CE // x∈es}),k≤n∧i=.int .i64 k∧Hid (pre.map (·.1)++latC (ds.drop k)=latC ds)∧Hid (J pre wr)∧Hid (KpC w2 wr)) (fun i _=>n - (intOf i).toNat)
 case atStart=>exact⟨0,[],Nat.zero_le _,rfl,rfl,HJ2,KpC.refl _⟩
 case round=>
  obtain⟨k,pre,hk,rfl,VL,VJ,VK⟩:=hrel
  by_cases hlt:k < n
  ·obtain⟨g,o,x,eA,hx,x0,x1,x2,x3,x4,x5⟩:=rowC_at (VK.out.own HD.out).row hlt;subst eA;have HXM:Hid (x∈es):=mem_of_filters HD3.out (List.mem_of_getElem? hx);have HX:=jH hx;obtain⟨w5,hw5⟩:∃w5,w5=wr.alloc (.cells #[.int .i64 x.f.k.i,.int .u8 (x.f.k.t:Nat),.string x.f.k.n,.int .i64 x.f.k.c,.slice x.A x.f.v.length x.c,.bool x.f.g] 105):=⟨_,rfl⟩
   have n5:New wr w5:=by rw[hw5];exact kR.alloc _
   have B5:Hid (Blk w5 wr.heap.size 105 [.int .i64 x.f.k.i,.int .u8 (x.f.k.t:Nat),.string x.f.k.n,.int .i64 x.f.k.c,.slice x.A x.f.v.length x.c,.bool x.f.g]):=by rw[hw5];exact Blk.made wr _ _
   have HJ5:=jH (HJ.out _ _ _ VJ.out n5);have VK5:=jH (VK.out.trans (KpC.new n5));have HO5:=jH (VK5.out.own HD.out);have HW5:=jH hw5
   have s1:(0:Int)≤(k:Int)+1:=by omega
   have s2:((k:Int)+1).toNat=k+1:=by omega
   have s3:(k:Int) < (n:Int):=by omega
   clear hw5 n5 hx VJ VK
   gi_wp2_with fail
   rw[←HW5.out];clear HW5 x0 x1 x2 x3 x4 x5;generalize wr.heap.size=g5 at *;obtain⟨q0,q1,q2,q3,q4,q5⟩:=B5.out.p6
   by_cases hlt2:k+1 < n
   ·obtain⟨g',o',y,eA',hy,y0,y1,y2,y3,_,_⟩:=rowC_at HO5.out.row hlt2
    injection eA' with eA'
    injection eA' with e1 e2
    subst e1 e2;have HY:=jH hy
    have s4:(k:Int)+1 < (n:Int):=by omega
    have d1:decide ((k:Int)+1 < (n:Int))=true:=decide_eq_true s4
    have HEQ:=fun u=>key_eql y.f.k x.f.k u
    clear hy
    by_cases hkk:y.f.k=x.f.k
    ·have HLS:Hid (pre.map (·.1)++latC (ds.drop (k+1))=latC ds):=by rw[Hid,←latC_same HX.out HY.out hkk];exact VL.out
     rw[decide_eq_true hkk] at HEQ;clear hkk
     gi_quiet (fail)
     have HJ6:Hid (J pre (w5.drewN nq)):=HJ.out _ _ _ HJ5.out (kR.drewN _);have VK6:Hid (KpC w2 (w5.drewN nq)):=VK5.out.trans (KpC.new (kR.drewN nq))
     gi_wp2
     go_roundw
     case rel=>exact⟨k+1,pre,by omega,by go_num,HLS,HJ6,VK6⟩
     case measure=>simp[intOf];omega
    have HPRE:Hid ((pre++[(⟨x,HXM.out⟩:{x:CE // x∈es})]).map (·.1)++latC (ds.drop (k+1))=latC ds):=by
     rw[Hid,List.map_append,List.append_assoc,←VL.out,latC_other HX.out HY.out hkk]
     rfl
    have HPL:Hid (pre.length < n):=by
     have:=congrArg List.length HPRE.out
     have h2:=latC_len ds;rw[HDL.out] at h2;rw[List.length_append,List.length_map,List.length_append,List.length_singleton] at this
     show _ < _
     omega
    rw[decide_eq_false hkk] at HEQ;clear hkk
    gi_quiet (fail)
    obtain⟨fn,tmps,assign,body,hy,hR⟩:=HYY.out pre ⟨x,HXM.out⟩ (w5.drewN nq) (HJ.out _ _ _ HJ5.out (kR.drewN _)) HPL.out;have hy':=hy;unfold ceV at hy'
    dsimp only at hy'
    clear hy
    gi_wp2
    refine hR.mono ?_;rintro e W3 (⟨rfl,hJ3,hk3⟩|⟨rfl,hJx3⟩)
    ·have HJ3:=jH hJ3;have HK3:Hid (KpC w2 W3):=(VK5.out.trans (KpC.new (kR.drewN nq))).trans hk3;clear hJ3 hk3
     gi_wp2
     go_roundw
     case rel=>exact⟨k+1,pre++[⟨x,HXM.out⟩],by omega,by go_num,HPRE,HJ3,HK3⟩
     case measure=>simp[intOf];omega
    ·gi_wp2
     refine bodyPost_ret (results_none rfl _ _ _) rfl ?_;exact⟨⟨_,rfl⟩,.inr ⟨_,trivial,hJx3⟩⟩
   ·have d1:decide ((k:Int)+1 < (n:Int))=false:=decide_eq_false (by omega)
    have HPRE:Hid ((pre++[(⟨x,HXM.out⟩:{x:CE // x∈es})]).map (·.1)++latC (ds.drop (k+1))=latC ds):=by
     rw[Hid,List.map_append,List.append_assoc,←VL.out,latC_last HX.out (by rw[HDL.out];omega)]
     rfl
    have HPL:Hid (pre.length < n):=by
     have:=congrArg List.length HPRE.out
     have h2:=latC_len ds;rw[HDL.out] at h2;rw[List.length_append,List.length_map,List.length_append,List.length_singleton] at this
     show _ < _
     omega
    gi_quiet (fail)
    obtain⟨fn,tmps,assign,body,hy,hR⟩:=HYY.out pre ⟨x,HXM.out⟩ (w5.drewN nq) (HJ.out _ _ _ HJ5.out (kR.drewN _)) HPL.out;have hy':=hy;unfold ceV at hy'
    dsimp only at hy'
    clear hy
    gi_wp2
    refine hR.mono ?_;rintro e W3 (⟨rfl,hJ3,hk3⟩|⟨rfl,hJx3⟩)
    ·have HJ3:=jH hJ3;have HK3:Hid (KpC w2 W3):=(VK5.out.trans (KpC.new (kR.drewN nq))).trans hk3;clear hJ3 hk3
     gi_wp2
     go_roundw
     case rel=>exact⟨k+1,pre++[⟨x,HXM.out⟩],by omega,by go_num,HPRE,HJ3,HK3⟩
     case measure=>simp[intOf];omega
    ·gi_wp2
     refine bodyPost_ret (results_none rfl _ _ _) rfl ?_;exact⟨⟨_,rfl⟩,.inr ⟨_,trivial,hJx3⟩⟩
  ·have HE:Hid (LatS es n pre):=by
    refine⟨ds,HDL.out,HD2.out,HD3.out,?_⟩
    have:=VL.out
    rw[List.drop_of_length_le (by rw[HDL.out];omega)] at this;simpa [latC] using this
   clear VL VK
   gi_wp2
   go_end0
   exact⟨⟨_,rfl⟩,.inl ⟨pre,HE.out,VJ.out⟩⟩
end
end Go.Proofs.YtbiihjdjbknibaaGreat
