/-
  Layer 7: contracts (Sd Se Sf Sg Sh Si).
-/
import Derived.Test.YtbiihjdjbknibaaGreatC05
import Derived.Laws.CopyOwn
import Derived.Lib.MakeNoZero
import Derived.Lib.Mul64
import Derived.Laws.Bits64b
import Derived.Laws.Externs
import Derived.Deep.RegionLaw
import Derived.Handy
namespace Go.Proofs.YtbiihjdjbknibaaGreat
set_option maxRecDepth 100000
set_option maxHeartbeats 8000000
set_option linter.unusedSimpArgs false
set_option linter.unusedVariables false
section
set_option maxRecDepth 100000
open Go.ChangeShapes Go.WideShapes Go.ChangeAt Go.RowKit
theorem sz_u8:(Tryz.prog.info? 5).map (·.size)=some 1:=by kernel_rfl
def lay {α:Type} (cur:List α) (off:Nat) (k:List α):List α:=cur.take off++(k++cur.drop (off+k.length))
theorem lay_map (cur k:List Nat) (junk:List Value) (off:Nat) (h:off+k.length≤cur.length):lay (cur.map byt++junk) off (k.map byt)=(lay cur off k).map byt++junk:=by
 unfold lay;rw[List.take_append_of_le_length (by simp;omega),List.drop_append_of_le_length (by simp;omega)];simp
theorem lay_length {α:Type} (cur:List α) (off:Nat) (k:List α) (h:off+k.length≤cur.length):(lay cur off k).length=cur.length:=by simp[lay];omega
theorem wpList_copy_blk {w:World} {ops:Array Oper} {rest:List Oper} {o:Oper} {a:Act} {Q:Exit→Act→World→Prop} (hgd:o.guard=none) (d s:Operand)
  (ho:o.op=.call { callee:=.builtin .copy,args:=#[d,s],argTypes:=#[52,52] })
  (dp:Option Addr) (dLen dCap:Nat) (hd:a.eval d=.slice dp dLen dCap) (sp:Option Addr) (sLen sCap:Nat) (hs:a.eval s=.slice sp sLen sCap)
  (g off:Nat) (cur:List Value) (hg:Blk w g 5 cur) (k:List Nat) (hk:Bts w sp sLen k) (m:Nat) (hm:m=Nat.min sLen dLen)
  (hpos:0 < m→dp=some ⟨g,off,none⟩) (hfit:off+m≤cur.length) (k':List Nat) (hk':k'=k.take m)
  (h:∀w',Hid (Blk w' g 5 (lay cur off (k'.map byt)))→Hid (Kept (·=g) w w')→wpList Tryz.prog ops Q rest (a.put o.dst (.int .i64 (m:Int))) w'):
  wpList Tryz.prog ops Q (o::rest) a w:=by
 subst hk'
 have hmk:(k.take m).length=m:=by rw[List.length_take,hk.1,hm];exact Nat.min_eq_left (Nat.min_le_left _ _)
 by_cases h0:m=0
 ·subst h0;refine wpList_copy_nothing hgd d s _ _ ho 5 Tryz.underlying52 sz_u8 dp sp dLen dCap sLen sCap hd hs hm.symm ?_;exact h w (by simpa [Hid,lay] using hg) kR
 ·obtain rfl:=hpos (by omega)
  have hs0:0 < sLen:=by
   have h1:m≤sLen:=hm ▸ Nat.min_le_left sLen dLen;omega
  obtain⟨gs,os,rfl,hc⟩:=hk.2.2 hs0;refine wpList_copy_own hgd d s _ _ ho 5 Tryz.underlying52 sz_u8 g off dLen dCap _ sLen sCap hd hs _ 5 hg ((k.take m).map byt) (by rw[List.length_map,hmk,hm]) ?_ ?_ ?_ ?_
  ·intro j v hv;rw[List.getElem?_map] at hv;obtain⟨x,hx,rfl⟩:=Option.map_eq_some_iff.1 hv;rw[List.getElem?_take] at hx
   split at hx
   ·rw[Addr.add_lit];exact hc j x hx
   ·cases hx
  ·rw[List.length_map,hmk];simpa using hfit
  ·intro v hv;obtain⟨x,_,rfl⟩:=List.mem_map.1 hv
   rfl
  ·rw[List.length_map,hmk];have e:=setRow_heap w g (cur.toArray) ((cur.toArray.toList.take off++((k.take m).map byt++cur.toArray.toList.drop (off+m))).toArray) 5 (0,0) hg;refine h (w.setRow g ((cur.toArray.toList.take off++((k.take m).map byt++cur.toArray.toList.drop (off+m))).toArray)) ?_ ⟨rfl,rfl,rfl,by simp[World.setRow],fun i _ hi=>setRow_other w g i _ (by simpa using hi)⟩
   show Blk _ _ _ _
   unfold Blk;rw[e];unfold lay;rw[List.length_map,hmk]
theorem step_copy_blk {w:World} {ops:Array Oper} {o:Oper} {a:Act} {K:Act→World→Prop} {Q:Exit→Act→World→Prop} {E:Prop} (hgd:o.guard=none) (d s:Operand)
  (ho:o.op=.call { callee:=.builtin .copy,args:=#[d,s],argTypes:=#[52,52] })
  (dp:Option Addr) (dLen dCap:Nat) (hd:a.eval d=.slice dp dLen dCap) (sp:Option Addr) (sLen sCap:Nat) (hs:a.eval s=.slice sp sLen sCap)
  (g off:Nat) (cur:List Value) (hg:Blk w g 5 cur) (k:List Nat) (hk:Bts w sp sLen k) (m:Nat) (hm:m=Nat.min sLen dLen)
  (hpos:0 < m→dp=some ⟨g,off,none⟩) (hfit:off+m≤cur.length) (k':List Nat) (hk':k'=k.take m)
  (h:∀w',Hid (Blk w' g 5 (lay cur off (k'.map byt)))→Hid (Kept (·=g) w w')→K (a.put o.dst (.int .i64 (m:Int))) w'):
  if Region.wanted o (yielded ops a.tmps)=true then Oper.wp Tryz.prog o a w K Q else E:=by
 have hw:Region.wanted o (yielded ops a.tmps)=true:=by simp[Region.wanted,hgd]
 rw[if_pos hw];subst hk'
 have hmk:(k.take m).length=m:=by rw[List.length_take,hk.1,hm];exact Nat.min_eq_left (Nat.min_le_left _ _)
 by_cases h0:m=0
 ·subst h0;have hrun:=run_copy_none (P:=Tryz.prog) w 52 52 o.type 5 dp sp dLen dCap sLen sCap Tryz.underlying52 sz_u8 hm.symm;unfold Oper.wp;simp[execOp,ho,resolve,invoke,builtin,hd,hs,hrun,Result.andThen];exact h w (by simpa [Hid,lay] using hg) kR
 ·obtain rfl:=hpos (by omega)
  have hs0:0 < sLen:=by
   have h1:m≤sLen:=hm ▸ Nat.min_le_left sLen dLen;omega
  obtain⟨gs,os,rfl,hc⟩:=hk.2.2 hs0;have hrun:=run_copy_row (P:=Tryz.prog) w 52 52 o.type 5 g off dLen dCap _ sLen sCap cur.toArray 5 ((k.take m).map byt) Tryz.underlying52 sz_u8 hg (by rw[List.length_map,hmk,hm])
   (by
    intro j v hv;rw[List.getElem?_map] at hv;obtain⟨x,hx,rfl⟩:=Option.map_eq_some_iff.1 hv;rw[List.getElem?_take] at hx
    split at hx
    ·rw[Addr.add_lit];exact hc j x hx
    ·cases hx) (by rw[List.length_map,hmk];simpa using hfit)
   (by
    intro v hv;obtain⟨x,_,rfl⟩:=List.mem_map.1 hv
    rfl)
  rw[List.length_map,hmk] at hrun;have e:=setRow_heap w g (cur.toArray) ((cur.toArray.toList.take off++((k.take m).map byt++cur.toArray.toList.drop (off+m))).toArray) 5 (0,0) hg;unfold Oper.wp;simp[execOp,ho,resolve,invoke,builtin,hd,hs,hrun,Result.andThen];refine h _ ?_ ⟨rfl,rfl,rfl,by simp[World.setRow],fun i _ hi=>setRow_other w g i _ (by simpa using hi)⟩
  show Blk _ _ _ _
  unfold Blk lay;rw[List.length_map,hmk];simpa using e
end
section
set_option maxRecDepth 100000
open Go.ChangeShapes Go.WideShapes Go.ChangeAt Go.RowKit
end
section
set_option maxRecDepth 100000
open Go.ChangeShapes Go.WideShapes Go.ChangeAt Go.RowKit
theorem Bts.of_blk {w:World} {g n off:Nat} {l:List Nat} {junk:List Value} (h:Blk w g 5 (l.map byt++junk)) (hb:IsBytes l) (hn:l.length=n):Bts w (some ⟨g,off,none⟩) (n - off) (l.drop off):=by
 refine⟨by simp[hn],fun x hx=>hb x (List.mem_of_mem_drop hx),fun _=>⟨g,off,rfl,fun j x hx=>?_⟩⟩;rw[List.getElem?_drop] at hx;have hj:off+j < l.length:=(List.getElem?_eq_some_iff.1 hx).1;rw[h.cell,List.getElem?_append_left (by simpa using hj),List.getElem?_map,hx]
 rfl
theorem noughts_fit (n k:Nat) (b:List Nat) (hn:n≤256) (h:b.length+5≤n):noughts (rest n k b) < 65536:=by
 have:=noughts_le (rest n k b)
 rw[rest_length n k b h] at this;omega
end
section
set_option maxRecDepth 100000
open Go.ChangeShapes Go.WideShapes Go.ChangeAt Go.RowKit
def PgB (w:World) (B:Nat) (A:Option Addr) (c:Nat) (l:List Nat):Prop:=
 IsBytes l∧((A=none∧c=0∧l=[])∨∃g junk,A=some ⟨g,0,none⟩∧B≤g∧Blk w g 5 (l.map byt++junk)∧c=l.length)
theorem PgB.bts {w:World} {B:Nat} {A:Option Addr} {c:Nat} {l:List Nat} (h:PgB w B A c l):Bts w A l.length l:=by
 obtain⟨hb,⟨rfl,rfl,rfl⟩|⟨g,junk,rfl,hB,hblk,rfl⟩⟩:=h
 ·exact Bts.nil _ _
 ·simpa using Bts.of_blk (off:=0) hblk hb rfl
theorem PgB.kept {S:Nat→Prop} {w w':World} {B:Nat} {A:Option Addr} {c:Nat} {l:List Nat} (h:PgB w B A c l) (hk:Kept S w w') (hn:∀a,A=some a→¬S a.block):PgB w' B A c l:=by
 obtain⟨hb,h|⟨g,junk,rfl,hB,hblk,rfl⟩⟩:=h
 ·exact⟨hb,.inl h⟩
 ·exact⟨hb,.inr ⟨g,junk,rfl,hB,hblk.kept hk (hn _ rfl),rfl⟩⟩
theorem PgB.new {w w':World} {B:Nat} {A:Option Addr} {c:Nat} {l:List Nat} (h:PgB w B A c l) (hk:New w w'):PgB w' B A c l:=h.kept hk fun _ _ f=>f
theorem PgB.nil_ {w:World} {B:Nat} {A:Option Addr} {c:Nat} {l:List Nat} (h:PgB w B A c l):A=none→c=0∧l.length=0:=by
 rintro rfl;obtain⟨hb,⟨_,rfl,rfl⟩|⟨g,junk,h,_⟩⟩:=h
 ·exact⟨rfl,rfl⟩
 ·cases h
theorem PgB.cap {w:World} {B:Nat} {A:Option Addr} {c:Nat} {l:List Nat} (h:PgB w B A c l):c=l.length:=by
 obtain⟨hb,⟨_,rfl,rfl⟩|⟨g,junk,_,_,_,rfl⟩⟩:=h<;>rfl
theorem front_math (l:List Nat) (h:5≤l.length) (hb:IsBytes l):
  leV ((l.take 5).take 2)=leV (l.take 2)∧leV (((l.take 5).drop 2).take 1)=l.getD 2 0∧leV ((((l.take 5).drop 2).drop 1).take 2)=lenF l∧leV (l.take 2) < 65536∧l.getD 2 0 < 256∧lenF l < 65536:=by
 match l,h with
 | a::b::c::d::e::r,_=>
  have b0:=hb a (by simp);have b1:=hb b (by simp);have b2:=hb c (by simp);have b3:=hb d (by simp);have b4:=hb e (by simp);simp[leV,lenF];omega
theorem front_any (A:Option Addr) (n c:Nat) (l:List Nat) (w:World) (hb:Bts w A n l) (hn:5≤n) (hn2:n≤256) (hc:n≤c) (hc2:c≤maxLen):
  Calls Tryz.prog 121 #[.slice A n c] w fun e w'=>e=.returned (.agg #[.int .i64 (leV (l.take 2):Nat),.int .u8 (l.getD 2 0:Nat),.int .i64 (lenF l:Nat)])∧New w w':=by
 unfold maxLen at hc2;have hl:=hb.1;obtain⟨m1,m2,m3,m4,m5,m6⟩:=front_math l (by omega) hb.2.1;have h5:=hb.take (k:=5) hn
 have hl5:(l.take 5).length=5:=by rw[List.length_take];omega
 obtain⟨g0,o0,rfl,_⟩:=hb.2.2 (by omega);generalize hl5e:l.take 5=l5 at *;have H5:=jH h5;have HL5:=jH hl5;have HM:=jH (And.intro m1 (And.intro m2 m3));generalize leV (l.take 2)=v0 at *;generalize l.getD 2 0=v1 at *;generalize lenF l=v2 at *;clear hb hl hl5e h5 hl5 m1 m2 m3;go_enter Tryz.func121,Tryz.ntmps121;go_wp2_with fail;refine (new_any _ 5 c l5 _ (H5.out.new (kR.alloc _)) (by omega) (by intro h;cases h)).mono ?_;rintro e w1 ⟨gr,rfl,hr,hg,hk⟩
 have hg2:w.heap.size < gr:=by simp at hg;omega
 have R1:=jH hr.any;have K1:Hid (New w w1):=(kR.alloc _).new hk;have B1:Hid (Blk w1 w.heap.size 192 [.int .i64 0,.int .u8 0,.int .i64 0]):=(Blk.made w 192 #[.int .i64 0,.int .u8 0,.int .i64 0]).kept hk (fun f=>f);clear hr hk hg;go_wp2_with fail;refine (etake_ok gr _ 2 _ R1.out (.inr (.inl rfl)) (by rw[HL5.out];omega)).mono ?_;rintro e w2 ⟨rfl,hr,hk⟩;have R2:=jH hr;have K2:Hid (New w w2):=K1.out.trans hk (fun i hi h=>by omega);have B2:=jH (B1.out.kept hk (by omega));rw[HM.out.1];clear hr hk R1 K1 B1;go_wp2_with fail;refine (etake_ok gr _ 1 _ R2.out (.inl rfl) (by rw[List.length_drop,HL5.out];omega)).mono ?_
 rintro e w3 ⟨rfl,hr,hk⟩;have R3:=jH hr;have K3:Hid (New w w3):=K2.out.trans hk (fun i hi h=>by omega);have B3:=jH (B2.out.kept hk (by omega));rw[HM.out.2.1];clear hr hk R2 K2 B2;go_wp2_with fail;refine (etake_ok gr _ 2 _ R3.out (.inr (.inl rfl)) (by rw[List.length_drop,List.length_drop,HL5.out];omega)).mono ?_;rintro e w4 ⟨rfl,hr,hk⟩;have K4:Hid (New w w4):=K3.out.trans hk (fun i hi h=>by omega);have B4:=jH (B3.out.kept hk (by omega));rw[HM.out.2.2];clear hr hk R3 K3 B3;have c0:=B4.out.cell 0;have c1:=B4.out.cell 1;have c2:=B4.out.cell 2;obtain⟨f0,f1,f2⟩:=B4.out.f3;simp only[List.getElem?_cons_zero,List.getElem?_cons_succ] at c0 c1 c2
 go_wp2;obtain⟨w5,hw5⟩:∃w5,w5=((w4.setCell ⟨w.heap.size,0,none⟩ (.int .i64 v0)).setCell ⟨w.heap.size,1,none⟩ (.int .u8 v1)).setCell ⟨w.heap.size,2,none⟩ (.int .i64 v2):=⟨_,rfl⟩
 have B5:Blk w5 w.heap.size 192 [.int .i64 v0,.int .u8 v1,.int .i64 v2]:=by
  rw[hw5];simpa using ((B4.out.put 0 (.int .i64 v0)).put 1 (.int .u8 v1)).put 2 (.int .i64 v2)
 have K5:New w w5:=by
  rw[hw5];exact ((K4.out.setCell (fun h=>absurd h (by simp)) _).setCell (fun h=>absurd h (by simp)) _).setCell (fun h=>absurd h (by simp)) _
 rw[←hw5];have d0:=B5.cell 0;have d1:=B5.cell 1;have d2:=B5.cell 2;simp only[List.getElem?_cons_zero,List.getElem?_cons_succ] at d0 d1 d2;clear hw5 c0 c1 c2 f0 f1 f2
 (try simp only[Exit.inBlock,Exit.then])
 refine bodyPost_ret (by simp[results,Tryz.results121,go_sem,d0,d1,d2];try rfl) rfl ?_;exact⟨rfl,K5⟩
end
section
set_option maxRecDepth 100000
open Go.ChangeShapes Go.WideShapes Go.ChangeAt Go.RowKit
theorem quietS {P:Program} {f:FuncId} {args:Array Value} {w:World} {n:Nat} {v:Value} (h:Calls P f args (w.drewN n) fun e w'=>e=.returned v∧w.drewN n=w'):
  Calls P f args (w.drewN n) fun e w''=>e=.returned v∧∃m,w''=w.drewN m:=Calls.quiet_of_same (h.mono fun _ _ ⟨h1,h2⟩=>⟨h1,h2.symm⟩)
theorem front_v (A:Option Addr) (n c:Nat) (l:List Nat) (w:World) (hb:Bts w A n l) (hn:5≤n) (hn2:n≤256) (hc:n≤c) (hc2:c≤maxLen) (v0 v1 v2:Nat) (h:leV (l.take 2)=v0∧l.getD 2 0=v1∧lenF l=v2):
  Calls Tryz.prog 121 #[.slice A n c] w fun e w'=>e=.returned (.agg #[.int .i64 v0,.int .u8 v1,.int .i64 v2])∧New w w':=by
 obtain⟨rfl,rfl,rfl⟩:=h;exact front_any A n c l w hb hn hn2 hc hc2
theorem sNoughts_v (A:Option Addr) (n c:Nat) (l:List Nat) (w:World) (ha:Bts w A n l) (hn:n≤140737488355328) (no:Nat) (h:noughts l=no):
  Calls Tryz.prog 122 #[.slice A n c] w fun e w'=>e=.returned (.int .i64 no)∧w=w':=by subst h;exact sNoughts_any A n c l w ha hn
theorem sIsKind_v (k:Nat) (w:World) (b:Bool) (h:decide (isKd k)=b):
  Calls Tryz.prog 123 #[.int .u8 k] w fun e w'=>e=.returned (.bool b)∧w=w':=by subst h;exact sIsKind_any k w
theorem sBody_v (s z:Int) (w:World) (h:pgBody s=z):
  Calls Tryz.prog 124 #[.int .i64 s] w fun e w'=>e=.returned (.int .i64 z)∧w=w':=by subst h;exact sBody_any s w
theorem sBlank_v (A:Option Addr) (n c:Nat) (l:List Nat) (w:World) (ha:Bts w A n l) (hn:n≤maxLen) (b:Bool) (h:blank l=b):
  Calls Tryz.prog 96 #[.slice A n c] w fun e w'=>e=.returned (.bool b)∧w=w':=by subst h;exact sBlank_any A n c l w ha hn
def GetP (w:World) (l:List Nat) (e:Ending) (w':World):Prop:=
 ∃A c,e=.returned (.tuple #[.int .u8 (sGetK l:Nat),.slice A (sGetL l).length c,.int .i64 (sGetE l)])∧OwnB w' 5 w.heap.size A c (sGetL l)∧New w w'
theorem GetP.no {w w':World} {l:List Nat} {E:Int} (h:sGetE l=E) (h0:E≠0) (hk:New w w'):GetP w l (.returned (.tuple #[.int .u8 0,.slice none 0 0,.int .i64 E])) w':=by
 have e1:sGetK l=0:=by unfold sGetK;rw[if_neg (by rw[h];exact h0)]
 have e2:sGetL l=[]:=by unfold sGetL;rw[if_neg (by rw[h];exact h0)]
 unfold GetP;rw[e1,e2,h];exact⟨none,0,rfl,OwnB.nil _ _ _,hk⟩
theorem GetP.ok {w w4 w5:World} {l:List Nat} {v1 v2 c:Nat} {A:Option Addr} (hE:sGetE l=0) (hV:l.getD 2 0=v1∧lenF l=v2) (hk:New w w4) (ho:OwnB w5 5 w4.heap.size A c ((l.drop 5).take v2)) (hk5:New w4 w5) (hlen:((l.drop 5).take v2).length=v2):
  GetP w l (.returned (.tuple #[.int .u8 v1,.slice A v2 c,.int .i64 0])) w5:=by
 obtain⟨rfl,rfl⟩:=hV
 have e1:sGetK l=l.getD 2 0:=by unfold sGetK;rw[if_pos hE]
 have e2:sGetL l=(l.drop 5).take (lenF l):=by unfold sGetL;rw[if_pos hE]
 unfold GetP;rw[e1,e2,hE,hlen];exact⟨A,c,rfl,ho.mono hk.size,hk.new hk5⟩
theorem sGet_arg (A:Option Addr) (n c:Nat) (l:List Nat) (w:World) (hl:l.length=n) (_hn:n≤maxLen) (h:¬isPg (n:Int)):
  Calls Tryz.prog 100 #[.slice A n c] w (GetP w l):=by
 have e1:decide (isPg (n:Int))=false:=decide_eq_false h;have HE:=jH (show sGetE l=2 from by unfold sGetE;rw[hl,if_neg h]);unfold maxLen at _hn;clear h hl;go_enter Tryz.func100,Tryz.ntmps100
 go_wp2_with (go_at_call 120;refine (sIsSize_any _ _).mono ?_;rintro e w' ⟨rfl,rfl⟩;rw[e1])
 go_ret3;exact GetP.no HE.out (by omega) kR
theorem sGet_blank (A:Option Addr) (n c:Nat) (l:List Nat) (w:World) (hb:Bts w A n l) (h:isPg (n:Int)) (hbl:blank l=true):
  Calls Tryz.prog 100 #[.slice A n c] w (GetP w l):=by
 have e1:decide (isPg (n:Int))=true:=decide_eq_true h;have HE:=jH (show sGetE l=6 from by unfold sGetE;rw[hb.1,if_pos h,if_pos hbl]);have Hb:=jH hb
 have hn:n≤256:=by unfold isPg at h;omega
 clear h hb;go_enter Tryz.func100,Tryz.ntmps100
 go_wp2_with (first
  | (go_at_call 120;refine (sIsSize_any _ _).mono ?_;rintro e w' ⟨rfl,rfl⟩;rw[e1])
  | (go_at_call 96;refine (sBlank_any _ _ _ _ _ Hb.out (by unfold maxLen;omega)).mono ?_;rintro e w' ⟨rfl,rfl⟩;rw[hbl]))
 go_ret3;exact GetP.no HE.out (by omega) kR
theorem sGet_rest (A:Option Addr) (n c:Nat) (l:List Nat) (w:World) (hb:Bts w A n l) (h:isPg (n:Int)) (hbl:blank l=false) (hc:n≤c) (hc2:c≤9223372036854775807):
  Calls Tryz.prog 100 #[.slice A n c] w (GetP w l):=by
 have e1:decide (isPg (n:Int))=true:=decide_eq_true h
 have hE:sGetE l=if leV (l.take 2)=noughts (l.drop 2) then (if isForm l then 0 else 5) else 7:=by unfold sGetE;rw[hb.1,if_pos h,hbl];simp
 have hn:n≤256:=by unfold isPg at h;omega
 have hn1:128≤n:=by unfold isPg at h;omega
 have e3:pgBody (n:Int)=(n:Int) - 5:=by unfold pgBody;rw[if_pos h]
 obtain⟨_,_,_,m4,m5,m6⟩:=front_math l (by rw[hb.1];omega) hb.2.1;have Hb:=jH hb
 have hF:isForm l↔isKd (l.getD 2 0)∧5+lenF l≤n∧blank (l.drop (5+lenF l))=true:=by unfold isForm;rw[hb.1]
 generalize hv0:leV (l.take 2)=v0 at *;generalize hv1:l.getD 2 0=v1 at *;generalize hv2:lenF l=v2 at *;have HV:=jH (And.intro hv0 (And.intro hv1 hv2));generalize hno:noughts (l.drop 2)=no at *;have HNo:=jH hno;have HE:=jH hE;have HF:=jH hF;clear hv0 hv1 hv2 hno hF;obtain⟨g0,o0,rfl,_⟩:=hb.2.2 (by omega)
 have hd2:Bts w (some ⟨g0,o0+2,none⟩) (n - 2) (l.drop 2):=by
  have:=hb.cut (k:=2) (c:=c) (by omega) hc
  rw[if_neg (by omega)] at this;simpa [Addr.add_lit] using this
 have HD2:=jH hd2
 have hc3:¬c=2:=by omega
 clear h hb hE hd2;go_enter Tryz.func100,Tryz.ntmps100
 go_wp2_with (first
  | (go_at_call 120;refine (sIsSize_any _ _).mono ?_;rintro e w' ⟨rfl,rfl⟩;rw[e1])
  | (go_at_call 96;refine (sBlank_any _ _ _ _ _ Hb.out (by unfold maxLen;omega)).mono ?_;rintro e w' ⟨rfl,rfl⟩;rw[hbl]))
 refine (front_v _ n c l _ Hb.out (by omega) hn hc (by unfold maxLen;omega) v0 v1 v2 HV.out).mono ?_;rintro e w1 ⟨rfl,hk⟩;have K1:=jH hk;clear hk;go_wp2;have b2:Blk (w1.alloc (.cells #[.int .i64 v0,.int .u8 v1,.int .i64 v2] 192)) w1.heap.size 192 [.int .i64 v0,.int .u8 v1,.int .i64 v2]:=Blk.made w1 _ _;have k2:New w (w1.alloc (.cells #[.int .i64 v0,.int .u8 v1,.int .i64 v2] 192)):=K1.out.alloc _;generalize w1.alloc (.cells #[.int .i64 v0,.int .u8 v1,.int .i64 v2] 192)=w2 at *;have K2:=jH k2;have D2:Hid (Bts w2 (some ⟨g0,o0+2,none⟩) (n - 2) (l.drop 2)):=HD2.out.new k2;have L2:Hid (Bts w2 (some ⟨g0,o0,none⟩) n l):=Hb.out.new k2
 have c0:=b2.cell 0;have c1:=b2.cell 1;have c2:=b2.cell 2;simp only[List.getElem?_cons_zero,List.getElem?_cons_succ] at c0 c1 c2;generalize w1.heap.size=gf at *;clear b2 k2 K1 HD2 Hb
 have i1:(2:Int)≤(n:Int):=by omega
 have i2:(n:Int)≤(c:Int):=by omega
 go_quiet ((go_at_call 122;exact quietS (sNoughts_v _ (n - 2) _ (l.drop 2) _ (D2.out.drewN _) (by omega) no HNo.out)))
 by_cases ht:v0=no
 ·have HT:=jH ht
  have HE5:Hid (¬isForm l→sGetE l=5):=fun h=>by rw[HE.out,if_pos HT.out,if_neg h]
  have HE0:Hid (isForm l→sGetE l=0):=fun h=>by rw[HE.out,if_pos HT.out,if_pos h]
  go_wp2;have c1':(w2.drewN nq).cell? ⟨gf,1,none⟩=some (.int .u8 v1):=c1;have c2':(w2.drewN nq).cell? ⟨gf,2,none⟩=some (.int .i64 v2):=c2;have K3:Hid (New w (w2.drewN nq)):=K2.out.drewN nq;have L3:Hid (Bts (w2.drewN nq) (some ⟨g0,o0,none⟩) n l):=L2.out.drewN nq;generalize w2.drewN nq=w3 at *;clear c0 c1 c2 K2 L2 D2 HE HNo HT ht
  by_cases hkd:isKd v1
  ·have ek:decide (isKd v1)=true:=decide_eq_true hkd
   go_quiet ((first
    | (go_at_call 123;exact quietS (sIsKind_v v1 _ true ek))
    | (go_at_call 124;exact quietS (sBody_v _ ((n:Int) - 5) _ e3))))
   by_cases hle:5+v2≤n
   ·have c1'':(w3.drewN nq).cell? ⟨gf,1,none⟩=some (.int .u8 v1):=c1';have c2'':(w3.drewN nq).cell? ⟨gf,2,none⟩=some (.int .i64 v2):=c2';have K4:Hid (New w (w3.drewN nq)):=K3.out.drewN nq;have L4:Hid (Bts (w3.drewN nq) (some ⟨g0,o0,none⟩) n l):=L3.out.drewN nq;generalize w3.drewN nq=w4 at *
    have B5:Hid (Bts w4 (some ⟨g0,o0+5,none⟩) v2 ((l.drop 5).take v2)):=by
     have:=(L4.out.cut (k:=5) (c:=c) (by omega) hc).take (k:=v2) (by omega)
     rw[if_neg (by omega)] at this;simpa [Addr.add_lit,Hid] using this
    have cut:=L4.out.cut (k:=5+v2) (c:=c) hle hc;generalize hbb:blank (l.drop (5+v2))=bb;have HBB:=jH hbb
    have hc5:¬c=5:=by omega
    clear c1' c2' K3 L3 L4 hbb;have HCut:=jH cut;clear cut;cases bb
    ·go_wp2_with fail
     all_goals refine (sBlank_v _ (n - (5+v2)) _ (l.drop (5+v2)) _ (by first|(have:=HCut.out;rw[if_pos (by omega)] at this;exact this)|(have:=HCut.out;rw[if_neg (by omega)] at this;simpa [Addr.add_lit] using this)) (by unfold maxLen;omega) false HBB.out).mono ?_
     all_goals rintro e w' ⟨rfl,rfl⟩
     all_goals go_wp2
     all_goals go_ret3
     all_goals exact GetP.no (HE5.out fun h=>by have:=(HF.out.1 h).2.2;rw[HBB.out] at this;cases this) (by omega) K4.out
    ·have HLN:Hid (((l.drop 5).take v2).length=v2):=B5.out.1;have HOk:=jH (HE0.out (HF.out.2 ⟨hkd,hle,HBB.out⟩));go_wp2_with fail
     all_goals refine (sBlank_v _ (n - (5+v2)) _ (l.drop (5+v2)) _ (by first|(have:=HCut.out;rw[if_pos (by omega)] at this;exact this)|(have:=HCut.out;rw[if_neg (by omega)] at this;simpa [Addr.add_lit] using this)) (by unfold maxLen;omega) true HBB.out).mono ?_
     all_goals rintro e w' ⟨rfl,rfl⟩
     all_goals clear HCut
     all_goals go_wp2
     all_goals go_region_with (go_at_call 40;refine (clone_any _ v2 _ ((l.drop 5).take v2) _ B5.out.drew (by omega) (by intro h;cases h)).mono ?_;rintro e w5 ⟨A5,c5,rfl,hown,hk⟩;rw[HLN.out];have c1w:=hk.cell (show w4.drew.cell? ⟨gf,1,none⟩=_ from c1'') (fun f=>f);have HO5:=jH hown;have HK5:=jH hk;clear hown hk)
     all_goals go_simp
     all_goals go_wp2
     all_goals go_ret3
     all_goals exact GetP.ok HOk.out HV.out.2 K4.out.drew HO5.out HK5.out HLN.out
   ·go_wp2;go_ret3;exact GetP.no (HE5.out fun h=>hle (HF.out.1 h).2.1) (by omega) (K3.out.drewN _)
  ·have ek:decide (isKd v1)=false:=decide_eq_false hkd
   go_quiet ((first
    | (go_at_call 123;exact quietS (sIsKind_v v1 _ false ek))))
   go_wp2;go_ret3;exact GetP.no (HE5.out fun h=>hkd (HF.out.1 h).1) (by omega) (K3.out.drewN _)
 ·have ht2:((v0:Int) == (no:Int))=false:=beq_eq_false_iff_ne.2 (by omega);go_wp2;go_ret3;exact GetP.no (by rw[HE.out,if_neg ht]) (by omega) (K2.out.drewN _)
theorem sGet_any (A:Option Addr) (n c:Nat) (l:List Nat) (w:World) (hb:Bts w A n l) (hc:n≤c) (hc2:c≤9223372036854775807):
  Calls Tryz.prog 100 #[.slice A n c] w (GetP w l):=by
 by_cases h:isPg (n:Int)
 ·by_cases hbl:blank l=true
  ·exact sGet_blank A n c l w hb h hbl
  ·exact sGet_rest A n c l w hb h (by simpa using hbl) hc hc2
 ·exact sGet_arg A n c l w hb.1 (by unfold maxLen;omega) h
end
section
set_option maxRecDepth 100000
open Go.ChangeShapes Go.WideShapes Go.ChangeAt Go.RowKit
end
end Go.Proofs.YtbiihjdjbknibaaGreat
