/-
  Layer 7: contracts (Hf Ha Ra Rb Rc Rd Re).
-/
import Derived.Test.YtbiihjdjbknibaaGreatC20
namespace Go.Proofs.YtbiihjdjbknibaaGreat
set_option maxRecDepth 100000
set_option maxHeartbeats 8000000
set_option linter.unusedSimpArgs false
set_option linter.unusedVariables false
section
set_option maxRecDepth 100000
theorem seqAt_get {l:List TK} {i:Nat} {t:TK} (h:l[i]?=some t):seqAt l i=t.s:=by unfold seqAt;rw[h];rfl
theorem swp_seq {l:List TK} {j:Nat} (h:j+1 < l.length) (i:Nat):seqAt (swp l j) i=if i=j then seqAt l (j+1) else if i=j+1 then seqAt l j else seqAt l i:=by
 have hx:l[j]?=some l[j]:=List.getElem?_eq_getElem (by omega);have hy:l[j+1]?=some l[j+1]:=List.getElem?_eq_getElem h
 have e:swp l j=(l.set (j+1) l[j]).set j l[j+1]:=by unfold swp;rw[hx,hy]
 rw[e];unfold seqAt;rw[List.getElem?_set,List.getElem?_set]
 by_cases h1:i=j
 ·subst h1;rw[if_pos rfl,if_pos (by rw[List.length_set];omega),if_pos rfl,hy]
 ·rw[if_neg (Ne.symm h1),if_neg h1]
  by_cases h2:i=j+1
  ·subst h2;rw[if_pos rfl,if_pos h,if_pos rfl,hx]
  ·rw[if_neg (Ne.symm h2),if_neg h2]
theorem bub_srt:∀(m N:Nat) (l:List TK),m≤N→N < l.length→(∀a b,a < b→b≤N→b≠m→seqAt l a≤seqAt l b)→∀a b,a < b→b≤N→seqAt (bub m l) a≤seqAt (bub m l) b
 | 0,N,l,_,_,h=>fun a b hab hb=>h a b hab hb (by omega)
 | m+1,N,l,hm,hN,h=>by
  intro a b hab hb;simp only[bub]
  split
  ·rename_i hlt
   refine bub_srt m N (swp l m) (by omega) (by rw[swp_len];exact hN) (fun a b hab hb hbm=>?_) a b hab hb;rw[swp_seq (by omega),swp_seq (by omega)]
   by_cases hb1:b=m+1
   ·subst hb1;rw[if_neg (show ¬m+1=m by omega),if_pos rfl]
    by_cases ha:a=m
    ·subst ha;rw[if_pos rfl];omega
    ·rw[if_neg ha,if_neg (show ¬a=m+1 by omega)];exact h a m (by omega) (by omega) (by omega)
   ·rw[if_neg hbm,if_neg hb1]
    by_cases ha:a=m
    ·subst ha;rw[if_pos rfl];exact h (a+1) b (by omega) hb hb1
    ·rw[if_neg ha]
     by_cases ha1:a=m+1
     ·subst ha1;rw[if_pos rfl];exact h m b (by omega) hb hb1
     ·rw[if_neg ha1];exact h a b hab hb hb1
  ·rename_i hge
   by_cases hb1:b=m+1
   ·subst hb1
    by_cases ha:a=m
    ·subst ha;omega
    ·have:=h a m (by omega) (by omega) (by omega)
     omega
   ·exact h a b hab hb hb1
theorem insG_srt (l:List TK):∀k,k < l.length→∀a b,a < b→b≤k→seqAt (insG l k) a≤seqAt (insG l k) b
 | 0,_=>fun a b hab hb=>absurd hab (by omega)
 | k+1,hk=>by
  simp only[insG]
  refine bub_srt (k+1) (k+1) (insG l k) (Nat.le_refl _) (by rw[insG_len];exact hk) fun a b hab hb hne=>?_
  exact insG_srt l k (by omega) a b hab (by omega)
def SeqLe (a b:TK):Prop:=a.s≤b.s
theorem pw_of_seq {l:List TK} (h:∀a b,a < b→b < l.length→seqAt l a≤seqAt l b):l.Pairwise SeqLe:=by
 rw[List.pairwise_iff_getElem];intro i j hi hj hij
 have:=h i j hij hj
 rw[seqAt_get (List.getElem?_eq_getElem hi),seqAt_get (List.getElem?_eq_getElem hj)] at this;exact this
theorem insG_pw (l:List TK):(insG l (l.length - 1)).Pairwise SeqLe:=by
 apply pw_of_seq
 intro a b hab hb;rw[insG_len] at hb;exact insG_srt l (l.length - 1) (by omega) a b hab (by omega)
def tkOf (s:CSt) (i:Nat):TK:=⟨i,(lookV s i).k,(lookV s i).e,(lookV s i).s,badAt s i⟩
def tkC (s:CSt):Nat→List TK
 | 0=>[]
 | k+1=>tkC s k++(if (lookV s k).w=1 then [tkOf s k] else [])
theorem tkUpto_eq {s:CSt} {p:PSt} (ha:Agree s p):∀k,k≤s.nb→tkUpto s p k=tkC s k
 | 0,_=>rfl
 | k+1,hk=>by
  simp only[tkUpto,tkC];rw[tkUpto_eq ha k (by omega),ha k (by omega)]
  rfl
theorem scan_agree (s:CSt) (l:List PB) (hl:l=scanBl s s.nb) (x y:Nat):Agree s ⟨l,x,y⟩:=fun i hi=>by
 show l[i]?=_
 rw[hl,scanBl,List.getElem?_map,List.getElem?_range hi];simp[hi]
end
section
set_option maxRecDepth 100000
open Go.RowKit
def NonePool (w:World) (v:Value):Prop:=∀w',New w w'→Calls Tryz.prog 85 #[v] w' fun e w''=>e=.returned (.bool true)∧w'=w''
theorem NonePool.nil (w:World):NonePool w (.pointer none):=fun w' _=>pNone_nil w'
theorem NonePool.zero (w:World) (g:Nat) (c0:w.cell? ⟨g,0,none⟩=some (.pointer none)):NonePool w (.pointer (some ⟨g,0,none⟩)):=fun w' h=>pNone_zero g w' (h.cell c0 fun f=>f)
theorem NonePool.new {w w':World} {v:Value} (h:NonePool w v) (hk:New w w'):NonePool w' v:=fun w2 h2=>h w2 (hk.new h2)
theorem zScan (v:Value) (w:World) (h:Hid (NoneAt w v)):
  Calls Tryz.prog 55 #[v] w fun e w'=>e=.returned (.tuple #[.pointer none,.int .i64 1])∧w=w':=by
 go_enter Tryz.func55,Tryz.ntmps55;go_wp2_with fail;refine (zRead v 0 0 _ h).mono ?_;rintro e w' ⟨rfl,rfl⟩;go_wp2;go_ret2;exact⟨rfl,rfl⟩
end
section
set_option maxRecDepth 100000
open Go.ChangeShapes Go.WideShapes Go.ChangeAt Go.RowKit
end
section
set_option maxRecDepth 100000
open Go.ChangeShapes Go.WideShapes Go.ChangeAt Go.RowKit
end
section
set_option maxRecDepth 100000
open Go.ChangeShapes Go.WideShapes Go.ChangeAt Go.RowKit
end
section
set_option maxRecDepth 100000
open Go.ChangeShapes Go.WideShapes Go.ChangeAt Go.RowKit
end
section
set_option maxRecDepth 100000
open Go.ChangeShapes Go.WideShapes Go.ChangeAt Go.RowKit
def InsN (w:World) (k:IntKind) (A:Option Addr) (n:Nat) (l:List Int):Prop:=
 l.length=n∧(∀x∈l,(Lit.int k x).wf=true)∧(0 < n→∃g o:Nat,A=some ⟨g,o,none⟩∧∀(j:Nat) (x:Int),l[j]?=some x→w.cell? ⟨g,o+j,none⟩=some (.int k x))
theorem InsN.at_ {w:World} {k:IntKind} {A:Option Addr} {n:Nat} {l:List Int} {j:Nat} (h:InsN w k A n l) (hj:j < n):
  ∃g o x,A=some ⟨g,o,none⟩∧l[j]?=some x∧(Lit.int k x).wf=true∧w.cell? ⟨g,o+j,none⟩=some (.int k x):=by
 obtain⟨hl,hb,hc⟩:=h;obtain⟨g,o,e,hc⟩:=hc (by omega)
 have hk':j < l.length:=by omega
 exact⟨g,o,l[j],e,List.getElem?_eq_getElem hk',hb _ (List.getElem_mem hk'),hc _ _ (List.getElem?_eq_getElem hk')⟩
theorem InsN.new {w w':World} {k:IntKind} {A:Option Addr} {n:Nat} {l:List Int} (h:InsN w k A n l) (hk:New w w'):InsN w' k A n l:=by
 obtain⟨hl,hb,hc⟩:=h;refine⟨hl,hb,fun h0=>?_⟩;obtain⟨g,o,e,hc⟩:=hc h0;exact⟨g,o,e,fun j x hx=>hk.cell (hc j x hx) (fun f=>f)⟩
def marks (n:Nat) (l:List Int):List Bool:=l.foldl (fun m x=>m.set x.toNat true) (List.replicate n false)
theorem marks_len (n:Nat) (l:List Int):(marks n l).length=n:=by
 unfold marks
 have:∀(l:List Int) (m:List Bool),(l.foldl (fun m x=>m.set x.toNat true) m).length=m.length:=by
  intro l
  induction l with
  | nil=>intro m;rfl
  | cons x r ih=>intro m;rw[List.foldl_cons,ih,List.length_set]
 rw[this,List.length_replicate]
theorem marks_step (n:Nat) (l:List Int) (k:Nat) (x:Int) (hx:l[k]?=some x):(marks n (l.take k)).set x.toNat true=marks n (l.take (k+1)):=by
 have hk:k < l.length:=(List.getElem?_eq_some_iff.1 hx).1;have e:l[k]=x:=(List.getElem?_eq_some_iff.1 hx).2;unfold marks;rw[List.take_succ_eq_append_getElem hk,e,List.foldl_append]
 rfl
def loadS (a b c d:Nat) (by_:List Nat) (bad:List Int):CSt:={ newS a b c d with by_:=by_,bad:=marks a bad }
theorem loadS_ok (a b c d:Nat) (by_:List Nat) (bad:List Int) (h:geoOk a b c d) (hl:by_.length=a*b*c) (hb:IsBytes by_):(loadS a b c d by_ bad).Ok:=
 { newS_ok a b c d h with len:=hl,bytes:=hb,badl:=marks_len a bad }
theorem set_bool (m:List Bool) (k:Nat):(m.map boolV).set k (.bool true)=(m.set k true).map boolV:=by rw[List.map_set];rfl
def allIn (a:Nat) (bl:List Int):Prop:=∀x∈bl,0≤x∧x < a
def LoadP (w:World) (a b c d:Nat) (l:List Nat) (bl:List Int) (e:Ending) (w':World):Prop:=
 (allIn a bl→ChipP w (loadS a b c d l bl) e w')∧(¬allIn a bl→e=.returned (.tuple #[.pointer none,.int .i64 2])∧New w w')
theorem LoadP.no {w w':World} {a b c d:Nat} {l:List Nat} {bl:List Int} {x:Int} (hx:x∈bl) (hn:¬(0≤x∧x < a)) (hk:New w w'):LoadP w a b c d l bl (.returned (.tuple #[.pointer none,.int .i64 2])) w':=
 ⟨fun h=>absurd (h x hx) hn,fun _=>⟨rfl,hk⟩⟩
theorem nLoad_any (a b c d:Nat) (A:Option Addr) (n cA:Nat) (l:List Nat) (B:Option Addr) (m cB:Nat) (bl:List Int) (w:World) (h:geoOk a b c d) (hA:Bts w A n l) (hAn:A=none→cA=0∧n=0) (hn:n≤140737488351232) (hB:InsN w .i64 B m bl) (hm:m≤9223372036854775807) (hlen:n=a*b*c):
  Calls Tryz.prog 21 #[.agg #[.int .i64 a,.int .i64 b,.int .i64 c,.int .i64 d],.slice A n cA,.slice B m cB] w (LoadP w a b c d l bl):=by
 have e1:decide (geoOk a b c d)=true:=decide_eq_true h;have hb2:a*b*c≤524288:=prod_le (by have:=h.1;omega) (by have:=h.2.1;omega) (by have:=h.2.2.1;omega);obtain⟨i0,hi,hz0,hz1,hz2⟩:=info_parts info_bool
 have hmk:=fun u=>run_make_bools (P:=Tryz.prog) 53 4 i0 Tryz.underlying53 hi hz0 hz1 hz2 .i64 .i64 a (by have:=h.1.2;omega) u
 have HG:=jH h;have HOk:=jH (loadS_ok a b c d l bl h (by rw[hA.1];exact hlen) hA.2.1);have HA:=jH hA;have HAn:=jH hAn;have HB:=jH hB;have ha64:=h.1.2;have ha8:=h.1.1;subst hlen;generalize hN:a*b*c=N at *;have HN:=jH hN
 have H0n:Hid (0 < N):=by
  have h1:8*4≤a*b:=Nat.mul_le_mul (by have:=h.1;omega) (by have:=h.2.1;omega);have h2:8*4*128≤a*b*c:=Nat.mul_le_mul h1 (by have:=h.2.2.1;omega)
  show _ < _
  omega
 clear h hN hA hAn hB hz0 hz1 hz2 hi;go_enter Tryz.func21,Tryz.ntmps21;go_wp2_with fail;refine (isGeo_any _ _ _ _ _).mono ?_;rintro e w1 ⟨rfl,hk⟩;rw[e1];clear e1;have BG1:Hid (Blk w1 w.heap.size 51 [.int .i64 a,.int .i64 b,.int .i64 c,.int .i64 d]):=(Blk.made w 51 #[.int .i64 a,.int .i64 b,.int .i64 c,.int .i64 d]).new hk;obtain⟨hc0,hc1,hc2,hc3⟩:=BG1.out.p4;have K1:Hid (New w w1):=(kR.alloc _).new hk;clear hk;go_wp2_with fail;refine (bytesOf_any _ _ _ _ _ (by have:=HG.out.1;omega) (by have:=HG.out.2.1;omega) (by have:=HG.out.2.2.1;omega)).mono ?_;rw[HN.out];rintro e w2 ⟨rfl,hk⟩;have K2:=jH (K1.out.new hk)
 have BG2:=jH (BG1.out.new hk);have hd0:=BG2.out.q0;clear hk hc0 hc1 hc2 hc3 BG1 K1;have hgl:w.heap.size < w2.heap.size:=BG2.out.lt
 have HM0:Hid (Blk (w2.alloc (.cells (((List.replicate a false).map boolV).toArray) 4)) w2.heap.size 4 ((marks a (bl.take 0)).map boolV)):=by
  have:=Blk.made w2 4 (((List.replicate a false).map boolV).toArray)
  simpa [Hid,marks] using this
 have BG3:Hid (Blk (w2.alloc (.cells (((List.replicate a false).map boolV).toArray) 4)) w.heap.size 51 [.int .i64 a,.int .i64 b,.int .i64 c,.int .i64 d]):=BG2.out.alloc _;have K3:Hid (New w (w2.alloc (.cells (((List.replicate a false).map boolV).toArray) 4))):=K2.out.alloc _;clear BG2;go_wp2
 go_loopw [26] (fun i wr=>∃k:Nat,k≤m∧i=.int .i64 k∧Hid (Blk wr w2.heap.size 4 ((marks a (bl.take k)).map boolV))∧Hid (Blk wr w.heap.size 51 [.int .i64 a,.int .i64 b,.int .i64 c,.int .i64 d])∧Hid (New w wr)∧Hid (∀j x,j < k→bl[j]?=some x→0≤x∧x < a)) (fun i _=>m - (intOf i).toNat)
 case atStart=>exact⟨0,Nat.zero_le _,rfl,by simpa [Hid] using HM0,by simpa [Hid] using BG3,by simpa [Hid] using K3,fun j x hj=>absurd hj (by omega)⟩
 case round=>
  obtain⟨k,hk,rfl,V1,V2,V3,V4⟩:=hrel;clear HM0 BG3 K3 hmk hd0;have hd0:=V2.out.q0;have hglr:=V2.out.lt
  by_cases hlt:k < m
  ·obtain⟨gi,oi,x,eB,hx,hwf,hcx⟩:=(HB.out.new V3.out).at_ hlt;have EB:=jH eB;have HX:=jH hx;clear hx hwf;subst eB
   by_cases hin:0≤x∧x < a
   ·have HI:=jH (inB_yes (show 0≤x∧x≤(a:Int) - 1 by omega));obtain⟨j,rfl,hj⟩:=nat_of hin;have hml:=jH (marks_len a (bl.take k))
    have hcm:∃v,wr.cell? ⟨w2.heap.size,j,none⟩=some v:=by
     rw[V1.out.cell];exact⟨_,List.getElem?_eq_getElem (by rw[List.length_map,hml.out];exact hj)⟩
    obtain⟨v,hcv⟩:=hcm;have hfr:=V1.out.free j;go_wp2_with fail;refine (within_any _ _ _ _).mono ?_;rintro e w' ⟨rfl,rfl⟩;rw[HI.out];go_wp2;go_roundw
    case rel=>
     have hks:Kept (·=w2.heap.size) wr (wr.setCell ⟨w2.heap.size,j,none⟩ (.bool true)):=Kept.set1 wr _ _ _;refine⟨k+1,by omega,by go_num,?_,V2.out.kept hks (V2.out.ne_of V1.out (by decide)),V3.out.setCell (p:=⟨w2.heap.size,j,none⟩) (fun hh=>by have:=K2.out.size;simp at hh;omega) _,fun i y hi hy=>?_⟩
     ·have hb1:=V1.out.put j (.bool true);have e:=marks_step a bl k (j:Int) HX.out;rw[Int.toNat_natCast] at e;rw[set_bool,e] at hb1;exact hb1
     ·rcases Nat.lt_or_ge i k with hi2|hi2
      ·exact V4.out i y hi2 hy
      ·obtain rfl:i=k:=by omega
       have:(j:Int)=y:=by have:=HX.out;rw[hy] at this;injection this with this;exact this.symm
       omega
    case measure=>simp[intOf];omega
   ·have HI:=jH (inB_no (show ¬(0≤x∧x≤(a:Int) - 1) by omega));go_wp2_with fail;refine (within_any _ _ _ _).mono ?_;rintro e w' ⟨rfl,rfl⟩;rw[HI.out];go_wp2;go_ret2;exact LoadP.no (List.mem_of_getElem? HX.out) hin V3.out
  ·obtain rfl:k=m:=by omega
   have hall:Hid (allIn a bl):=fun x hx=>by
    obtain⟨j,hj⟩:=List.getElem?_of_mem hx;exact V4.out j x (by rw[←HB.out.1];exact (List.getElem?_eq_some_iff.1 hj).1) hj
   have V1':Hid (Blk wr w2.heap.size 4 ((marks a bl).map boolV)):=by
    have:=V1.out
    rw[List.take_of_length_le (by rw[HB.out.1];exact Nat.le_refl _)] at this;exact this
   clear V1 V4;have hd1:=V2.out.q1;have hd2:=V2.out.q2;have hd3:=V2.out.q3;go_wp2_with fail
   go_region_held3 (fun w'=>w'.cell? ⟨w.heap.size,0,none⟩=some (.int .i64 (a:Int))∧w'.cell? ⟨w.heap.size,1,none⟩=some (.int .i64 (b:Int))∧w'.cell? ⟨w.heap.size,2,none⟩=some (.int .i64 (c:Int))∧w'.cell? ⟨w.heap.size,3,none⟩=some (.int .i64 (d:Int)))
    (first
     | go_keep
     | (go_split_ands;refine⟨?_,?_,?_,?_⟩<;>(refine KM.out.cell ?_ (fun f=>f);assumption))
     | (go_split_ands;refine⟨?_,?_,?_,?_⟩<;>(refine KC.out.cell ?_ (fun f=>f);assumption))
     | fail)
    (first
     | (go_at_call 40;refine (clone_any _ _ _ l _ (HA.out.new (V3.out.drew)) hn HAn.out).mono ?_;rintro e wC ⟨AC,cC,rfl,h1,h2⟩;have OC:=jH h1;have KC:=jH h2;clear h1 h2)
     | (go_at_call 54;refine (made_any _ _ _ _ _ _ _ _ _ _ _).mono ?_;rintro e w4 ⟨g4,bl4,bb4,rfl,h1,h2,h3,h4,h5,h6,h7⟩;have H1:=jH h1;have H2:=jH h2;have H3:=jH h3;have H4:=jH h4;have H5:=jH h5;have H6:=jH h6;have KM:=jH h7;clear h1 h2 h3 h4 h5 h6 h7))
   have K4:New w wC:=(V3.out.drew).new KC.out;have hll:l.length=N:=HA.out.1;obtain⟨gA,jA,rfl,sA,bA,cA1,cA2⟩:=(OC.out.new KM.out).blk (by rw[hll];exact H0n.out);have hs2:w.heap.size≤w2.heap.size:=K2.out.size;have hsr:w.heap.size≤wr.heap.size:=V3.out.size;have hmlen:=marks_len a bl;have hbad:Blk w4 w2.heap.size 4 ((marks a bl).map boolV):=((V1'.out.drew).new KC.out).new KM.out;have s1:=H4.out;have s2:=H5.out;have s3:=H6.out;have hsC:=K4.size;have h1:=H1.out
   have hr:NRep (fun b=>w.heap.size≤b∧b < w4.heap.size) w4 g4 gA w2.heap.size bl4 bb4 cC a none 0 (loadS a b c d l bl):=by
    refine NRep.of_new HOk.out rfl rfl rfl rfl ?_ ⟨jA,bA⟩ ⟨cA1,cA2⟩ ⟨[],by rw[List.append_nil];exact hbad⟩ ?_ H2.out H3.out (by omega) (Nat.le_trans hsr sA) hs2 (by omega) (by omega)
    ·show Blk _ _ _ [_,_,_,_,.slice _ l.length _,.slice _ (marks a bl).length _,_,_,_]
     rw[hmlen];rw[hll] at h1 ⊢;exact h1
    ·show (marks a bl).length≤a∧_
     rw[hmlen];exact⟨Nat.le_refl _,Nat.le_trans (show a≤64 by omega) (by decide)⟩
   have HRes:Hid (ChipP w (loadS a b c d l bl) (.returned (.tuple #[.pointer (some ⟨g4,0,none⟩),.int .i64 0])) w4):=⟨g4,_,rfl,⟨_,_,_,_,_,_,_,_,hr⟩,fun b hb=>hb.1,K4.new KM.out⟩;clear hr h1 hbad K4 s1 s2 s3 bA;go_wp2;go_ret2;exact⟨fun _=>HRes.out,fun hn=>absurd hall.out hn⟩
end
end Go.Proofs.YtbiihjdjbknibaaGreat
