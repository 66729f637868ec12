/-
  Layer 7: contracts (Mw Mx My).
-/
import Derived.Test.YtbiihjdjbknibaaGreatC35
namespace Go.Proofs.YtbiihjdjbknibaaGreat
set_option maxRecDepth 100000
set_option maxHeartbeats 8000000
set_option linter.unusedSimpArgs false
set_option linter.unusedVariables false
section
set_option maxRecDepth 100000
open Go.RowKit
def CutA (U V:List CE) (a mid lo i:Nat):Prop:=i=lo∨∀x y,U[i - 1 - a]?=some x→V[mid - i]?=some y→befK y.f.k x.f.k=false
def CutB (U V:List CE) (a mid hi j:Nat):Prop:=j=hi∨∀x y,U[j - a]?=some x→V[mid - 1 - j]?=some y→befK y.f.k x.f.k=true
def CutH (a m b mid lo hi:Nat):Prop:=a≤lo∧lo≤hi∧hi≤m∧hi≤mid∧mid+m≤lo+b∧(lo+b=mid+m∨lo=a)∧(hi=mid∨hi=m)
theorem ordC_take {U:List CE} (h:ordC (cts U)) (k:Nat):ordC (cts (U.take k))∧ordC (cts (U.drop k)):=by
 rw[←List.take_append_drop k U,cts_append,ordC_append] at h;exact⟨h.1,h.2.1⟩
theorem last_take {U:List CE} {k:Nat} {x:CE} (hk:k≤U.length) (h:(U.take k).getLast?=some x):U[k - 1]?=some x∧0 < k:=by
 rw[List.getLast?_eq_getElem?,List.length_take,Nat.min_eq_left hk] at h
 rcases Nat.eq_zero_or_pos k with h0|h0
 ·subst h0;simp at h
 ·rw[List.getElem?_take,if_pos (by omega)] at h;exact⟨h,h0⟩
theorem head_drop {U:List CE} {k:Nat} {x:CE} (h:(U.drop k).head?=some x):U[k]?=some x:=by
 rw[List.head?_eq_getElem?,List.getElem?_drop] at h;exact h
theorem cut_end {U V:List CE} {a m b mid lo hi s:Nat} (hU:a+U.length=m) (hV:m+V.length=b) (oU:ordC (cts U)) (oV:ordC (cts V)) (h:CutH a m b mid lo hi) (h1:lo≤s) (h2:s≤hi) (cA:CutA U V a mid lo s) (cB:CutB U V a mid hi s):
  (∀u∈U.take (s - a),∀v∈V.drop (mid - s),befK v.f.k u.f.k=false)∧(∀v∈V.take (mid - s),∀u∈U.drop (s - a),befK v.f.k u.f.k=true):=by
 obtain⟨c1,c2,c3,c4,c5,c6,c7⟩:=h
 constructor
 ·rcases cA with rfl|cA
  ·rcases c6 with c6|rfl
   ·rw[List.drop_of_length_le (by omega)];intro u _ v hv;cases hv
   ·rw[Nat.sub_self,List.take_zero];intro u hu;cases hu
  ·refine cut_le (ordC_take oU _).1 (ordC_take oV _).2 fun x y hx hy=>?_
   obtain⟨e1,e2⟩:=last_take (by omega) hx;exact cA x y (by rw[show s - 1 - a=s - a - 1 by omega];exact e1) (head_drop hy)
 ·rcases cB with rfl|cB
  ·rcases c7 with rfl|rfl
   ·rw[Nat.sub_self,List.take_zero];intro u hu;cases hu
   ·rw[List.drop_of_length_le (l:=U) (by omega)];intro u _ v hv;cases hv
  ·refine cut_lt (ordC_take oV _).1 (ordC_take oU _).2 fun y x hy hx=>?_
   obtain⟨e1,e2⟩:=last_take (by omega) hy;exact cB x y (head_drop hx) (by rw[show mid - 1 - s=mid - s - 1 by omega];exact e1)
def SymP (w:World) (g:Nat) (sp:List Value) (P O S:List CE) (e:Ending) (w':World):Prop:=e=.returned (.tuple #[])∧∃M,SrtOf O M∧Blk w' g 105 (ces (P++(M++S))++sp)∧Kept (·=g) w w'
theorem symL_P (g n c a m b:Nat) (P U V S:List CE) (sp:List Value) (w:World) (hb:Blk w g 105 (ces (P++(U++(V++S)))++sp)) (ha:P.length=a) (hU:a+U.length=m) (hm:a+1=m) (hV:m+V.length=b) (ho:ordC (cts V)) (hbn:b≤n) (hn:n≤140737488351232):
  Calls Tryz.prog 137 #[.slice (some ⟨g,0,none⟩) n c,.int .i64 (a:Nat),.int .i64 (m:Nat),.int .i64 (b:Nat),.func (.func 94) #[] #[]] w (SymP w g sp P (U++V) S):=by
 match U,(show U.length=1 by omega) with
 | [u],_=>
  refine (symL_any g n c a m b P V S u sp w hb ha hm hV ho hbn hn).mono ?_;rintro e w' ⟨V1,V2,rfl,h1,h2,rfl,h3,h4⟩;exact⟨rfl,V1++u::V2,left_math ho h1 h2,by simpa only[List.append_assoc,List.cons_append] using h3,h4⟩
theorem symR_P (g n c a m b:Nat) (P U V S:List CE) (sp:List Value) (w:World) (hb:Blk w g 105 (ces (P++(U++(V++S)))++sp)) (ha:P.length=a) (hU:a+U.length=m) (hm:m+1=b) (hV:m+V.length=b) (h2:a+1 < m) (ho:ordC (cts U)) (hbn:b≤n) (hn:n≤140737488351232):
  Calls Tryz.prog 137 #[.slice (some ⟨g,0,none⟩) n c,.int .i64 (a:Nat),.int .i64 (m:Nat),.int .i64 (b:Nat),.func (.func 94) #[] #[]] w (SymP w g sp P (U++V) S):=by
 match V,(show V.length=1 by omega) with
 | [v],_=>
  refine (symR_any g n c a m b P U S v sp w hb ha hU hm h2 ho hbn hn).mono ?_;rintro e w' ⟨U1,U2,rfl,h1,h2,rfl,h3,h4⟩;exact⟨rfl,U1++v::U2,right_math ho h1 h2,by simpa only[List.append_assoc,List.cons_append] using h3,h4⟩
end
section
set_option maxRecDepth 100000
open Go.ChangeShapes Go.WideShapes Go.ChangeAt Go.RowKit
structure Parts (U V U1 U2 V1 V2:List CE) (a m b mid s en:Nat):Prop where
 eU:U=U1++U2
 eV:V=V1++V2
 l1:a+U1.length=s
 l2:s+U2.length=m
 l3:s+V1.length=mid
 l4:en+V2.length=b
 l5:m+V1.length=en
 l6:mid+U2.length=en
 hA:∀u∈U1,∀v∈V2,befK v.f.k u.f.k=false
 hB:∀v∈V1,∀u∈U2,befK v.f.k u.f.k=true
theorem Parts.ord {U V U1 U2 V1 V2:List CE} {a m b mid s en:Nat} (h:Parts U V U1 U2 V1 V2 a m b mid s en) (oU:ordC (cts U)) (oV:ordC (cts V)):ordC (cts U1)∧ordC (cts U2)∧ordC (cts V1)∧ordC (cts V2):=by
 rw[h.eU,cts_append,ordC_append] at oU;rw[h.eV,cts_append,ordC_append] at oV;exact⟨oU.1,oU.2.1,oV.1,oV.2.1⟩
theorem parts_of {U V:List CE} {a m b mid lo hi s en:Nat} (hU:a+U.length=m) (hV:m+V.length=b) (oU:ordC (cts U)) (oV:ordC (cts V)) (h:CutH a m b mid lo hi) (h1:lo≤s) (h2:s≤hi) (cA:CutA U V a mid lo s) (cB:CutB U V a mid hi s) (he:en+s=mid+m):
  Parts U V (U.take (s - a)) (U.drop (s - a)) (V.take (mid - s)) (V.drop (mid - s)) a m b mid s en:=by
 obtain⟨e1,e2⟩:=cut_end hU hV oU oV h h1 h2 cA cB;obtain⟨c1,c2,c3,c4,c5,c6,c7⟩:=h;exact⟨(List.take_append_drop _ _).symm,(List.take_append_drop _ _).symm,by rw[List.length_take];omega,by rw[List.length_drop];omega,by rw[List.length_take];omega,by rw[List.length_drop];omega,by rw[List.length_take];omega,by rw[List.length_drop];omega,e1,e2⟩
theorem len0 {l:List CE} {a:Nat} (h:a+l.length=a):l=[]:=List.length_eq_zero_iff.1 (by omega)
theorem symM_any (g n c:Nat) (sp:List Value) (hn:n≤140737488351232) (N:Nat):∀(a m b:Nat) (P U V S:List CE) (w:World),b≤a+N→Blk w g 105 (ces (P++(U++(V++S)))++sp)→P.length=a→a+U.length=m→m+V.length=b→a < m→m < b→ordC (cts U)→ordC (cts V)→b≤n →
  Calls Tryz.prog 137 #[.slice (some ⟨g,0,none⟩) n c,.int .i64 (a:Nat),.int .i64 (m:Nat),.int .i64 (b:Nat),.func (.func 94) #[] #[]] w (SymP w g sp P (U++V) S):=by
 induction N with
 | zero=>intro a m b P U V S w h0 _ _ _ _ h1 h2;omega
 | succ N ih=>
  intro a m b P U V S w h0 hb ha hU hV h1 h2 oU oV hbn
  by_cases hL:a+1=m
  ·exact symL_P g n c a m b P U V S sp w hb ha hU hL hV oV hbn hn
  by_cases hR:m+1=b
  ·exact symR_P g n c a m b P U V S sp w hb ha hU hR hV (by omega) oU hbn hn
  have t1:((m:Int) - (a:Int) == 1)=false:=beq_eq_false_iff_ne.2 (by omega);have t2:((b:Int) - (m:Int) == 1)=false:=beq_eq_false_iff_ne.2 (by omega);obtain⟨mid,hmid⟩:∃mid:Nat,mid=(a+b) / 2:=⟨_,rfl⟩
  have s0:((a:Int)+(b:Int)) / 2=(mid:Int):=by omega
  obtain⟨nn,hnn⟩:∃nn:Nat,nn=mid+m:=⟨_,rfl⟩
  have s1:(mid:Int)+(m:Int)=(nn:Int):=by omega
  obtain⟨q,hq⟩:∃q:Nat,q+1=nn:=⟨nn - 1,by omega⟩
  have s2:(nn:Int) - 1=(q:Int):=by omega
  have hma:a < mid:=by omega
  have hmb:mid < b:=by omega
  have hmi:2*mid≤a+b∧a+b≤2*mid+1:=by omega
  have hnb:nn≤2*n:=by omega
  have HMI:=jH hmi;have HNN:=jH hnn;have HQ:=jH hq;have HB:=jH hb;have HP:=jH ha;have HU:=jH hU;have HV:=jH hV;have HOU:=jH oU;have HOV:=jH oV;have IH:=jH ih;have H0:=jH h0;clear hmid hnn hq hb ha hU hV oU oV ih hL hR hmi h0;go_enter Tryz.func137,Tryz.ntmps137
  go_upto_if 140 with fail
  go_cut [20,21] (fun vs vr wx=>∃lo hi:Nat,lo≤hi∧hi≤m∧hi≤mid∧a≤lo∧vs=.int .i64 lo∧vr=.int .i64 hi∧Hid (CutH a m b mid lo hi)∧w=wx)
  case first=>
   as_aux_lemma=>
    by_cases hmm:mid < m
    ·have d2:decide (mid < m)=true:=decide_eq_true hmm;obtain⟨lo,hlo⟩:∃lo:Nat,lo+b=nn:=⟨nn - b,by have:=HNN.out;have:=HMI.out;omega⟩
     have s3:(nn:Int) - (b:Int)=(lo:Int):=by omega
     have HC:Hid (CutH a m b mid lo mid):=by
      have:=HNN.out
      have:=HMI.out
      exact⟨by omega,by omega,by omega,by omega,by omega,.inl (by omega),.inl rfl⟩
     have l1:lo≤mid:=HC.out.2.1;have l2:a≤lo:=HC.out.1
     have l3:mid≤m:=by omega
     clear hlo;go_wp2
     go_meet
     case rel=>exact⟨lo,mid,l1,l3,Nat.le_refl _,l2,rfl,rfl,HC,rfl⟩
    ·have d2:decide (mid < m)=false:=decide_eq_false hmm
     have HC:Hid (CutH a m b mid a m):=by
      have:=HMI.out
      exact⟨by omega,by omega,by omega,by omega,by omega,.inr rfl,.inr rfl⟩
     have l3:m≤mid:=by omega
     have l1:a≤m:=by omega
     go_wp2
     go_meet
     case rel=>exact⟨a,m,l1,Nat.le_refl _,l3,Nat.le_refl _,rfl,rfl,HC,rfl⟩
  case rest=>
   obtain⟨lo,hi,b1,b2,b3,b4,rfl,rfl,HC,rfl⟩:=hcut;go_wp2_with fail
   go_loopw [20,21] (fun ti tj wr=>∃i j:Nat,lo≤i∧i≤j∧j≤hi∧ti=.int .i64 i∧tj=.int .i64 j∧Hid (CutA U V a mid lo i)∧Hid (CutB U V a mid hi j)∧Hid (New w wr)) (fun ti tj _=>(intOf tj).toNat - (intOf ti).toNat)
   case atStart=>exact⟨lo,hi,Nat.le_refl _,b1,Nat.le_refl _,rfl,rfl,.inl rfl,.inl rfl,kR⟩
   case round=>
    obtain⟨i,j,him,hij,hjb,rfl,rfl,VI,VJ,VN⟩:=hrel
    by_cases hlt:i < j
    ·obtain⟨h,hh0⟩:∃h:Nat,h=(i+j) / 2:=⟨_,rfl⟩
     have hh1:i≤h:=by omega
     have hh2:h < j:=by omega
     have s3:((i:Int)+(j:Int)) / 2=(h:Int):=by omega
     obtain⟨e,he⟩:∃e:Nat,e+h=q:=⟨q - h,by have:=HQ.out;have:=HNN.out;omega⟩;have hce:=HC.out.2.2.2.2.1
     have hem:e=m+(mid - 1 - h):=by have:=HQ.out;have:=HNN.out;omega
     have heb:e < b:=by have:=HQ.out;have:=HNN.out;omega
     obtain⟨x,hxx⟩:∃x,U[h - a]?=some x:=⟨_,List.getElem?_eq_getElem (by have:=HU.out;omega)⟩;obtain⟨y,hyy⟩:∃y,V[mid - 1 - h]?=some y:=⟨_,List.getElem?_eq_getElem (by have:=HV.out;omega)⟩
     have hx:(P++(U++(V++S)))[h]?=some x:=by
      rw[List.getElem?_append_right (by rw[HP.out];omega),HP.out,List.getElem?_append_left (List.getElem?_eq_some_iff.1 hxx).1];exact hxx
     have hy:(P++(U++(V++S)))[e]?=some y:=by
      have h9:=HU.out;rw[List.getElem?_append_right (by rw[HP.out];omega),HP.out,List.getElem?_append_right (by omega),show e - a - U.length=mid - 1 - h by omega,List.getElem?_append_left (List.getElem?_eq_some_iff.1 hyy).1];exact hyy
     have HLO:Hid (befK y.f.k x.f.k=false→CutA U V a mid lo (h+1)):=fun hb=>.inr fun x' y' hx' hy'=>by
      rw[show h+1 - 1 - a=h - a by omega,hxx] at hx';rw[show mid - (h+1)=mid - 1 - h by omega,hyy] at hy'
      injection hx' with hx'
      injection hy' with hy'
      rw[←hx',←hy'];exact hb
     have HHI:Hid (befK y.f.k x.f.k=true→CutB U V a mid hi h):=fun hb=>.inr fun x' y' hx' hy'=>by
      rw[hxx] at hx';rw[hyy] at hy'
      injection hx' with hx'
      injection hy' with hy'
      rw[←hx',←hy'];exact hb
     have VB:=HB.out.kept VN.out id;have y0:wr.cell? ⟨g,h*6,none⟩=some (.int .i64 x.f.k.i):=crow_cell (j:=0) VB hx (by omega) rfl
     have p0:=fun d os=>cell_regrown y0 d os
     have y1:wr.cell? ⟨g,h*6+1,none⟩=some (.int .u8 (x.f.k.t:Nat)):=crow_cell (j:=1) VB hx (by omega) rfl
     have p1:=fun d os=>cell_regrown y1 d os
     have y2:wr.cell? ⟨g,h*6+2,none⟩=some (.string x.f.k.n):=crow_cell (j:=2) VB hx (by omega) rfl
     have p2:=fun d os=>cell_regrown y2 d os
     have y3:wr.cell? ⟨g,h*6+3,none⟩=some (.int .i64 x.f.k.c):=crow_cell (j:=3) VB hx (by omega) rfl
     have p3:=fun d os=>cell_regrown y3 d os
     have y4:wr.cell? ⟨g,h*6+4,none⟩=some (.slice x.A x.f.v.length x.c):=crow_cell (j:=4) VB hx (by omega) rfl
     have p4:=fun d os=>cell_regrown y4 d os
     have y5:wr.cell? ⟨g,h*6+5,none⟩=some (.bool x.f.g):=crow_cell (j:=5) VB hx (by omega) rfl
     have p5:=fun d os=>cell_regrown y5 d os
     have z0:wr.cell? ⟨g,e*6,none⟩=some (.int .i64 y.f.k.i):=crow_cell (j:=0) VB hy (by omega) rfl
     have r0:=fun d os=>cell_regrown z0 d os
     have z1:wr.cell? ⟨g,e*6+1,none⟩=some (.int .u8 (y.f.k.t:Nat)):=crow_cell (j:=1) VB hy (by omega) rfl
     have r1:=fun d os=>cell_regrown z1 d os
     have z2:wr.cell? ⟨g,e*6+2,none⟩=some (.string y.f.k.n):=crow_cell (j:=2) VB hy (by omega) rfl
     have r2:=fun d os=>cell_regrown z2 d os
     have z3:wr.cell? ⟨g,e*6+3,none⟩=some (.int .i64 y.f.k.c):=crow_cell (j:=3) VB hy (by omega) rfl
     have r3:=fun d os=>cell_regrown z3 d os
     have z4:wr.cell? ⟨g,e*6+4,none⟩=some (.slice y.A y.f.v.length y.c):=crow_cell (j:=4) VB hy (by omega) rfl
     have r4:=fun d os=>cell_regrown z4 d os
     have z5:wr.cell? ⟨g,e*6+5,none⟩=some (.bool y.f.g):=crow_cell (j:=5) VB hy (by omega) rfl
     have r5:=fun d os=>cell_regrown z5 d os
     clear y0 z0 y1 z1 y2 z2 y3 z3 y4 z4 y5 z5;have cB:=jH (fun (d:Nat) (os:Array Obj)=>Calls.regrown_of (d:=d) (os:=os) ((cmpC_any y x (Go.Sort.grow (redrawn wr d) os)).mono fun e w' hh=>⟨hh.1,hh.2.below⟩));obtain⟨z,hz⟩:∃z,cmpK y.f.k x.f.k=z:=⟨_,rfl⟩;rw[hz] at cB
     have HZ:Hid (befK y.f.k x.f.k=decide (z < 0)):=by rw[←hz];rfl
     have u0:IntKind.i64.wrap ((q:Int) - (h:Int))=(e:Int):=by rw[IntKind.wrap_i64];omega
     have u1:(h:Int) < (n:Int):=by omega
     have u2:(e:Int) < (n:Int):=by omega
     clear hz hx hy VB hxx hyy hh0 he hem hce
     have hd2:decide (z < 0)=true∨decide (z < 0)=false:=by cases decide (z < 0)<;>simp
     rcases hd2 with d2|d2
     ·as_aux_lemma=>
       have HNEW:=jH (HHI.out (HZ.out.trans d2));go_wp2_with fail;refine wp_region_quiet_below (by kernel_rfl) (by kernel_rfl) ?_
       repeat (quiet_step (first
        | (go_at_call 94;exact cB.out _ _)))
       refine wpQuiet_nil ?_;intro _ hw';obtain⟨⟨dq,osq⟩,hw''⟩:=hw';subst hw'';have K9:Hid (New w (Go.Sort.grow (redrawn wr dq) osq)):=new_regrown VN.out dq osq;clear cB p0 r0 p1 r1 p2 r2 p3 r3 p4 r4 p5 r5;go_wp2;go_roundw
       case rel=>exact⟨i,h,him,hh1,by omega,rfl,rfl,VI,HNEW,K9⟩
       case measure=>simp[intOf];omega
     ·as_aux_lemma=>
       have HNEW:=jH (HLO.out (HZ.out.trans d2));go_wp2_with fail;refine wp_region_quiet_below (by kernel_rfl) (by kernel_rfl) ?_
       repeat (quiet_step (first
        | (go_at_call 94;exact cB.out _ _)))
       refine wpQuiet_nil ?_;intro _ hw';obtain⟨⟨dq,osq⟩,hw''⟩:=hw';subst hw'';have K9:Hid (New w (Go.Sort.grow (redrawn wr dq) osq)):=new_regrown VN.out dq osq;clear cB p0 r0 p1 r1 p2 r2 p3 r3 p4 r4 p5 r5;go_wp2;go_roundw
       case rel=>exact⟨h+1,j,by omega,by omega,hjb,by go_num,rfl,HNEW,VJ,K9⟩
       case measure=>simp[intOf];omega
    ·have hij2:i=j:=by omega
     subst hij2;clear hlt hij;obtain⟨en,hen⟩:∃en:Nat,en+i=nn:=⟨nn - i,by have:=HNN.out;omega⟩
     have s3:(nn:Int) - (i:Int)=(en:Int):=by omega
     have HPT:=jH (parts_of (s:=i) (en:=en) HU.out HV.out HOU.out HOV.out HC.out him hjb VI.out VJ.out (hen.trans HNN.out));generalize U.take (i - a)=U1 at HPT;generalize U.drop (i - a)=U2 at HPT;generalize V.take (mid - i)=V1 at HPT;generalize V.drop (mid - i)=V2 at HPT;have HO4:=jH (HPT.out.ord HOU.out HOV.out)
     have HBW:Hid (Blk wr g 105 (ces ((P++U1)++(U2++(V1++(V2++S))))++sp)):=by
      have:=HB.out.kept VN.out id
      rw[HPT.out.eU,HPT.out.eV] at this;simpa only[List.append_assoc,Hid] using this
     have KW:Hid (Kept (·=g) w wr):=VN.out.mono fun _ _ f=>f.elim
     have e1:m≤en:=by have:=HPT.out.l5;omega
     have e2:en≤b:=by have:=HPT.out.l4;omega
     have e3:mid≤en:=by have:=HPT.out.l6;omega
     have e4:a≤i:=by omega
     have e5:i≤mid:=by omega
     have e6:i≤m:=by omega
     clear VI VJ VN hen HB
     go_upto_region 39 with fail
     go_cut [185] (fun v wx=>∃r:Bool,v=.bool r∧Hid (r=decide (i < m∧m < en))∧wr=wx)
     case first=>
      as_aux_lemma=>
       by_cases h3:i < m
       ·have d1:decide (i < m)=true:=decide_eq_true h3
        by_cases h4:m < en
        ·have d2:decide (m < en)=true:=decide_eq_true h4;go_wp2
         go_meet
         case rel=>exact⟨true,rfl,(decide_eq_true ⟨h3,h4⟩).symm,rfl⟩
        ·have d2:decide (m < en)=false:=decide_eq_false h4;go_wp2
         go_meet
         case rel=>exact⟨false,rfl,(decide_eq_false fun h=>h4 h.2).symm,rfl⟩
       ·have d1:decide (i < m)=false:=decide_eq_false h3;go_wp2
        go_meet
        case rel=>exact⟨false,rfl,(decide_eq_false fun h=>h3 h.1).symm,rfl⟩
     case rest=>
      obtain⟨r,rfl,HR1,rfl⟩:=hcut
      go_upto_if 185 with fail
      go_cut [] (fun wx=>Hid (Blk wx g 105 (ces (P++(U1++(V1++(U2++(V2++S)))))++sp))∧Hid (Kept (·=g) w wx))
      case first=>
       as_aux_lemma=>
        cases r with
        | true=>
         have h34:=of_decide_eq_true HR1.out.symm;have RT:=jH (rot_any g n c i m en (P++U1) U2 V1 (V2++S) sp (.func (.func 94) #[] #[]) wr HBW.out (by rw[List.length_append,HP.out];exact HPT.out.l1) HPT.out.l2 HPT.out.l5 h34.1 h34.2 (by omega) hn);clear h34 HR1;go_wp2_with fail;refine RT.out.mono ?_;rintro e w2 ⟨rfl,hb2,hk2⟩
         have HB2:Hid (Blk w2 g 105 (ces (P++(U1++(V1++(U2++(V2++S)))))++sp)):=by
          rw[List.append_assoc P] at hb2;exact hb2
         have HK2:Hid (Kept (·=g) w w2):=KW.out.trans hk2 fun _ _ h=>h
         clear hb2 hk2 RT HBW KW;go_wp2
         go_meet
         exact⟨HB2,HK2⟩
        | false=>
         have HB2:Hid (Blk wr g 105 (ces (P++(U1++(V1++(U2++(V2++S)))))++sp)):=by
          have h34:=of_decide_eq_false HR1.out.symm
          have:=HBW.out
          by_cases h3:i < m
          ·have h5:en=m:=by omega
           have h6:V1=[]:=len0 (a:=m) (by have:=HPT.out.l5;omega);rw[h6] at this ⊢;simpa only[List.append_assoc,List.nil_append,Hid] using this
          ·have h6:U2=[]:=len0 (a:=m) (by have:=HPT.out.l2;omega);rw[h6] at this ⊢;simpa only[List.append_assoc,List.nil_append,Hid] using this
         clear HR1 HBW;go_wp2
         go_meet
         exact⟨HB2,KW⟩
      case rest=>
       obtain⟨w1,hw1⟩:∃u,u=wc:=⟨_,rfl⟩;subst hw1;obtain⟨HB1,HK1⟩:=hcut;clear KW HBW HR1
       go_upto_region 41 with fail
       go_cut [199] (fun v wx=>∃r:Bool,v=.bool r∧Hid (r=decide (a < i∧i < mid))∧w1=wx)
       case first=>
        as_aux_lemma=>
         by_cases h3:a < i
         ·have d1:decide (a < i)=true:=decide_eq_true h3
          by_cases h4:i < mid
          ·have d2:decide (i < mid)=true:=decide_eq_true h4;go_wp2
           go_meet
           case rel=>exact⟨true,rfl,(decide_eq_true ⟨h3,h4⟩).symm,rfl⟩
          ·have d2:decide (i < mid)=false:=decide_eq_false h4;go_wp2
           go_meet
           case rel=>exact⟨false,rfl,(decide_eq_false fun h=>h4 h.2).symm,rfl⟩
         ·have d1:decide (a < i)=false:=decide_eq_false h3;go_wp2
          go_meet
          case rel=>exact⟨false,rfl,(decide_eq_false fun h=>h3 h.1).symm,rfl⟩
       case rest=>
        obtain⟨r,rfl,HR2,rfl⟩:=hcut
        go_upto_if 199 with fail
        go_cut [] (fun wx=>Hid (∃M1,SrtOf (U1++V1) M1∧Blk wx g 105 (ces (P++(M1++(U2++(V2++S))))++sp)∧Kept (·=g) w wx))
        case first=>
         as_aux_lemma=>
          cases r with
          | true=>
           have h34:=of_decide_eq_true HR2.out.symm;have RT:=jH (IH.out a i mid P U1 V1 (U2++(V2++S)) w1 (by have:=H0.out;omega) HB1.out HP.out HPT.out.l1 HPT.out.l3 h34.1 h34.2 HO4.out.1 HO4.out.2.2.1 (by omega));clear h34 HR2;go_wp2_with fail;refine RT.out.mono ?_;rintro e w2 ⟨rfl,hm⟩
           have HM:Hid (∃M1,SrtOf (U1++V1) M1∧Blk w2 g 105 (ces (P++(M1++(U2++(V2++S))))++sp)∧Kept (·=g) w w2):=by
            obtain⟨M1,h1,h2,h3⟩:=hm;exact⟨M1,h1,h2,HK1.out.trans h3 fun _ _ h=>h⟩
           clear hm RT HB1 HK1;go_wp2
           go_meet
           exact HM
          | false=>
           have HM:Hid (∃M1,SrtOf (U1++V1) M1∧Blk w1 g 105 (ces (P++(M1++(U2++(V2++S))))++sp)∧Kept (·=g) w w1):=by
            have h34:=of_decide_eq_false HR2.out.symm;refine⟨U1++V1,?_,by simpa only[List.append_assoc] using HB1.out,HK1.out⟩
            by_cases h3:a < i
            ·have h6:V1=[]:=len0 (a:=i) (by have:=HPT.out.l3;omega);rw[h6,List.append_nil];exact SrtOf.self HO4.out.1
            ·have h6:U1=[]:=len0 (a:=a) (by have:=HPT.out.l1;omega);rw[h6,List.nil_append];exact SrtOf.self HO4.out.2.2.1
           clear HR2 HB1 HK1;go_wp2
           go_meet
           exact HM
        case rest=>
         obtain⟨w2,hw2⟩:∃u,u=wc:=⟨_,rfl⟩;subst hw2;have HM1:=hcut;clear HB1 HK1 HR2 hcut
         go_upto_region 43 with fail
         go_cut [213] (fun v wx=>∃r:Bool,v=.bool r∧Hid (r=decide (mid < en∧en < b))∧w2=wx)
         case first=>
          as_aux_lemma=>
           by_cases h3:mid < en
           ·have d1:decide (mid < en)=true:=decide_eq_true h3
            by_cases h4:en < b
            ·have d2:decide (en < b)=true:=decide_eq_true h4;go_wp2
             go_meet
             case rel=>exact⟨true,rfl,(decide_eq_true ⟨h3,h4⟩).symm,rfl⟩
            ·have d2:decide (en < b)=false:=decide_eq_false h4;go_wp2
             go_meet
             case rel=>exact⟨false,rfl,(decide_eq_false fun h=>h4 h.2).symm,rfl⟩
           ·have d1:decide (mid < en)=false:=decide_eq_false h3;go_wp2
            go_meet
            case rel=>exact⟨false,rfl,(decide_eq_false fun h=>h3 h.1).symm,rfl⟩
         case rest=>
          obtain⟨r,rfl,HR3,rfl⟩:=hcut
          have HEND:Hid (∀w3 M1 M2,SrtOf (U1++V1) M1→SrtOf (U2++V2) M2→Blk w3 g 105 (ces (P++(M1++(M2++S)))++sp)→Kept (·=g) w w3→SymP w g sp P (U++V) S (.returned (.tuple #[])) w3):=fun w3 M1 M2 q1 q2 q3 q4=>by
           refine⟨rfl,M1++M2,?_,by simpa only[List.append_assoc] using q3,q4⟩;have oU:=HOU.out;have oV:=HOV.out;rw[HPT.out.eU] at oU ⊢;rw[HPT.out.eV] at oV ⊢;exact sym_math q1 q2 oU oV HPT.out.hA HPT.out.hB
          cases r with
          | true=>
           have h34:=of_decide_eq_true HR3.out.symm;obtain⟨M1,q1,q2,q3⟩:=HM1.out;have Q1:=jH q1;have Q3:=jH q3;have RT:=jH (IH.out mid en b (P++M1) U2 V2 S w2 (by have:=H0.out;omega) (by rw[List.append_assoc];exact q2) (by rw[List.length_append,HP.out,q1.1,List.length_append];have:=HPT.out.l1;have:=HPT.out.l3;omega) HPT.out.l6 HPT.out.l4 h34.1 h34.2 HO4.out.2.1 HO4.out.2.2.2 hbn);clear h34 HR3 q1 q2 q3 HM1;go_wp2_with fail;refine RT.out.mono ?_;rintro e w3 ⟨rfl,hm⟩
           have E9:Hid (SymP w g sp P (U++V) S (.returned (.tuple #[])) w3):=by
            obtain⟨M2,r1,r2,r3⟩:=hm;exact HEND.out w3 M1 M2 Q1.out r1 (by rw[List.append_assoc P] at r2;exact r2) (Q3.out.trans r3 fun _ _ h=>h)
           clear hm RT Q1 Q3 HEND;go_wp2
           go_end0
           exact E9.out
          | false=>
           have E9:Hid (SymP w g sp P (U++V) S (.returned (.tuple #[])) w2):=by
            have h34:=of_decide_eq_false HR3.out.symm;obtain⟨M1,q1,q2,q3⟩:=HM1.out;refine HEND.out w2 M1 (U2++V2) q1 ?_ (by simpa only[List.append_assoc] using q2) q3
            by_cases h3:mid < en
            ·have h6:V2=[]:=len0 (a:=en) (by have:=HPT.out.l4;omega);rw[h6,List.append_nil];exact SrtOf.self HO4.out.2.1
            ·have h6:U2=[]:=len0 (a:=mid) (by have:=HPT.out.l6;omega);rw[h6,List.nil_append];exact SrtOf.self HO4.out.2.2.2
           clear HR3 HM1 HEND;go_wp2
           go_end0
           exact E9.out
end
section
set_option maxRecDepth 100000
open Go.RowKit
inductive SB (B:Nat):List CE→List CE→Prop
 | nil:SB B [] []
 | cons {O M O' M':List CE}:O'.length=B→SrtOf O' M'→SB B O M→SB B (O'++O) (M'++M)
theorem SB.snoc {B:Nat} {O M O' M':List CE} (h:SB B O M) (hl:O'.length=B) (hs:SrtOf O' M'):SB B (O++O') (M++M'):=by
 induction h with
 | nil=>
  have:=SB.cons hl hs SB.nil
  simpa using this
 | cons h1 h2 _ ih=>
  rw[List.append_assoc,List.append_assoc];exact SB.cons h1 h2 ih
theorem SB.len {B:Nat} {O M:List CE} (h:SB B O M):M.length=O.length:=by
 induction h with
 | nil=>rfl
 | cons _ h2 _ ih=>rw[List.length_append,List.length_append,h2.1,ih]
theorem SB.two {B:Nat} {O M O2:List CE} (h:SB B O M) (h2:O2.length < B) (hr:2*B≤O.length+O2.length):
  ∃A1 A2 A M1 M2 R,O=A1++(A2++A)∧M=M1++(M2++R)∧A1.length=B∧A2.length=B∧SrtOf A1 M1∧SrtOf A2 M2∧SB B A R:=by
 cases h with
 | nil=>simp at hr;omega
 | cons h1 hs h3=>
  cases h3 with
  | nil=>simp at hr;omega
  | cons k1 ks k3=>exact⟨_,_,_,_,_,_,rfl,rfl,h1,k1,hs,ks,k3⟩
theorem SB.one {B:Nat} {O M O2:List CE} (h:SB B O M) (hr:O.length+O2.length < 2*B):(O=[]∧M=[])∨(O.length=B∧SrtOf O M):=by
 cases h with
 | nil=>exact .inl ⟨rfl,rfl⟩
 | cons h1 hs h3=>
  cases h3 with
  | nil=>exact .inr ⟨by simpa using h1,by simpa using hs⟩
  | cons k1 ks k3=>simp at hr;omega
theorem SrtOf.nil:SrtOf [] []:=⟨rfl,trivial,fun _=>rfl⟩
theorem SB.all {B:Nat} {O1 M1 O2 M2:List CE} (h:SB B O1 M1) (hs:SrtOf O2 M2) (h2:O2.length < B) (hr:O1.length+O2.length≤B):SrtOf (O1++O2) (M1++M2):=by
 rcases h.one (O2:=O2) (by omega) with ⟨rfl,rfl⟩|⟨h3,h4⟩
 ·exact hs
 ·have e2:O2=[]:=List.length_eq_zero_iff.1 (by omega);have e3:M2=[]:=List.length_eq_zero_iff.1 (by rw[hs.1,e2];rfl);rw[e2,e3,List.append_nil,List.append_nil];exact h4
def SBT (B:Nat) (O L:List CE):Prop:=∃O1 O2 M1 M2,O=O1++O2∧L=M1++M2∧SB B O1 M1∧SrtOf O2 M2∧O2.length < B
theorem SBT.len {B:Nat} {O L:List CE} (h:SBT B O L):L.length=O.length:=by
 obtain⟨O1,O2,M1,M2,rfl,rfl,h1,h2,_⟩:=h;rw[List.length_append,List.length_append,h1.len,h2.1]
theorem SBT.all {B:Nat} {O L:List CE} (h:SBT B O L) (hn:O.length≤B):SrtOf O L:=by
 obtain⟨O1,O2,M1,M2,rfl,rfl,h1,h2,h3⟩:=h;exact h1.all h2 h3 (by rw[List.length_append] at hn;exact hn)
def SB1 (a:Nat) (O L:List CE):Prop:=∃O1 M1 R,O=O1++R∧L=M1++R∧SB 20 O1 M1∧O1.length=a
def SB2 (B a:Nat) (O L:List CE):Prop:=∃O1 M1 A R O2 T,O=O1++(A++O2)∧L=M1++(R++T)∧SB (2*B) O1 M1∧O1.length=a∧SB B A R∧SrtOf O2 T∧O2.length < B
theorem SBT.start {B:Nat} {O L:List CE} (h:SBT B O L):SB2 B 0 O L:=by
 obtain⟨O1,O2,M1,M2,rfl,rfl,h1,h2,h3⟩:=h;exact⟨[],[],O1,M1,O2,M2,rfl,rfl,SB.nil,rfl,h1,h2,h3⟩
theorem SB2.step {B a:Nat} {O L:List CE} (h:SB2 B a O L) (hr:a+2*B≤O.length):
  ∃P U V S,L=P++(U++(V++S))∧P.length=a∧U.length=B∧V.length=B∧ordC (cts U)∧ordC (cts V)∧∀M,SrtOf (U++V) M→SB2 B (a+2*B) O (P++(M++S)):=by
 obtain⟨O1,M1,A,R,O2,T,rfl,rfl,h1,h2,h3,h4,h5⟩:=h;obtain⟨A1,A2,A,N1,N2,R,rfl,rfl,k1,k2,k3,k4,k5⟩:=h3.two h5 (by simp only[List.length_append] at hr ⊢;omega);refine⟨M1,N1,N2,R++T,by simp only[List.append_assoc],by rw[h1.len];exact h2,by rw[k3.1];exact k1,by rw[k4.1];exact k2,k3.2.1,k4.2.1,fun M hM=>?_⟩;refine⟨O1++(A1++A2),M1++M,A,R,O2,T,by simp only[List.append_assoc],by simp only[List.append_assoc],h1.snoc (by rw[List.length_append];omega) (k3.parts k4 hM),by simp only[List.length_append];omega,k5,h4,h5⟩
theorem SB2.last {B a:Nat} {O L:List CE} (h:SB2 B a O L) (hr:O.length < a+2*B) (hm:a+B < O.length):
  ∃P U V,L=P++(U++(V++[]))∧P.length=a∧U.length=B∧a+B+V.length=O.length∧ordC (cts U)∧ordC (cts V)∧∀M,SrtOf (U++V) M→SBT (2*B) O (P++(M++[])):=by
 obtain⟨O1,M1,A,R,O2,T,rfl,rfl,h1,h2,h3,h4,h5⟩:=h;simp only[List.length_append] at hr hm
 rcases h3.one (O2:=O2) (by omega) with ⟨rfl,rfl⟩|⟨k1,k2⟩
 ·simp at hm;omega
 ·refine⟨M1,R,T,by simp only[List.append_nil],by rw[h1.len];exact h2,by rw[k2.1];exact k1,by simp only[List.length_append];rw[h4.1];omega,k2.2.1,h4.2.1,fun M hM=>?_⟩;refine⟨O1,A++O2,M1,M,rfl,by simp only[List.append_nil],h1,k2.parts h4 hM,by rw[List.length_append];omega⟩
theorem SB2.rest {B a:Nat} {O L:List CE} (h:SB2 B a O L) (hr:O.length < a+2*B) (hm:O.length≤a+B):SBT (2*B) O L:=by
 obtain⟨O1,M1,A,R,O2,T,rfl,rfl,h1,h2,h3,h4,h5⟩:=h;simp only[List.length_append] at hr hm
 rcases h3.one (O2:=O2) (by omega) with ⟨rfl,rfl⟩|⟨k1,k2⟩
 ·exact⟨O1,O2,M1,T,rfl,rfl,h1,h4,by omega⟩
 ·have e2:O2=[]:=List.length_eq_zero_iff.1 (by omega);have e3:T=[]:=List.length_eq_zero_iff.1 (by rw[h4.1,e2];rfl);refine⟨O1,A,M1,R,by rw[e2,List.append_nil],by rw[e3,List.append_nil],h1,k2,by omega⟩
theorem SB1.start (O:List CE):SB1 0 O O:=⟨[],[],O,rfl,rfl,SB.nil,rfl⟩
theorem SB1.step {a:Nat} {O L:List CE} (h:SB1 a O L) (hr:a+20≤O.length):
  ∃P U S,L=P++(U++S)∧P.length=a∧U.length=20∧∀M,SrtOf U M→SB1 (a+20) O (P++(M++S)):=by
 obtain⟨O1,M1,R,rfl,rfl,h1,h2⟩:=h;rw[List.length_append] at hr;refine⟨M1,R.take 20,R.drop 20,by rw[List.take_append_drop],by rw[h1.len];exact h2,by rw[List.length_take];omega,fun M hM=>?_⟩;refine⟨O1++R.take 20,M1++M,R.drop 20,by rw[List.append_assoc,List.take_append_drop],by rw[List.append_assoc],h1.snoc (by rw[List.length_take];omega) hM,by rw[List.length_append,List.length_take];omega⟩
theorem SB1.last {a:Nat} {O L:List CE} (h:SB1 a O L) (hr:O.length < a+20):
  ∃P U,L=P++(U++[])∧P.length=a∧a+U.length=O.length∧∀M,SrtOf U M→SBT 20 O (P++(M++[])):=by
 obtain⟨O1,M1,R,rfl,rfl,h1,h2⟩:=h;rw[List.length_append] at hr;refine⟨M1,R,by rw[List.append_nil],by rw[h1.len];exact h2,by rw[List.length_append];omega,fun M hM=>?_⟩;exact⟨O1,R,M1,M,rfl,by rw[List.append_nil],h1,hM,by omega⟩
end
end Go.Proofs.YtbiihjdjbknibaaGreat
