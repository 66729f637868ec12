/-
  Layer 7: contracts (Mt Mu Mv).
-/
import Derived.Test.YtbiihjdjbknibaaGreatC34
namespace Go.Proofs.YtbiihjdjbknibaaGreat
set_option maxRecDepth 100000
set_option maxHeartbeats 8000000
set_option linter.unusedSimpArgs false
set_option linter.unusedVariables false
section
set_option maxRecDepth 100000
open Go.ChangeShapes Go.WideShapes Go.ChangeAt Go.RowKit
theorem lt_of_le {a b u:KY} (h1:befK b u=true) (h2:befK b a=false):befK a u=true:=by
 rcases befK_tri a u with t|t|t
 ·exact t
 ·rw[t,h1] at h2;cases h2
 ·rw[befK_trans h1 t] at h2;cases h2
theorem ordC_at {l:List CE} (h:ordC (cts l)) {i j:Nat} {x y:CE} (hx:l[i]?=some x) (hy:l[j]?=some y) (hij:i < j):befK y.f.k x.f.k=false:=by
 induction l generalizing i j with
 | nil=>simp at hx
 | cons e r ih=>
  cases j with
  | zero=>omega
  | succ j=>
   have hy':r[j]?=some y:=by simpa using hy
   cases i with
   | zero=>
    simp at hx;subst hx;exact h.1 _ (List.mem_map.2 ⟨y,List.mem_of_getElem? hy',rfl⟩)
   | succ i=>exact ih h.2 (by simpa using hx) hy' (by omega)
theorem set_swap2 {α:Type} (P:List α) (x y:α) (S:List α):((P++x::y::S).set P.length y).set (P.length+1) x=P++y::x::S:=by
 induction P with
 | nil=>rfl
 | cons p P ih=>simp only[List.cons_append,List.length_cons,List.set_cons_succ,ih]
theorem symL_any (g n c a m b:Nat) (P V S:List CE) (u:CE) (sp:List Value) (w:World) (hb:Blk w g 105 (ces (P++(u::(V++S)))++sp)) (ha:P.length=a) (hm:a+1=m) (hV:m+V.length=b) (ho:ordC (cts V)) (hbn:b≤n) (hn:n≤140737488351232):
  Calls Tryz.prog 137 #[.slice (some ⟨g,0,none⟩) n c,.int .i64 (a:Nat),.int .i64 (m:Nat),.int .i64 (b:Nat),.func (.func 94) #[] #[]] w
   (fun e w'=>∃V1 V2,V=V1++V2∧(∀v∈V1,befK v.f.k u.f.k=true)∧(∀v∈V2,befK v.f.k u.f.k=false)∧RwcP w g sp (P++(V1++(u::(V2++S)))) e w'):=by
 have HB:=jH hb;have HP:=jH ha;have HV:=jH hV;have HO:=jH ho
 have hv:m≤b:=by omega
 clear hb ha hV ho
 have t1:(m:Int) - (a:Int)=1:=by omega
 go_enter Tryz.func137,Tryz.ntmps137;go_wp2_with fail
 go_loopw [10,11] (fun ti tj wr=>∃i j:Nat,m≤i∧i≤j∧j≤b∧ti=.int .i64 i∧tj=.int .i64 j∧Hid (∀t v,V[t]?=some v→m+t < i→befK v.f.k u.f.k=true)∧Hid (∀t v,V[t]?=some v→j≤m+t→befK v.f.k u.f.k=false)∧Hid (New w wr)) (fun ti tj _=>(intOf tj).toNat - (intOf ti).toNat)
 case atStart=>exact⟨m,b,Nat.le_refl _,hv,Nat.le_refl _,rfl,rfl,fun t v _ h=>absurd h (by omega),fun t v ht h=>by
  have h1:=(List.getElem?_eq_some_iff.1 ht).1;have h2:=HV.out
  omega,kR⟩
 case round=>
  obtain⟨i,j,him,hij,hjb,rfl,rfl,VI,VJ,VN⟩:=hrel
  by_cases hlt:i < j
  ·obtain⟨h,hh0⟩:∃h:Nat,h=(i+j) / 2:=⟨_,rfl⟩
   have hh1:i≤h:=by omega
   have hh2:h < j:=by omega
   have s0:((i:Int)+(j:Int)) / 2=(h:Int):=by omega
   obtain⟨t0,ht0⟩:∃t0,m+t0=h:=⟨h - m,by omega⟩;obtain⟨v,hvv⟩:∃v,V[t0]?=some v:=⟨_,List.getElem?_eq_getElem (by have:=HV.out;omega)⟩
   have hh:(P++(u::(V++S)))[h]?=some v:=by
    rw[List.getElem?_append_right (by rw[HP.out];omega),HP.out,show h - a=t0+1 by omega,List.getElem?_cons_succ,List.getElem?_append_left (List.getElem?_eq_some_iff.1 hvv).1];exact hvv
   have hu:(P++(u::(V++S)))[a]?=some u:=by
    rw[List.getElem?_append_right (by rw[HP.out];omega),HP.out,Nat.sub_self]
    rfl
   have HLO:Hid (befK v.f.k u.f.k=true→∀t x,V[t]?=some x→m+t < h+1→befK x.f.k u.f.k=true):=fun hb t x hx ht=>by
    rcases Nat.lt_or_ge t t0 with h1|h1
    ·exact lt_of_le hb (ordC_at HO.out hx hvv h1)
    ·rw[show t=t0 by omega,hvv] at hx
     injection hx with hx
     rw[←hx];exact hb
   have HHI:Hid (befK v.f.k u.f.k=false→∀t x,V[t]?=some x→h≤m+t→befK x.f.k u.f.k=false):=fun hb t x hx ht=>by
    rcases Nat.lt_or_ge t0 t with h1|h1
    ·exact befK_le_trans hb (ordC_at HO.out hvv hx h1)
    ·rw[show t=t0 by omega,hvv] at hx
     injection hx with hx
     rw[←hx];exact hb
   have VB:=HB.out.kept VN.out id;have y0:wr.cell? ⟨g,h*6,none⟩=some (.int .i64 v.f.k.i):=crow_cell (j:=0) VB hh (by omega) rfl
   have p0:=fun d os=>cell_regrown y0 d os
   have y1:wr.cell? ⟨g,h*6+1,none⟩=some (.int .u8 (v.f.k.t:Nat)):=crow_cell (j:=1) VB hh (by omega) rfl
   have p1:=fun d os=>cell_regrown y1 d os
   have y2:wr.cell? ⟨g,h*6+2,none⟩=some (.string v.f.k.n):=crow_cell (j:=2) VB hh (by omega) rfl
   have p2:=fun d os=>cell_regrown y2 d os
   have y3:wr.cell? ⟨g,h*6+3,none⟩=some (.int .i64 v.f.k.c):=crow_cell (j:=3) VB hh (by omega) rfl
   have p3:=fun d os=>cell_regrown y3 d os
   have y4:wr.cell? ⟨g,h*6+4,none⟩=some (.slice v.A v.f.v.length v.c):=crow_cell (j:=4) VB hh (by omega) rfl
   have p4:=fun d os=>cell_regrown y4 d os
   have y5:wr.cell? ⟨g,h*6+5,none⟩=some (.bool v.f.g):=crow_cell (j:=5) VB hh (by omega) rfl
   have p5:=fun d os=>cell_regrown y5 d os
   have z0:wr.cell? ⟨g,a*6,none⟩=some (.int .i64 u.f.k.i):=crow_cell (j:=0) VB hu (by omega) rfl
   have r0:=fun d os=>cell_regrown z0 d os
   have z1:wr.cell? ⟨g,a*6+1,none⟩=some (.int .u8 (u.f.k.t:Nat)):=crow_cell (j:=1) VB hu (by omega) rfl
   have r1:=fun d os=>cell_regrown z1 d os
   have z2:wr.cell? ⟨g,a*6+2,none⟩=some (.string u.f.k.n):=crow_cell (j:=2) VB hu (by omega) rfl
   have r2:=fun d os=>cell_regrown z2 d os
   have z3:wr.cell? ⟨g,a*6+3,none⟩=some (.int .i64 u.f.k.c):=crow_cell (j:=3) VB hu (by omega) rfl
   have r3:=fun d os=>cell_regrown z3 d os
   have z4:wr.cell? ⟨g,a*6+4,none⟩=some (.slice u.A u.f.v.length u.c):=crow_cell (j:=4) VB hu (by omega) rfl
   have r4:=fun d os=>cell_regrown z4 d os
   have z5:wr.cell? ⟨g,a*6+5,none⟩=some (.bool u.f.g):=crow_cell (j:=5) VB hu (by omega) rfl
   have r5:=fun d os=>cell_regrown z5 d os
   clear y0 z0 y1 z1 y2 z2 y3 z3 y4 z4 y5 z5;have cB:=jH (fun (d:Nat) (os:Array Obj)=>Calls.regrown_of (d:=d) (os:=os) ((cmpC_any v u (Go.Sort.grow (redrawn wr d) os)).mono fun e w' hh=>⟨hh.1,hh.2.below⟩));obtain⟨z,hz⟩:∃z,cmpK v.f.k u.f.k=z:=⟨_,rfl⟩;rw[hz] at cB
   have HZ:Hid (befK v.f.k u.f.k=decide (z < 0)):=by rw[←hz];rfl
   have u1:(h:Int) < (n:Int):=by omega
   have u2:(a:Int) < (n:Int):=by omega
   clear hz hh hu VB hvv ht0 hh0
   have hd2:decide (z < 0)=true∨decide (z < 0)=false:=by cases decide (z < 0)<;>simp
   rcases hd2 with d2|d2
   ·have HZ2:Hid (befK v.f.k u.f.k=true):=HZ.out.trans d2;have HNEW:=jH (HLO.out HZ2.out);go_wp2_with fail;refine wp_region_quiet_below (by kernel_rfl) (by kernel_rfl) ?_
    repeat (quiet_step (first
     | (go_at_call 94;exact cB.out _ _)))
    refine wpQuiet_nil ?_;intro _ hw';obtain⟨⟨dq,osq⟩,hw''⟩:=hw';subst hw'';have K9:Hid (New w (Go.Sort.grow (redrawn wr dq) osq)):=new_regrown VN.out dq osq;clear cB p0 r0 p1 r1 p2 r2 p3 r3 p4 r4 p5 r5;go_wp2;go_roundw
    case rel=>exact⟨h+1,j,by omega,by omega,hjb,by go_num,rfl,HNEW,VJ,K9⟩
    case measure=>simp[intOf];omega
   ·have HZ2:Hid (befK v.f.k u.f.k=false):=HZ.out.trans d2;have HNEW:=jH (HHI.out HZ2.out);go_wp2_with fail;refine wp_region_quiet_below (by kernel_rfl) (by kernel_rfl) ?_
    repeat (quiet_step (first
     | (go_at_call 94;exact cB.out _ _)))
    refine wpQuiet_nil ?_;intro _ hw';obtain⟨⟨dq,osq⟩,hw''⟩:=hw';subst hw'';have K9:Hid (New w (Go.Sort.grow (redrawn wr dq) osq)):=new_regrown VN.out dq osq;clear cB p0 r0 p1 r1 p2 r2 p3 r3 p4 r4 p5 r5;go_wp2;go_roundw
    case rel=>exact⟨i,h,him,hh1,by omega,rfl,rfl,VI,HNEW,K9⟩
    case measure=>simp[intOf];omega
  ·have hij2:i=j:=by omega
   subst hij2;clear hlt hij;obtain⟨q,hq⟩:∃q,m+q=i:=⟨i - m,by omega⟩;obtain⟨V1,hV1⟩:∃V1,V1=V.take q:=⟨_,rfl⟩;obtain⟨V2,hV2⟩:∃V2,V2=V.drop q:=⟨_,rfl⟩
   have hVV:Hid (V=V1++V2):=by rw[hV1,hV2];exact (List.take_append_drop _ _).symm
   have hL1:Hid (V1.length=q):=by rw[hV1,Hid,List.length_take];have:=HV.out;omega
   have F1:Hid (∀v∈V1,befK v.f.k u.f.k=true):=fun v hv=>by
    obtain⟨t,ht⟩:=List.mem_iff_getElem?.1 hv;have h1:t < V1.length:=(List.getElem?_eq_some_iff.1 ht).1;rw[hL1.out] at h1;refine VI.out t v ?_ (by omega);rw[hVV.out,List.getElem?_append_left (by rw[hL1.out];exact h1)];exact ht
   have F2:Hid (∀v∈V2,befK v.f.k u.f.k=false):=fun v hv=>by
    obtain⟨t,ht⟩:=List.mem_iff_getElem?.1 hv;refine VJ.out (q+t) v ?_ (by omega);rw[hVV.out,List.getElem?_append_right (by rw[hL1.out];omega),hL1.out,show q+t - q=t by omega];exact ht
   have HBW:Hid (Blk wr g 105 (ces (P++([]++(u::(V1++(V2++S)))))++sp)):=by
    have:=HB.out.kept VN.out id
    rw[hVV.out,List.append_assoc] at this;exact this
   have KW:Hid (Kept (·=g) w wr):=VN.out.mono fun _ _ f=>f.elim
   have i1:(i:Int) - 1=((a+q:Nat):Int):=by omega
   have haq:∃e:Nat,e=a+q:=⟨_,rfl⟩;obtain⟨e9,he9⟩:=haq;rw[←he9] at i1;have HE9:=jH he9
   have hen:e9 < n:=by omega
   clear hV1 hV2 VI VJ VN HB HO HV hq him he9;go_wp2_with fail
   go_loopw [13] (fun tk wr=>∃k:Nat,a≤k∧k≤e9∧tk=.int .i64 k∧Hid (Blk wr g 105 (ces (P++(V1.take (k - a)++(u::(V1.drop (k - a)++(V2++S)))))++sp))∧Hid (Kept (·=g) w wr)) (fun tk _=>e9 - (intOf tk).toNat)
   case atStart=>exact⟨a,Nat.le_refl _,by have:=HE9.out;omega,rfl,by rw[Nat.sub_self];exact HBW,KW⟩
   case round=>
    obtain⟨k,hk1,hk2,rfl,UB,UK⟩:=hrel
    by_cases hlt:k < e9
    ·obtain⟨t,ht⟩:∃t,t=k - a:=⟨_,rfl⟩
     have htq:t < V1.length:=by rw[hL1.out];have:=HE9.out;omega
     obtain⟨y,hyt⟩:∃y,V1[t]?=some y:=⟨_,List.getElem?_eq_getElem htq⟩
     have hd:V1.drop t=y::V1.drop (t+1):=by
      obtain⟨h1,e1⟩:=List.getElem?_eq_some_iff.1 hyt;rw[List.drop_eq_getElem_cons h1,e1]
     have htk:V1.take (t+1)=V1.take t++[y]:=by rw[List.take_add_one,hyt];rfl
     have hl1:(P++V1.take t).length=k:=by rw[List.length_append,HP.out,List.length_take];omega
     have hform:P++(V1.take t++(u::(V1.drop t++(V2++S))))=(P++V1.take t)++u::y::(V1.drop (t+1)++(V2++S)):=by
      rw[hd];simp only[List.append_assoc,List.cons_append]
     have HF2:Hid (P++(V1.take (k+1 - a)++(u::(V1.drop (k+1 - a)++(V2++S))))=(P++V1.take t)++y::u::(V1.drop (t+1)++(V2++S))):=by
      rw[Hid,show k+1 - a=t+1 by omega,htk];simp only[List.append_assoc,List.cons_append,List.nil_append]
     rw[←ht,hform] at UB;have HST:=jH (set_swap2 (P++V1.take t) u y (V1.drop (t+1)++(V2++S)));rw[hl1] at HST
     have hx:((P++V1.take t)++u::y::(V1.drop (t+1)++(V2++S)))[k]?=some u:=by
      rw[List.getElem?_append_right (by omega),hl1,Nat.sub_self]
      rfl
     have hz:((P++V1.take t)++u::y::(V1.drop (t+1)++(V2++S)))[k+1]?=some y:=by
      rw[List.getElem?_append_right (by omega),hl1,show k+1 - k=1 by omega]
      rfl
     have HL1:=jH (List.getElem?_eq_some_iff.1 hx).1;have HL2:=jH (List.getElem?_eq_some_iff.1 hz).1;have a0:wr.cell? ⟨g,k*6,none⟩=some (.int .i64 u.f.k.i):=crow_cell (j:=0) UB.out hx (by omega) rfl;have a1:wr.cell? ⟨g,k*6+1,none⟩=some (.int .u8 (u.f.k.t:Nat)):=crow_cell (j:=1) UB.out hx (by omega) rfl;have a2:wr.cell? ⟨g,k*6+2,none⟩=some (.string u.f.k.n):=crow_cell (j:=2) UB.out hx (by omega) rfl;have a3:wr.cell? ⟨g,k*6+3,none⟩=some (.int .i64 u.f.k.c):=crow_cell (j:=3) UB.out hx (by omega) rfl;have a4:wr.cell? ⟨g,k*6+4,none⟩=some (.slice u.A u.f.v.length u.c):=crow_cell (j:=4) UB.out hx (by omega) rfl
     have a5:wr.cell? ⟨g,k*6+5,none⟩=some (.bool u.f.g):=crow_cell (j:=5) UB.out hx (by omega) rfl;have b0:wr.cell? ⟨g,(k+1)*6,none⟩=some (.int .i64 y.f.k.i):=crow_cell (j:=0) UB.out hz (by omega) rfl;have b1:wr.cell? ⟨g,(k+1)*6+1,none⟩=some (.int .u8 (y.f.k.t:Nat)):=crow_cell (j:=1) UB.out hz (by omega) rfl;have b2:wr.cell? ⟨g,(k+1)*6+2,none⟩=some (.string y.f.k.n):=crow_cell (j:=2) UB.out hz (by omega) rfl;have b3:wr.cell? ⟨g,(k+1)*6+3,none⟩=some (.int .i64 y.f.k.c):=crow_cell (j:=3) UB.out hz (by omega) rfl;have b4:wr.cell? ⟨g,(k+1)*6+4,none⟩=some (.slice y.A y.f.v.length y.c):=crow_cell (j:=4) UB.out hz (by omega) rfl
     have b5:wr.cell? ⟨g,(k+1)*6+5,none⟩=some (.bool y.f.g):=crow_cell (j:=5) UB.out hz (by omega) rfl;have f0:=UB.out.free (k*6);have f1:=UB.out.free (k*6+1);have f2:=UB.out.free (k*6+2);have f3:=UB.out.free (k*6+3);have f4:=UB.out.free (k*6+4);have f5:=UB.out.free (k*6+5);have h0:=UB.out.free ((k+1)*6);have h1:=UB.out.free ((k+1)*6+1);have h2:=UB.out.free ((k+1)*6+2);have h3:=UB.out.free ((k+1)*6+3);have h4:=UB.out.free ((k+1)*6+4);have h5:=UB.out.free ((k+1)*6+5)
     have s1:(0:Int)≤(k:Int)+1:=by omega
     have s2:((k:Int)+1).toNat=k+1:=by omega
     have s3:(k:Int) < (n:Int):=by omega
     have s4:(k:Int)+1 < (n:Int):=by omega
     clear hx hz hl1 hd htk hform hyt htq ht;generalize (P++V1.take t)++u::y::(V1.drop (t+1)++(V2++S))=L at *;go_wp2_with fail
     go_region
     all_goals
      obtain⟨w5,hw5⟩:∃w5,w5=((((((wr.setCell ⟨g,k*6,none⟩ (.int .i64 y.f.k.i)).setCell ⟨g,k*6+1,none⟩ (.int .u8 (y.f.k.t:Nat))).setCell ⟨g,k*6+2,none⟩ (.string y.f.k.n)).setCell ⟨g,k*6+3,none⟩ (.int .i64 y.f.k.c)).setCell ⟨g,k*6+4,none⟩ (.slice y.A y.f.v.length y.c)).setCell ⟨g,k*6+5,none⟩ (.bool y.f.g)):=⟨_,rfl⟩;obtain⟨bs5,ks5⟩:=crow_put (b:=y) UB.out HL1.out hw5;obtain⟨w6,hw6⟩:∃w6,w6=((((((w5.setCell ⟨g,(k+1)*6,none⟩ (.int .i64 u.f.k.i)).setCell ⟨g,(k+1)*6+1,none⟩ (.int .u8 (u.f.k.t:Nat))).setCell ⟨g,(k+1)*6+2,none⟩ (.string u.f.k.n)).setCell ⟨g,(k+1)*6+3,none⟩ (.int .i64 u.f.k.c)).setCell ⟨g,(k+1)*6+4,none⟩ (.slice u.A u.f.v.length u.c)).setCell ⟨g,(k+1)*6+5,none⟩ (.bool u.f.g)):=⟨_,rfl⟩
      obtain⟨bs6,ks6⟩:=crow_put (b:=u) bs5 (by rw[List.length_set];exact HL2.out) hw6;rw[HST.out,←HF2.out] at bs6;have E6:=jH bs6.drew;have K6:Hid (Kept (·=g) w w6.drew):=((UK.out.trans ks5 fun _ _ h=>h).trans ks6 fun _ _ h=>h).drew;rw[hw5] at hw6;have HW:=jH hw6;clear hw5 hw6 bs5 bs6 ks5 ks6 a0 b0 f0 h0 a1 b1 f1 h1 a2 b2 f2 h2 a3 b3 f3 h3 a4 b4 f4 h4 a5 b5 f5 h5;go_wp2;go_roundw
      case rel=>
       refine⟨k+1,by omega,by omega,by go_num,?_,?_⟩
       ·have:=E6;rw[HW.out] at this;exact this
       ·have:=K6;rw[HW.out] at this;exact this
      case measure=>simp[intOf];omega
    ·have E:Hid (RwcP w g sp (P++(V1++(u::(V2++S)))) (.returned (.tuple #[])) wr):=by
      have:=UB.out
      rw[List.take_of_length_le (by rw[hL1.out];have:=HE9.out;omega),List.drop_of_length_le (by rw[hL1.out];have:=HE9.out;omega),List.nil_append] at this;exact⟨rfl,this,UK.out⟩
     clear UB UK HBW KW;go_wp2;refine bodyPost_ret (results_none rfl _ _ _) rfl ?_;exact⟨V1,V2,hVV.out,F1.out,F2.out,E.out⟩
end
section
set_option maxRecDepth 100000
open Go.ChangeShapes Go.WideShapes Go.ChangeAt Go.RowKit
theorem symR_any (g n c a m b:Nat) (P U S:List CE) (u:CE) (sp:List Value) (w:World) (hb:Blk w g 105 (ces (P++(U++(u::S)))++sp)) (ha:P.length=a) (hU:a+U.length=m) (hm:m+1=b) (h2:a+1 < m) (ho:ordC (cts U)) (hbn:b≤n) (hn:n≤140737488351232):
  Calls Tryz.prog 137 #[.slice (some ⟨g,0,none⟩) n c,.int .i64 (a:Nat),.int .i64 (m:Nat),.int .i64 (b:Nat),.func (.func 94) #[] #[]] w
   (fun e w'=>∃U1 U2,U=U1++U2∧(∀x∈U1,befK u.f.k x.f.k=false)∧(∀x∈U2,befK u.f.k x.f.k=true)∧RwcP w g sp (P++(U1++(u::(U2++S)))) e w'):=by
 have HB:=jH hb;have HP:=jH ha;have HU:=jH hU;have HO:=jH ho;clear hb ha hU ho;have t1:((m:Int) - (a:Int) == 1)=false:=beq_eq_false_iff_ne.2 (by omega)
 have t2:(b:Int) - (m:Int)=1:=by omega
 go_enter Tryz.func137,Tryz.ntmps137;go_wp2_with fail
 go_loopw [14,15] (fun ti tj wr=>∃i j:Nat,a≤i∧i≤j∧j≤m∧ti=.int .i64 i∧tj=.int .i64 j∧Hid (∀t v,U[t]?=some v→a+t < i→befK u.f.k v.f.k=false)∧Hid (∀t v,U[t]?=some v→j≤a+t→befK u.f.k v.f.k=true)∧Hid (New w wr)) (fun ti tj _=>(intOf tj).toNat - (intOf ti).toNat)
 case atStart=>exact⟨a,m,Nat.le_refl _,by omega,Nat.le_refl _,rfl,rfl,fun t v _ h=>absurd h (by omega),fun t v ht h=>by
  have h1:=(List.getElem?_eq_some_iff.1 ht).1;have h2:=HU.out
  omega,kR⟩
 case round=>
  obtain⟨i,j,him,hij,hjb,rfl,rfl,VI,VJ,VN⟩:=hrel
  by_cases hlt:i < j
  ·obtain⟨h,hh0⟩:∃h:Nat,h=(i+j) / 2:=⟨_,rfl⟩
   have hh1:i≤h:=by omega
   have hh2:h < j:=by omega
   have s0:((i:Int)+(j:Int)) / 2=(h:Int):=by omega
   obtain⟨t0,ht0⟩:∃t0,a+t0=h:=⟨h - a,by omega⟩;obtain⟨v,hvv⟩:∃v,U[t0]?=some v:=⟨_,List.getElem?_eq_getElem (by have:=HU.out;omega)⟩
   have hh:(P++(U++(u::S)))[h]?=some v:=by
    rw[List.getElem?_append_right (by rw[HP.out];omega),HP.out,show h - a=t0 by omega,List.getElem?_append_left (List.getElem?_eq_some_iff.1 hvv).1];exact hvv
   have hu:(P++(U++(u::S)))[m]?=some u:=by
    have h9:=HU.out;rw[List.getElem?_append_right (by rw[HP.out];omega),HP.out,List.getElem?_append_right (by omega),show m - a - U.length=0 by omega]
    rfl
   have HLO:Hid (befK u.f.k v.f.k=false→∀t x,U[t]?=some x→a+t < h+1→befK u.f.k x.f.k=false):=fun hb t x hx ht=>by
    rcases Nat.lt_or_ge t t0 with h1|h1
    ·exact befK_le_trans (ordC_at HO.out hx hvv h1) hb
    ·rw[show t=t0 by omega,hvv] at hx
     injection hx with hx
     rw[←hx];exact hb
   have HHI:Hid (befK u.f.k v.f.k=true→∀t x,U[t]?=some x→h≤a+t→befK u.f.k x.f.k=true):=fun hb t x hx ht=>by
    rcases Nat.lt_or_ge t0 t with h1|h1
    ·exact bef_le2 hb (ordC_at HO.out hvv hx h1)
    ·rw[show t=t0 by omega,hvv] at hx
     injection hx with hx
     rw[←hx];exact hb
   have VB:=HB.out.kept VN.out id;have y0:wr.cell? ⟨g,h*6,none⟩=some (.int .i64 v.f.k.i):=crow_cell (j:=0) VB hh (by omega) rfl
   have p0:=fun d os=>cell_regrown y0 d os
   have y1:wr.cell? ⟨g,h*6+1,none⟩=some (.int .u8 (v.f.k.t:Nat)):=crow_cell (j:=1) VB hh (by omega) rfl
   have p1:=fun d os=>cell_regrown y1 d os
   have y2:wr.cell? ⟨g,h*6+2,none⟩=some (.string v.f.k.n):=crow_cell (j:=2) VB hh (by omega) rfl
   have p2:=fun d os=>cell_regrown y2 d os
   have y3:wr.cell? ⟨g,h*6+3,none⟩=some (.int .i64 v.f.k.c):=crow_cell (j:=3) VB hh (by omega) rfl
   have p3:=fun d os=>cell_regrown y3 d os
   have y4:wr.cell? ⟨g,h*6+4,none⟩=some (.slice v.A v.f.v.length v.c):=crow_cell (j:=4) VB hh (by omega) rfl
   have p4:=fun d os=>cell_regrown y4 d os
   have y5:wr.cell? ⟨g,h*6+5,none⟩=some (.bool v.f.g):=crow_cell (j:=5) VB hh (by omega) rfl
   have p5:=fun d os=>cell_regrown y5 d os
   have z0:wr.cell? ⟨g,m*6,none⟩=some (.int .i64 u.f.k.i):=crow_cell (j:=0) VB hu (by omega) rfl
   have r0:=fun d os=>cell_regrown z0 d os
   have z1:wr.cell? ⟨g,m*6+1,none⟩=some (.int .u8 (u.f.k.t:Nat)):=crow_cell (j:=1) VB hu (by omega) rfl
   have r1:=fun d os=>cell_regrown z1 d os
   have z2:wr.cell? ⟨g,m*6+2,none⟩=some (.string u.f.k.n):=crow_cell (j:=2) VB hu (by omega) rfl
   have r2:=fun d os=>cell_regrown z2 d os
   have z3:wr.cell? ⟨g,m*6+3,none⟩=some (.int .i64 u.f.k.c):=crow_cell (j:=3) VB hu (by omega) rfl
   have r3:=fun d os=>cell_regrown z3 d os
   have z4:wr.cell? ⟨g,m*6+4,none⟩=some (.slice u.A u.f.v.length u.c):=crow_cell (j:=4) VB hu (by omega) rfl
   have r4:=fun d os=>cell_regrown z4 d os
   have z5:wr.cell? ⟨g,m*6+5,none⟩=some (.bool u.f.g):=crow_cell (j:=5) VB hu (by omega) rfl
   have r5:=fun d os=>cell_regrown z5 d os
   clear y0 z0 y1 z1 y2 z2 y3 z3 y4 z4 y5 z5;have cB:=jH (fun (d:Nat) (os:Array Obj)=>Calls.regrown_of (d:=d) (os:=os) ((cmpC_any u v (Go.Sort.grow (redrawn wr d) os)).mono fun e w' hh=>⟨hh.1,hh.2.below⟩));obtain⟨z,hz⟩:∃z,cmpK u.f.k v.f.k=z:=⟨_,rfl⟩;rw[hz] at cB
   have HZ:Hid (befK u.f.k v.f.k=decide (z < 0)):=by rw[←hz];rfl
   have u1:(h:Int) < (n:Int):=by omega
   have u2:(m:Int) < (n:Int):=by omega
   clear hz hh hu VB hvv ht0 hh0
   have hd2:decide (z < 0)=true∨decide (z < 0)=false:=by cases decide (z < 0)<;>simp
   rcases hd2 with d2|d2
   ·have HZ2:Hid (befK u.f.k v.f.k=true):=HZ.out.trans d2;have HNEW:=jH (HHI.out HZ2.out);go_wp2_with fail;refine wp_region_quiet_below (by kernel_rfl) (by kernel_rfl) ?_
    repeat (quiet_step (first
     | (go_at_call 94;exact cB.out _ _)))
    refine wpQuiet_nil ?_;intro _ hw';obtain⟨⟨dq,osq⟩,hw''⟩:=hw';subst hw'';have K9:Hid (New w (Go.Sort.grow (redrawn wr dq) osq)):=new_regrown VN.out dq osq;clear cB p0 r0 p1 r1 p2 r2 p3 r3 p4 r4 p5 r5;go_wp2;go_roundw
    case rel=>exact⟨i,h,him,hh1,by omega,rfl,rfl,VI,HNEW,K9⟩
    case measure=>simp[intOf];omega
   ·have HZ2:Hid (befK u.f.k v.f.k=false):=HZ.out.trans d2;have HNEW:=jH (HLO.out HZ2.out);go_wp2_with fail;refine wp_region_quiet_below (by kernel_rfl) (by kernel_rfl) ?_
    repeat (quiet_step (first
     | (go_at_call 94;exact cB.out _ _)))
    refine wpQuiet_nil ?_;intro _ hw';obtain⟨⟨dq,osq⟩,hw''⟩:=hw';subst hw'';have K9:Hid (New w (Go.Sort.grow (redrawn wr dq) osq)):=new_regrown VN.out dq osq;clear cB p0 r0 p1 r1 p2 r2 p3 r3 p4 r4 p5 r5;go_wp2;go_roundw
    case rel=>exact⟨h+1,j,by omega,by omega,hjb,by go_num,rfl,HNEW,VJ,K9⟩
    case measure=>simp[intOf];omega
  ·have hij2:i=j:=by omega
   subst hij2;clear hlt hij;obtain⟨q,hq⟩:∃q,a+q=i:=⟨i - a,by omega⟩;obtain⟨U1,hU1⟩:∃U1,U1=U.take q:=⟨_,rfl⟩;obtain⟨U2,hU2⟩:∃U2,U2=U.drop q:=⟨_,rfl⟩
   have hVV:Hid (U=U1++U2):=by rw[hU1,hU2];exact (List.take_append_drop _ _).symm
   have hL1:Hid (U1.length=q):=by rw[hU1,Hid,List.length_take];have:=HU.out;omega
   have hL2:Hid (i+U2.length=m):=by rw[hU2,Hid,List.length_drop];have:=HU.out;omega
   have F1:Hid (∀v∈U1,befK u.f.k v.f.k=false):=fun v hv=>by
    obtain⟨t,ht⟩:=List.mem_iff_getElem?.1 hv;have h1:t < U1.length:=(List.getElem?_eq_some_iff.1 ht).1;rw[hL1.out] at h1;refine VI.out t v ?_ (by omega);rw[hVV.out,List.getElem?_append_left (by rw[hL1.out];exact h1)];exact ht
   have F2:Hid (∀v∈U2,befK u.f.k v.f.k=true):=fun v hv=>by
    obtain⟨t,ht⟩:=List.mem_iff_getElem?.1 hv;refine VJ.out (q+t) v ?_ (by omega);rw[hVV.out,List.getElem?_append_right (by rw[hL1.out];omega),hL1.out,show q+t - q=t by omega];exact ht
   have HBW:Hid (Blk wr g 105 (ces (P++(U1++(U2++(u::([]++S)))))++sp)):=by
    have:=HB.out.kept VN.out id
    rw[hVV.out,List.append_assoc] at this;exact this
   have KW:Hid (Kept (·=g) w wr):=VN.out.mono fun _ _ f=>f.elim
   have HIQ:=jH hq;have hI:i≤m:=hjb;clear hU1 hU2 VI VJ VN HB HO HU hq hjb;go_wp2_with fail
   go_loopw [17] (fun tk wr=>∃k:Nat,i≤k∧k≤m∧tk=.int .i64 k∧Hid (Blk wr g 105 (ces (P++(U1++(U2.take (k - i)++(u::(U2.drop (k - i)++S)))))++sp))∧Hid (Kept (·=g) w wr)) (fun tk _=>(intOf tk).toNat)
   case atStart=>exact⟨m,hI,Nat.le_refl _,rfl,by rw[List.take_of_length_le (by have:=hL2.out;omega),List.drop_of_length_le (by have:=hL2.out;omega)];exact HBW,KW⟩
   case round=>
    obtain⟨k,hk1,hk2,rfl,UB,UK⟩:=hrel
    by_cases hlt:i < k
    ·obtain⟨e,he⟩:∃e,e+1=k:=⟨k - 1,by omega⟩;obtain⟨t,ht⟩:∃t,t+1=k - i:=⟨k - i - 1,by omega⟩
     have htq:t < U2.length:=by have:=hL2.out;omega
     obtain⟨y,hyt⟩:∃y,U2[t]?=some y:=⟨_,List.getElem?_eq_getElem htq⟩
     have hd:U2.drop t=y::U2.drop (t+1):=by
      obtain⟨h1,e1⟩:=List.getElem?_eq_some_iff.1 hyt;rw[List.drop_eq_getElem_cons h1,e1]
     have htk:U2.take (t+1)=U2.take t++[y]:=by rw[List.take_add_one,hyt];rfl
     have hl1:(P++(U1++U2.take t)).length=e:=by
      rw[List.length_append,HP.out,List.length_append,hL1.out,List.length_take]
      have:=HIQ.out
      omega
     have hform:P++(U1++(U2.take (t+1)++(u::(U2.drop (t+1)++S))))=(P++(U1++U2.take t))++y::u::(U2.drop (t+1)++S):=by
      rw[htk];simp only[List.append_assoc,List.cons_append,List.nil_append]
     have HF2:Hid (P++(U1++(U2.take (e - i)++(u::(U2.drop (e - i)++S))))=(P++(U1++U2.take t))++u::y::(U2.drop (t+1)++S)):=by
      rw[Hid,show e - i=t by omega,hd];simp only[List.append_assoc,List.cons_append]
     rw[←ht,hform] at UB;have HST:=jH (set_swap (P++(U1++U2.take t)) u y (U2.drop (t+1)++S));rw[hl1,he] at HST
     have hx:((P++(U1++U2.take t))++y::u::(U2.drop (t+1)++S))[k]?=some u:=by
      rw[List.getElem?_append_right (by omega),hl1,show k - e=1 by omega]
      rfl
     have hz:((P++(U1++U2.take t))++y::u::(U2.drop (t+1)++S))[e]?=some y:=by
      rw[List.getElem?_append_right (by omega),hl1,Nat.sub_self]
      rfl
     have HL1:=jH (List.getElem?_eq_some_iff.1 hx).1;have HL2:=jH (List.getElem?_eq_some_iff.1 hz).1;have a0:wr.cell? ⟨g,k*6,none⟩=some (.int .i64 u.f.k.i):=crow_cell (j:=0) UB.out hx (by omega) rfl;have a1:wr.cell? ⟨g,k*6+1,none⟩=some (.int .u8 (u.f.k.t:Nat)):=crow_cell (j:=1) UB.out hx (by omega) rfl;have a2:wr.cell? ⟨g,k*6+2,none⟩=some (.string u.f.k.n):=crow_cell (j:=2) UB.out hx (by omega) rfl;have a3:wr.cell? ⟨g,k*6+3,none⟩=some (.int .i64 u.f.k.c):=crow_cell (j:=3) UB.out hx (by omega) rfl;have a4:wr.cell? ⟨g,k*6+4,none⟩=some (.slice u.A u.f.v.length u.c):=crow_cell (j:=4) UB.out hx (by omega) rfl
     have a5:wr.cell? ⟨g,k*6+5,none⟩=some (.bool u.f.g):=crow_cell (j:=5) UB.out hx (by omega) rfl;have b0:wr.cell? ⟨g,e*6,none⟩=some (.int .i64 y.f.k.i):=crow_cell (j:=0) UB.out hz (by omega) rfl;have b1:wr.cell? ⟨g,e*6+1,none⟩=some (.int .u8 (y.f.k.t:Nat)):=crow_cell (j:=1) UB.out hz (by omega) rfl;have b2:wr.cell? ⟨g,e*6+2,none⟩=some (.string y.f.k.n):=crow_cell (j:=2) UB.out hz (by omega) rfl;have b3:wr.cell? ⟨g,e*6+3,none⟩=some (.int .i64 y.f.k.c):=crow_cell (j:=3) UB.out hz (by omega) rfl;have b4:wr.cell? ⟨g,e*6+4,none⟩=some (.slice y.A y.f.v.length y.c):=crow_cell (j:=4) UB.out hz (by omega) rfl
     have b5:wr.cell? ⟨g,e*6+5,none⟩=some (.bool y.f.g):=crow_cell (j:=5) UB.out hz (by omega) rfl;have f0:=UB.out.free (k*6);have f1:=UB.out.free (k*6+1);have f2:=UB.out.free (k*6+2);have f3:=UB.out.free (k*6+3);have f4:=UB.out.free (k*6+4);have f5:=UB.out.free (k*6+5);have h0:=UB.out.free (e*6);have h1:=UB.out.free (e*6+1);have h2:=UB.out.free (e*6+2);have h3:=UB.out.free (e*6+3);have h4:=UB.out.free (e*6+4);have h5:=UB.out.free (e*6+5)
     have v1:(k:Int) < (n:Int):=by omega
     have v2:(e:Int) < (n:Int):=by omega
     have v3:(0:Int)≤(k:Int):=by omega
     have v4:(0:Int)≤(e:Int):=by omega
     have v5:IntKind.i64.wrap ((k:Int) - 1)=(e:Int):=by rw[IntKind.wrap_i64];omega
     have hm2:e+1≤k:=by omega
     have hm3:k≤e+1:=by omega
     clear hx hz hl1 hd htk hform hyt htq ht he;generalize (P++(U1++U2.take t))++y::u::(U2.drop (t+1)++S)=L at *;go_wp2_with fail
     go_region
     all_goals
      obtain⟨w5,hw5⟩:∃w5,w5=((((((wr.setCell ⟨g,k*6,none⟩ (.int .i64 y.f.k.i)).setCell ⟨g,k*6+1,none⟩ (.int .u8 (y.f.k.t:Nat))).setCell ⟨g,k*6+2,none⟩ (.string y.f.k.n)).setCell ⟨g,k*6+3,none⟩ (.int .i64 y.f.k.c)).setCell ⟨g,k*6+4,none⟩ (.slice y.A y.f.v.length y.c)).setCell ⟨g,k*6+5,none⟩ (.bool y.f.g)):=⟨_,rfl⟩;obtain⟨bs5,ks5⟩:=crow_put (b:=y) UB.out HL1.out hw5;obtain⟨w6,hw6⟩:∃w6,w6=((((((w5.setCell ⟨g,e*6,none⟩ (.int .i64 u.f.k.i)).setCell ⟨g,e*6+1,none⟩ (.int .u8 (u.f.k.t:Nat))).setCell ⟨g,e*6+2,none⟩ (.string u.f.k.n)).setCell ⟨g,e*6+3,none⟩ (.int .i64 u.f.k.c)).setCell ⟨g,e*6+4,none⟩ (.slice u.A u.f.v.length u.c)).setCell ⟨g,e*6+5,none⟩ (.bool u.f.g)):=⟨_,rfl⟩
      obtain⟨bs6,ks6⟩:=crow_put (b:=u) bs5 (by rw[List.length_set];exact HL2.out) hw6;rw[HST.out,←HF2.out] at bs6;have E6:=jH bs6.drew;have K6:Hid (Kept (·=g) w w6.drew):=((UK.out.trans ks5 fun _ _ h=>h).trans ks6 fun _ _ h=>h).drew;rw[hw5] at hw6;have HW:=jH hw6;clear hw5 hw6 bs5 bs6 ks5 ks6 a0 b0 f0 h0 a1 b1 f1 h1 a2 b2 f2 h2 a3 b3 f3 h3 a4 b4 f4 h4 a5 b5 f5 h5;go_wp2;go_roundw
      case rel=>
       refine⟨e,by omega,by omega,by first|rfl|go_num,?_,?_⟩
       ·have:=E6;rw[HW.out] at this;exact this
       ·have:=K6;rw[HW.out] at this;exact this
      case measure=>simp[intOf];omega
    ·have E:Hid (RwcP w g sp (P++(U1++(u::(U2++S)))) (.returned (.tuple #[])) wr):=by
      have:=UB.out
      rw[show k - i=0 by omega,List.take_zero,List.nil_append,List.drop_zero] at this;exact⟨rfl,this,UK.out⟩
     clear UB UK HBW KW;go_wp2;refine bodyPost_ret (results_none rfl _ _ _) rfl ?_;exact⟨U1,U2,hVV.out,F1.out,F2.out,E.out⟩
end
section
set_option maxRecDepth 100000
open Go.RowKit
theorem cut_le {U1 V2:List CE} (hU:ordC (cts U1)) (hV:ordC (cts V2)) (h:∀x y,U1.getLast?=some x→V2.head?=some y→befK y.f.k x.f.k=false):∀u∈U1,∀v∈V2,befK v.f.k u.f.k=false:=by
 intro u hu v hv
 rcases List.eq_nil_or_concat U1 with h0|⟨Q,x,h0⟩
 ·rw[h0] at hu;cases hu
 ·rw[List.concat_eq_append] at h0;subst h0
  cases V2 with
  | nil=>cases hv
  | cons y R=>
   have hxy:=h x y (by simp) rfl;have h1:befK y.f.k u.f.k=false:=last_all (x:=y) hU hxy u hu
   rcases List.mem_cons.1 hv with rfl|hv
   ·exact h1
   ·exact befK_le_trans h1 (hV.1 _ (List.mem_map.2 ⟨v,hv,rfl⟩))
theorem cut_lt {V1 U2:List CE} (hV:ordC (cts V1)) (hU:ordC (cts U2)) (h:∀y x,V1.getLast?=some y→U2.head?=some x→befK y.f.k x.f.k=true):∀v∈V1,∀u∈U2,befK v.f.k u.f.k=true:=by
 intro v hv u hu
 rcases List.eq_nil_or_concat V1 with h0|⟨Q,y,h0⟩
 ·rw[h0] at hv;cases hv
 ·rw[List.concat_eq_append] at h0;subst h0
  cases U2 with
  | nil=>cases hu
  | cons x R=>
   have hyx:=h y x (by simp) rfl;have h1:befK y.f.k u.f.k=true:=lt_all hU hyx u hu
   rcases List.mem_append.1 hv with hv|hv
   ·rw[cts_append,ordC_append] at hV;exact lt_of_le h1 (hV.2.2 v.f (List.mem_map.2 ⟨v,hv,rfl⟩) y.f (List.mem_cons_self ..))
   ·simp only[List.mem_cons,List.not_mem_nil,or_false] at hv;rw[hv];exact h1
end
end Go.Proofs.YtbiihjdjbknibaaGreat
