/-
  Layer 7: contracts (Mq Mr Ms).
-/
import Derived.Test.YtbiihjdjbknibaaGreatC33
namespace Go.Proofs.YtbiihjdjbknibaaGreat
set_option maxRecDepth 100000
set_option maxHeartbeats 8000000
set_option linter.unusedSimpArgs false
set_option linter.unusedVariables false
section
set_option maxRecDepth 100000
open Go.ChangeShapes Go.WideShapes Go.ChangeAt Go.RowKit
theorem set_two {α:Type} (L1 L2 L3:List α) (x z:α):((L1++x::(L2++z::L3)).set L1.length z).set (L1.length+1+L2.length) x=L1++z::(L2++x::L3):=by
 induction L1 with
 | nil=>
  rw[List.length_nil,Nat.zero_add,Nat.add_comm 1];simp only[List.nil_append,List.set_cons_zero,List.set_cons_succ]
  congr 1
  induction L2 with
  | nil=>rfl
  | cons p L2 ih=>simp only[List.cons_append,List.length_cons,List.set_cons_succ,ih]
 | cons p L1 ih=>
  rw[List.length_cons,show L1.length+1+1+L2.length=(L1.length+1+L2.length)+1 by omega];simp only[List.cons_append,List.set_cons_succ,ih]
def RwcP (w:World) (g:Nat) (sp:List Value) (l:List CE) (e:Ending) (w':World):Prop:=e=.returned (.tuple #[])∧Blk w' g 105 (ces l++sp)∧Kept (·=g) w w'
theorem swapR_any (g n c a b m:Nat) (P X Y Z S:List CE) (sp:List Value) (f:Value) (w:World) (hb:Blk w g 105 (ces (P++(X++(Y++(Z++S))))++sp)) (ha:P.length=a) (hX:X.length=m) (hZ:Z.length=m) (hY:a+m+Y.length=b) (hbn:b+m≤n) (hn:n≤140737488351232):
  Calls Tryz.prog 153 #[.slice (some ⟨g,0,none⟩) n c,.int .i64 (a:Nat),.int .i64 (b:Nat),.int .i64 (m:Nat),f] w (RwcP w g sp (P++(Z++(Y++(X++S))))):=by
 have HB:=jH hb;have HP:Hid (P.length=a):=ha;have HX:Hid (X.length=m):=hX;have HZ:Hid (Z.length=m):=hZ;have HY:Hid (a+m+Y.length=b):=hY
 have hab:a+m≤b:=by omega
 clear hb ha hX hZ hY;go_enter Tryz.func153,Tryz.ntmps153;go_wp2_with fail
 go_loopw [10] (fun ti wr=>∃k:Nat,k≤m∧ti=.int .i64 k∧Hid (Blk wr g 105 (ces (P++((Z.take k++X.drop k)++(Y++((X.take k++Z.drop k)++S))))++sp))∧Hid (Kept (·=g) w wr)) (fun ti _=>m - (intOf ti).toNat)
 case atStart=>exact⟨0,Nat.zero_le _,rfl,HB,kR⟩
 case round=>
  obtain⟨k,hk,rfl,UB,UK⟩:=hrel
  by_cases hlt:k < m
  ·obtain⟨x,hxk⟩:∃x,X[k]?=some x:=⟨_,List.getElem?_eq_getElem (by rw[HX.out];exact hlt)⟩;obtain⟨z,hzk⟩:∃z,Z[k]?=some z:=⟨_,List.getElem?_eq_getElem (by rw[HZ.out];exact hlt)⟩
   have hdx:X.drop k=x::X.drop (k+1):=by
    obtain⟨h1,e1⟩:=List.getElem?_eq_some_iff.1 hxk;rw[List.drop_eq_getElem_cons h1,e1]
   have hdz:Z.drop k=z::Z.drop (k+1):=by
    obtain⟨h1,e1⟩:=List.getElem?_eq_some_iff.1 hzk;rw[List.drop_eq_getElem_cons h1,e1]
   have htx:X.take (k+1)=X.take k++[x]:=by rw[List.take_add_one,hxk];rfl
   have htz:Z.take (k+1)=Z.take k++[z]:=by rw[List.take_add_one,hzk];rfl
   have hl1:(P++Z.take k).length=a+k:=by rw[List.length_append,HP.out,List.length_take,HZ.out];omega
   have hl2:a+k+1+(X.drop (k+1)++(Y++X.take k)).length=b+k:=by
    rw[List.length_append,List.length_append,List.length_take,List.length_drop,HX.out]
    have:=HY.out
    omega
   have hform:P++((Z.take k++X.drop k)++(Y++((X.take k++Z.drop k)++S)))=(P++Z.take k)++x::((X.drop (k+1)++(Y++X.take k))++z::(Z.drop (k+1)++S)):=by
    rw[hdx,hdz];simp only[List.append_assoc,List.cons_append]
   have hform2:P++((Z.take (k+1)++X.drop (k+1))++(Y++((X.take (k+1)++Z.drop (k+1))++S)))=(P++Z.take k)++z::((X.drop (k+1)++(Y++X.take k))++x::(Z.drop (k+1)++S)):=by
    rw[htx,htz];simp only[List.append_assoc,List.cons_append,List.nil_append]
   rw[hform] at UB;have HF2:=jH hform2;clear hform hform2 hdx hdz htx htz hxk hzk;have HST:=jH (set_two (P++Z.take k) (X.drop (k+1)++(Y++X.take k)) (Z.drop (k+1)++S) x z);rw[hl1,hl2] at HST
   have hx:((P++Z.take k)++x::((X.drop (k+1)++(Y++X.take k))++z::(Z.drop (k+1)++S)))[a+k]?=some x:=by
    rw[List.getElem?_append_right (by omega),hl1,Nat.sub_self]
    rfl
   have hz:((P++Z.take k)++x::((X.drop (k+1)++(Y++X.take k))++z::(Z.drop (k+1)++S)))[b+k]?=some z:=by
    rw[List.getElem?_append_right (by omega),hl1,show b+k - (a+k)=(X.drop (k+1)++(Y++X.take k)).length+1 by omega,List.getElem?_cons_succ,List.getElem?_append_right (Nat.le_refl _),Nat.sub_self]
    rfl
   have HL1:=jH (List.getElem?_eq_some_iff.1 hx).1;have HL2:=jH (List.getElem?_eq_some_iff.1 hz).1;have a0:wr.cell? ⟨g,(a+k)*6,none⟩=some (.int .i64 x.f.k.i):=crow_cell (j:=0) UB.out hx (by omega) rfl;have a1:wr.cell? ⟨g,(a+k)*6+1,none⟩=some (.int .u8 (x.f.k.t:Nat)):=crow_cell (j:=1) UB.out hx (by omega) rfl;have a2:wr.cell? ⟨g,(a+k)*6+2,none⟩=some (.string x.f.k.n):=crow_cell (j:=2) UB.out hx (by omega) rfl;have a3:wr.cell? ⟨g,(a+k)*6+3,none⟩=some (.int .i64 x.f.k.c):=crow_cell (j:=3) UB.out hx (by omega) rfl;have a4:wr.cell? ⟨g,(a+k)*6+4,none⟩=some (.slice x.A x.f.v.length x.c):=crow_cell (j:=4) UB.out hx (by omega) rfl
   have a5:wr.cell? ⟨g,(a+k)*6+5,none⟩=some (.bool x.f.g):=crow_cell (j:=5) UB.out hx (by omega) rfl;have b0:wr.cell? ⟨g,(b+k)*6,none⟩=some (.int .i64 z.f.k.i):=crow_cell (j:=0) UB.out hz (by omega) rfl;have b1:wr.cell? ⟨g,(b+k)*6+1,none⟩=some (.int .u8 (z.f.k.t:Nat)):=crow_cell (j:=1) UB.out hz (by omega) rfl;have b2:wr.cell? ⟨g,(b+k)*6+2,none⟩=some (.string z.f.k.n):=crow_cell (j:=2) UB.out hz (by omega) rfl;have b3:wr.cell? ⟨g,(b+k)*6+3,none⟩=some (.int .i64 z.f.k.c):=crow_cell (j:=3) UB.out hz (by omega) rfl;have b4:wr.cell? ⟨g,(b+k)*6+4,none⟩=some (.slice z.A z.f.v.length z.c):=crow_cell (j:=4) UB.out hz (by omega) rfl
   have b5:wr.cell? ⟨g,(b+k)*6+5,none⟩=some (.bool z.f.g):=crow_cell (j:=5) UB.out hz (by omega) rfl;have f0:=UB.out.free ((a+k)*6);have f1:=UB.out.free ((a+k)*6+1);have f2:=UB.out.free ((a+k)*6+2);have f3:=UB.out.free ((a+k)*6+3);have f4:=UB.out.free ((a+k)*6+4);have f5:=UB.out.free ((a+k)*6+5);have h0:=UB.out.free ((b+k)*6);have h1:=UB.out.free ((b+k)*6+1);have h2:=UB.out.free ((b+k)*6+2);have h3:=UB.out.free ((b+k)*6+3);have h4:=UB.out.free ((b+k)*6+4);have h5:=UB.out.free ((b+k)*6+5)
   have s1:(0:Int)≤(a:Int)+(k:Int):=by omega
   have s2:((a:Int)+(k:Int)).toNat=a+k:=by omega
   have s3:(a:Int)+(k:Int) < (n:Int):=by omega
   have s4:(0:Int)≤(b:Int)+(k:Int):=by omega
   have s5:((b:Int)+(k:Int)).toNat=b+k:=by omega
   have s6:(b:Int)+(k:Int) < (n:Int):=by omega
   clear hx hz hl1 hl2;generalize (P++Z.take k)++x::((X.drop (k+1)++(Y++X.take k))++z::(Z.drop (k+1)++S))=L at *;go_wp2_with fail
   go_region
   all_goals
    obtain⟨w5,hw5⟩:∃w5,w5=((((((wr.setCell ⟨g,(a+k)*6,none⟩ (.int .i64 z.f.k.i)).setCell ⟨g,(a+k)*6+1,none⟩ (.int .u8 (z.f.k.t:Nat))).setCell ⟨g,(a+k)*6+2,none⟩ (.string z.f.k.n)).setCell ⟨g,(a+k)*6+3,none⟩ (.int .i64 z.f.k.c)).setCell ⟨g,(a+k)*6+4,none⟩ (.slice z.A z.f.v.length z.c)).setCell ⟨g,(a+k)*6+5,none⟩ (.bool z.f.g)):=⟨_,rfl⟩;obtain⟨bs5,ks5⟩:=crow_put (b:=z) UB.out HL1.out hw5;obtain⟨w6,hw6⟩:∃w6,w6=((((((w5.setCell ⟨g,(b+k)*6,none⟩ (.int .i64 x.f.k.i)).setCell ⟨g,(b+k)*6+1,none⟩ (.int .u8 (x.f.k.t:Nat))).setCell ⟨g,(b+k)*6+2,none⟩ (.string x.f.k.n)).setCell ⟨g,(b+k)*6+3,none⟩ (.int .i64 x.f.k.c)).setCell ⟨g,(b+k)*6+4,none⟩ (.slice x.A x.f.v.length x.c)).setCell ⟨g,(b+k)*6+5,none⟩ (.bool x.f.g)):=⟨_,rfl⟩
    obtain⟨bs6,ks6⟩:=crow_put (b:=x) bs5 (by rw[List.length_set];exact HL2.out) hw6;rw[HST.out,←HF2.out] at bs6;have E6:=jH bs6.drew;have K6:Hid (Kept (·=g) w w6.drew):=((UK.out.trans ks5 fun _ _ h=>h).trans ks6 fun _ _ h=>h).drew;rw[hw5] at hw6;have HW:=jH hw6;clear hw5 hw6 bs5 bs6 ks5 ks6 a0 b0 f0 h0 a1 b1 f1 h1 a2 b2 f2 h2 a3 b3 f3 h3 a4 b4 f4 h4 a5 b5 f5 h5;go_wp2;go_roundw
    case rel=>
     refine⟨k+1,by omega,by go_num,?_,?_⟩
     ·have:=E6;rw[HW.out] at this;exact this
     ·have:=K6;rw[HW.out] at this;exact this
    case measure=>simp[intOf];omega
  ·have hkm:k=m:=by omega
   have E:Hid (RwcP w g sp (P++(Z++(Y++(X++S)))) (.returned (.tuple #[])) wr):=by
    have:=UB.out
    rw[List.take_of_length_le (by rw[HZ.out];omega),List.take_of_length_le (by rw[HX.out];omega),List.drop_of_length_le (by rw[HX.out];omega),List.drop_of_length_le (by rw[HZ.out];omega),List.append_nil,List.append_nil] at this;exact⟨rfl,this,UK.out⟩
   go_wp2
   go_end0
   exact E.out
end
section
set_option maxRecDepth 100000
open Go.ChangeShapes Go.WideShapes Go.ChangeAt Go.RowKit
theorem rot_any (g n c a m b:Nat) (P U V S:List CE) (sp:List Value) (f:Value) (w:World) (hb:Blk w g 105 (ces (P++(U++(V++S)))++sp)) (ha:P.length=a) (hU:a+U.length=m) (hV:m+V.length=b) (h1:a < m) (h2:m < b) (hbn:b≤n) (hn:n≤140737488351232):
  Calls Tryz.prog 147 #[.slice (some ⟨g,0,none⟩) n c,.int .i64 (a:Nat),.int .i64 (m:Nat),.int .i64 (b:Nat),f] w (RwcP w g sp (P++(V++(U++S)))):=by
 have HB:=jH hb;have HP:=jH ha;have HU:=jH hU;have HV:=jH hV;clear hb ha hU hV;go_enter Tryz.func147,Tryz.ntmps147;go_wp2_with fail
 go_loopw [10,11] (fun ti tj wr=>∃(i j:Nat) (A' U' V' B':List CE),0 < i∧0 < j∧i≤m∧m+j≤n∧ti=.int .i64 i∧tj=.int .i64 j∧Hid (U'.length=i∧V'.length=j∧A'.length+i=m)∧Hid (A'++(V'++(U'++B'))=P++(V++(U++S)))∧Hid (Blk wr g 105 (ces (A'++(U'++(V'++B')))++sp))∧Hid (Kept (·=g) w wr)) (fun ti tj _=>(intOf ti).toNat+(intOf tj).toNat)
 case atStart=>
  have:=HU.out
  have:=HV.out
  have:=HP.out
  exact⟨m - a,b - m,P,U,V,S,by omega,by omega,by omega,by omega,by congr 1;omega,by congr 1;omega,⟨by omega,by omega,by omega⟩,rfl,HB,kR⟩
 case round=>
  obtain⟨i,j,A',U',V',B',hi,hj,him,hjn,rfl,rfl,VL,VE,VB,VK⟩:=hrel
  have i1:IntKind.i64.wrap ((m:Int) - (i:Int))=((m - i:Nat):Int):=by rw[IntKind.wrap_i64];omega
  have hmi:∃s:Nat,s+i=m:=⟨m - i,by omega⟩;obtain⟨s,hs⟩:=hmi
  have i2:(m:Int) - (i:Int)=(s:Int):=by omega
  have HS:=jH hs;clear i1
  rcases Nat.lt_trichotomy i j with hij|hij|hij
  ·obtain⟨d,hd⟩:∃d:Nat,d+i=j:=⟨j - i,by omega⟩;obtain⟨t,ht⟩:∃t:Nat,t=s+i+d:=⟨_,rfl⟩
   have hd0:0 < d:=by omega
   have q1:¬i=j:=by omega
   have q2:¬j < i:=by omega
   have e1:V'.take d++V'.drop d=V':=List.take_append_drop _ _
   have l1:(V'.take d).length=d:=by rw[List.length_take,VL.out.2.1];omega
   have l2:(V'.drop d).length=i:=by rw[List.length_drop,VL.out.2.1];omega
   have SW:=jH (swapR_any g n c s t i A' U' (V'.take d) (V'.drop d) B' sp f wr (by have:=VB.out;rw[←e1] at this;simpa only[List.append_assoc,Hid] using this) (by have:=VL.out.2.2;omega) VL.out.1 l2 (by rw[l1,ht]) (by omega) hn)
   have E1:Hid (A'++(V'.take d++(V'.drop d++(U'++B')))=P++(V++(U++S))):=by
    have:=VE.out
    rw[←e1] at this;simpa only[List.append_assoc,Hid] using this
   have LL:Hid ((V'.drop d).length=i∧(V'.take d).length=d∧A'.length+i=m):=⟨l2,l1,VL.out.2.2⟩
   have q3:(m:Int)+(j:Int) - (i:Int)=(t:Int):=by omega
   have q4:(j:Int) - (i:Int)=(d:Int):=by omega
   have hdn:m+d≤n:=by omega
   have hdj:i+d < i+j:=by omega
   have HDJ:=jH hdj;clear e1 l1 l2 hd hs VB VE VL ht hdj;go_wp2_with fail;refine SW.out.mono ?_;rintro e w2 ⟨rfl,hb2,hk2⟩;have HB2:=jH hb2
   have HK2:Hid (Kept (·=g) w w2):=VK.out.trans hk2 fun _ _ h=>h
   clear hb2 hk2 SW VK;go_wp2;go_roundw
   case rel=>exact⟨i,d,A',V'.drop d,V'.take d,U'++B',hi,hd0,him,hdn,by go_num,by first|rfl|(rw[q4])|go_num,LL,E1,HB2,HK2⟩
   case measure=>have:=HDJ.out;simp[intOf];omega
  ·subst hij;have SW:=jH (swapR_any g n c s m i A' U' [] V' B' sp f wr VB.out (by have:=VL.out.2.2;omega) VL.out.1 VL.out.2.1 (by rw[List.length_nil];omega) (by omega) hn)
   have HE:Hid (∀w2,RwcP wr g sp (A'++(V'++([]++(U'++B')))) (.returned (.tuple #[])) w2→RwcP w g sp (P++(V++(U++S))) (.returned (.tuple #[])) w2):=fun w2 h=>by
    obtain⟨_,h1,h2⟩:=h;rw[List.nil_append,VE.out] at h1;exact⟨rfl,h1,VK.out.trans h2 fun _ _ h=>h⟩
   clear hs VB VE VL VK;go_wp2_with fail;refine SW.out.mono ?_;rintro e w2 ⟨rfl,hb2,hk2⟩;have E9:=jH (HE.out w2 ⟨rfl,hb2,hk2⟩);clear hb2 hk2 SW HE;go_wp2
   go_end0
   exact E9.out
  ·obtain⟨d,hd⟩:∃d:Nat,d+j=i:=⟨i - j,by omega⟩
   have hd0:0 < d:=by omega
   have q1:¬i=j:=by omega
   have q2:j < i:=hij;have e1:U'.take j++U'.drop j=U':=List.take_append_drop _ _
   have l1:(U'.take j).length=j:=by rw[List.length_take,VL.out.1];omega
   have l2:(U'.drop j).length=d:=by rw[List.length_drop,VL.out.1];omega
   have SW:=jH (swapR_any g n c s m j A' (U'.take j) (U'.drop j) V' B' sp f wr (by have:=VB.out;rw[←e1] at this;simpa only[List.append_assoc,Hid] using this) (by have:=VL.out.2.2;omega) l1 VL.out.2.1 (by rw[l2];omega) (by omega) hn)
   have E1:Hid ((A'++V')++(U'.take j++(U'.drop j++B'))=P++(V++(U++S))):=by
    have:=VE.out
    rw[←e1] at this;simpa only[List.append_assoc,Hid] using this
   have LL:Hid ((U'.drop j).length=d∧(U'.take j).length=j∧(A'++V').length+d=m):=⟨l2,l1,by rw[List.length_append,VL.out.2.1];have:=VL.out.2.2;omega⟩
   have q4:(i:Int) - (j:Int)=(d:Int):=by omega
   have hdm:d≤m:=by omega
   have HDJ:Hid (d+j < i+j):=by show _ < _;omega
   clear e1 l1 l2 hd hs VB VE VL;go_wp2_with fail;refine SW.out.mono ?_;rintro e w2 ⟨rfl,hb2,hk2⟩
   have HB2:Hid (Blk w2 g 105 (ces ((A'++V')++(U'.drop j++(U'.take j++B')))++sp)):=by rw[Hid,List.append_assoc A'];exact hb2
   have HK2:Hid (Kept (·=g) w w2):=VK.out.trans hk2 fun _ _ h=>h
   clear hb2 hk2 SW VK;go_wp2;go_roundw
   case rel=>exact⟨d,j,A'++V',U'.drop j,U'.take j,B',hd0,hj,hdm,hjn,by first|rfl|(rw[q4])|go_num,rfl,LL,E1,HB2,HK2⟩
   case measure=>have:=HDJ.out;simp[intOf];omega
end
section
set_option maxRecDepth 100000
open Go.RowKit
def SrtOf (O M:List CE):Prop:=M.length=O.length∧ordC (cts M)∧∀k,M.filter (fun d=>decide (d.f.k=k))=O.filter (fun d=>decide (d.f.k=k))
theorem SrtOf.self {O:List CE} (h:ordC (cts O)):SrtOf O O:=⟨rfl,h,fun _=>rfl⟩
theorem SrtOf.mem {O M:List CE} (h:SrtOf O M) {x:CE} (hx:x∈M):x∈O:=mem_of_filters h.2.2 hx
theorem SrtOf.trans {O M N:List CE} (h:SrtOf O M) (k:SrtOf M N):SrtOf O N:=⟨k.1.trans h.1,k.2.1,fun q=>(k.2.2 q).trans (h.2.2 q)⟩
theorem SrtOf.parts {O1 O2 M1 M2 N:List CE} (h1:SrtOf O1 M1) (h2:SrtOf O2 M2) (k:SrtOf (M1++M2) N):SrtOf (O1++O2) N:=
 ⟨by rw[k.1,List.length_append,List.length_append,h1.1,h2.1],k.2.1,fun q=>by rw[k.2.2 q,List.filter_append,List.filter_append,h1.2.2 q,h2.2.2 q]⟩
theorem filt_none {l:List CE} {k:KY} (h:∀x∈l,¬x.f.k=k):l.filter (fun d=>decide (d.f.k=k))=[]:=List.filter_eq_nil_iff.2 fun x hx hc=>h x hx (of_decide_eq_true hc)
theorem sym_math {U1 U2 V1 V2 M1 M2:List CE} (h1:SrtOf (U1++V1) M1) (h2:SrtOf (U2++V2) M2) (hU:ordC (cts (U1++U2))) (hV:ordC (cts (V1++V2)))
  (hA:∀u∈U1,∀v∈V2,befK v.f.k u.f.k=false) (hB:∀v∈V1,∀u∈U2,befK v.f.k u.f.k=true):SrtOf ((U1++U2)++(V1++V2)) (M1++M2):=by
 rw[cts_append,ordC_append] at hU hV
 have hm:∀{l:List CE} {x:CE},x∈l→x.f∈cts l:=fun hx=>List.mem_map.2 ⟨_,hx,rfl⟩
 refine⟨?_,?_,fun k=>?_⟩
 ·simp only[List.length_append,h1.1,h2.1];omega
 ·rw[cts_append,ordC_append];refine⟨h1.2.1,h2.2.1,fun x hx y hy=>?_⟩;obtain⟨x',hx',rfl⟩:=mem_cts hx;obtain⟨y',hy',rfl⟩:=mem_cts hy
  rcases List.mem_append.1 (h1.mem hx') with hx1|hx1<;>rcases List.mem_append.1 (h2.mem hy') with hy1|hy1
  ·exact hU.2.2 _ (hm hx1) _ (hm hy1)
  ·exact hA x' hx1 y' hy1
  ·exact befK_anti (hB x' hx1 y' hy1)
  ·exact hV.2.2 _ (hm hx1) _ (hm hy1)
 ·rw[List.filter_append,h1.2.2 k,h2.2.2 k];simp only[List.filter_append,List.append_assoc]
  congr 1
  rw[←List.append_assoc,←List.append_assoc]
  congr 1
  by_cases hv:∃v∈V1,v.f.k=k
  ·obtain⟨v,hv1,hv2⟩:=hv;rw[filt_none (l:=U2) fun u hu e=>ne_of_bef (hB v hv1 u hu) (hv2.trans e.symm)];simp
  ·rw[filt_none (l:=V1) fun v hv1 e=>hv ⟨v,hv1,e⟩];simp
theorem left_math {u:CE} {V1 V2:List CE} (hV:ordC (cts (V1++V2))) (h1:∀v∈V1,befK v.f.k u.f.k=true) (h2:∀v∈V2,befK v.f.k u.f.k=false):SrtOf ([u]++(V1++V2)) (V1++u::V2):=by
 refine⟨by simp only[List.length_append,List.length_cons,List.length_nil];omega,?_,fun k=>?_⟩
 ·rw[cts_append,ordC_append] at hV ⊢;obtain⟨a1,a2,a3⟩:=hV;refine⟨a1,⟨fun d hd=>?_,a2⟩,fun x hx y hy=>?_⟩
  ·obtain⟨e,he,rfl⟩:=mem_cts hd;exact h2 e he
  ·obtain⟨v,hv,rfl⟩:=mem_cts hx
   rcases List.mem_cons.1 hy with rfl|hy
   ·exact befK_anti (h1 v hv)
   ·exact a3 _ hx y hy
 ·rw[show V1++u::V2=V1++([u]++V2) from rfl];simp only[List.filter_append];rw[←List.append_assoc,←List.append_assoc]
  congr 1
  by_cases e:u.f.k=k
  ·rw[filt_none (l:=V1) fun v hv e2=>ne_of_bef (h1 v hv) (e2.trans e.symm)];simp
  ·rw[filt_none (l:=[u]) fun v hv e2=>by
    simp only[List.mem_cons,List.not_mem_nil,or_false] at hv
    exact e (hv ▸ e2)]
   simp
theorem right_math {v:CE} {U1 U2:List CE} (hU:ordC (cts (U1++U2))) (h1:∀u∈U1,befK v.f.k u.f.k=false) (h2:∀u∈U2,befK v.f.k u.f.k=true):SrtOf ((U1++U2)++[v]) (U1++v::U2):=by
 refine⟨by simp only[List.length_append,List.length_cons,List.length_nil];omega,ordC_ins hU h2 h1,fun k=>?_⟩;rw[filt_ins h2,List.filter_append (U1++U2)]
theorem bef_le2 {a b c:KY} (h1:befK a b=true) (h2:befK c b=false):befK a c=true:=by
 rcases befK_tri b c with t|t|t
 ·exact befK_trans h1 t
 ·rw[←t];exact h1
 ·rw[h2] at t;cases t
theorem lt_all {R:List CE} {y:CE} {k:KY} (h:ordC (cts (y::R))) (hy:befK k y.f.k=true):∀r∈y::R,befK k r.f.k=true:=fun r hr=>by
 rcases List.mem_cons.1 hr with rfl|hr
 ·exact hy
 ·exact bef_le2 hy (h.1 _ (List.mem_map.2 ⟨r,hr,rfl⟩))
end
end Go.Proofs.YtbiihjdjbknibaaGreat
