/-
  Layer 7: contracts (Zh Zf).
-/
import Derived.Test.YtjjamoemheljdaaGreatC17
import Derived.Maps.OwnOps
import Derived.Maps.Views
namespace Go.Proofs.YtjjamoemheljdaaGreat
set_option maxRecDepth 100000
set_option maxHeartbeats 8000000
set_option linter.unusedSimpArgs false
set_option linter.unusedVariables false
section
open Go.RowKit Go.Maps
theorem lawI:Keyed Tryz.prog 3:=int_keyed Tryz.underlying3
theorem zeroI (w:World):(zeroValue 3).run Tryz.prog w=.ok (.int .i64 0) w:=by kernel_rfl
theorem wfI {x:Int} (h1:-9223372036854775808≤x) (h2:x≤9223372036854775807):(Lit.int .i64 x).wf=true:=by
 simp[Lit.wf,IntKind.min,IntKind.max,IntKind.signed,IntKind.bits];omega
theorem keyI {j:Nat} (h:j≤65535):keyOf Tryz.prog 3 (.int .i64 j)=some (.int .i64 j):=keyOf_int_mk Tryz.underlying3 (wfI (by omega) (by omega))
def MapD (w:World) (b N:Nat) (f:Nat→Nat) (D:DataW Unit):Prop:=w.ownsMap Tryz.prog 3 (plainElem Tryz.prog 3) b N D∧IsMap D∧(∀j:Nat,D.atKey (.int .i64 (j:Nat)) (.lit (.int .i64 0))=.lit (.int .i64 (f j:Nat)))∧∀j,f j≤N
def MapI (w:World) (b N:Nat) (f:Nat→Nat):Prop:=∃D,MapD w b N f D
theorem MapI.made (w:World):MapI (w.alloc (.map #[] 0)) w.heap.size 0 (fun _=>0):=⟨.map [],World.ownsMap_made _ _ _ _,isMap_empty,fun _=>rfl,fun _=>Nat.le_refl _⟩
theorem MapI.new {w w':World} {b N:Nat} {f:Nat→Nat} (h:MapI w b N f) (k:New w w'):MapI w' b N f:=by
 obtain⟨D,⟨es,clock,hb,hF,hs,hD⟩,h2,h3,h4⟩:=h
 have hlt:b < w.heap.size:=by
  rcases Nat.lt_or_ge b w.heap.size with h|h
  ·exact h
  ·rw[Array.getElem?_eq_none h] at hb;cases hb
 exact⟨D,⟨es,clock,(k.block b hlt id).trans hb,hF,hs,hD⟩,h2,h3,h4⟩
theorem MapI.mono {w:World} {b N M:Nat} {f g:Nat→Nat} (h:MapI w b N f) (hN:N≤M) (hf:∀j,f j=g j):MapI w b M g:=by
 obtain⟨D,h1,h2,h3,h4⟩:=h;exact⟨D,h1.mono hN,h2,fun j=>by rw[h3,hf],fun j=>by rw[←hf];exact Nat.le_trans (h4 j) hN⟩
theorem MapD.put {w w1:World} {b N j:Nat} {f:Nat→Nat} {D:DataW Unit} (h:MapD w b N f D) {v:Int} (hv:v=((f j+1:Nat):Int)) (hown:w1.ownsMap Tryz.prog 3 (plainElem Tryz.prog 3) b (N+1) (D.put (.int .i64 j) (.lit (.int .i64 v)))):
  MapI w1 b (N+1) (fun x=>if j=x then f x+1 else f x):=by
 refine⟨_,hown,h.2.1.put _ _,fun x=>?_,fun x=>?_⟩
 ·by_cases e:j=x
  ·subst e
   show _=DataW.lit (Lit.int .i64 (if j=j then f j+1 else f j:Nat))
   rw[atKey_put_same h.2.1 (show WideAt.IsKeyLit (.int .i64 j) from trivial),if_pos rfl,hv]
  ·show _=DataW.lit (Lit.int .i64 (if j=x then f x+1 else f x:Nat))
   rw[atKey_put_other (fun e2=>e (by injection e2 with _ e2;omega)),if_neg e];exact h.2.2.1 x
 ·have:=h.2.2.2 x
  show (if j=x then f x+1 else f x)≤N+1
  split<;>omega
theorem entered_yes (gt p:Nat) (A:Option Addr) (n c:Nat) (es:List NE) (w:World) (hB:Blk w gt 25 [.int .i64 p,.slice A n c]) (hT:TIn w A es) (hn:es.length=n) (hR:Rt ⟨p,nds es⟩):
  Calls Tryz.prog 44 #[.pointer (some ⟨gt,0,none⟩)] w (zbt w true):=by
 have hlen:n≤48:=by have:=hR.len;rw[show (TT.mk p (nds es)).l.length=es.length from zab es] at this;omega
 have HR:=jH hR;have HB:=jH hB;have HT:=jH hT;have HN:=jH hn;have hmm:=@run_makeMap Tryz.prog;clear hB hT hn hR;have b1:=HB.out.q1;have hgt:gt < w.heap.size:=World.block_lt_of_cell? w _ b1;obtain⟨w1,hw1⟩:∃w1,w1=w.alloc (.map #[] 0):=⟨_,rfl⟩
 have N1:Hid (New w w1):=by rw[hw1];exact kR.alloc _
 have M1:Hid (MapI w1 w.heap.size 0 (fun _=>0)):=by rw[hw1];exact MapI.made w
 have HW1:=jH hw1;clear hw1 b1;go_enter Tryz.func44,Tryz.ntmps44
 go_upto_region 2 with fail
 rw[←HW1.out];clear HW1 hmm
 have HBB:Hid (∀u,New w u→w.heap.size < u.heap.size∨True):=fun _ _=>.inr trivial
 obtain⟨b,hb⟩:∃b,b=w.heap.size:=⟨_,rfl⟩;rw[←hb] at M1 ⊢
 have HBQ:Hid (w.heap.size≤b):=by rw[Hid,hb];exact Nat.le_refl _
 clear hb HBB hgt;have b1:=(HB.out.kept N1.out id).q1;go_wp2_with fail;clear b1
 go_loopw [17] (fun q wr=>∃k:Nat,k≤n∧q=.int .i64 k∧Hid (New w wr)∧Hid (MapI wr b (1000*k) (fun x=>cntL ((nds es).take k) x))) (fun q _=>n - (intOf q).toNat)
 case atStart=>exact⟨0,Nat.zero_le _,rfl,N1.out,M1.out.mono (Nat.le_refl _) (fun j=>by simp[cntL])⟩
 case round=>
  obtain⟨k,hk,rfl,HW,HM⟩:=hrel
  by_cases hlt:k < n
  ·obtain⟨g,o,e,eA,he⟩:=TIn.pos (TIn.new HT.out HW.out) (i:=k) (by rw[HN.out];exact hlt);subst eA;obtain⟨hok,y0,y1,y2,y3,y4⟩:=(TIn.new HT.out HW.out).get he;have hen:=zbc he;have hnl:e.n.ns.length≤288:=HR.out.ns_le (List.mem_of_getElem? hen)
   have s1:(k:Int) < (n:Int):=by omega
   obtain⟨w2,hw2⟩:∃w2,w2=wr.alloc (.cells #[.int .i64 e.n.i,.int .u8 e.n.k,.int .i64 e.n.l,.slice e.A e.n.ns.length e.c,.slice e.B e.n.b.length e.d] 53):=⟨_,rfl⟩
   have k2:New wr w2:=by rw[hw2];exact kR.alloc _
   have BX:Hid (Blk w2 wr.heap.size 53 [.int .i64 e.n.i,.int .u8 e.n.k,.int .i64 e.n.l,.slice e.A e.n.ns.length e.c,.slice e.B e.n.b.length e.d]):=by rw[hw2];exact Blk.made wr _ _
   have N2:=jH (HW.out.new k2);have M2:=jH (HM.out.new k2);have HW2:=jH hw2;have HOK:Hid (NmIn w e.A e.n.ns):=(HT.out.get he).1.1;have HE:=jH hen;clear hw2 k2 hok he
   go_upto_region 5 with fail
   rw[←HW2.out];clear HW2 y0 y1 y2 y3 y4 HW HM;generalize wr.heap.size=gb at *;have x3:=BX.out.q3;go_wp2_with fail;clear x3
   go_loopw [24] (fun q wx=>∃i:Nat,i≤e.n.ns.length∧q=.int .i64 i∧Hid (New w wx)∧Hid (MapI wx b (1000*k+i) (fun x=>cntL ((nds es).take k) x+cntN (e.n.ns.take i) x))) (fun q _=>e.n.ns.length - (intOf q).toNat)
   case atStart=>exact⟨0,Nat.zero_le _,rfl,N2.out,M2.out.mono (Nat.le_refl _) (fun j=>by simp[cntN])⟩
   case round=>
    obtain⟨i,hi,rfl,HX,HMX⟩:=hrel
    by_cases hlt2:i < e.n.ns.length
    ·obtain⟨g3,o3,f,eA3,hf⟩:=NmIn.pos (RowV.new HOK.out HX.out) (i:=i) hlt2;have HNA:Hid (NmIn wr e.A e.n.ns):=RowV.new HOK.out HX.out;rw[eA3] at HNA;obtain⟨y0,y1⟩:=NmIn.get HNA.out hf;have hmem:=List.mem_of_getElem? HE.out;have hfi:=HR.out.ent e.n hmem f (List.mem_of_getElem? hf);obtain⟨nd,hnd,hni⟩:=List.mem_map.1 hfi
     have hle:f.2≤65535:=by rw[←hni];exact (HR.out.rng nd hnd).2
     have hj:ndI (nds es) f.2=some nd:=by rw[←hni];exact zbf HR.out.ord hnd
     have CN:Hid (∀u,New w u→Calls Tryz.prog 72 #[.pointer (some ⟨gt,0,none⟩),.int .i64 f.2] u (fun e w'=>e=.returned (.pointer (some ⟨g,o+posI (nds es) f.2*5,none⟩))∧New u w')):=fun u hu=>
      zbq gt _ g o n c es f.2 nd u (HB.out.kept hu id) (TIn.new HT.out hu) (by rw[zab];exact HN.out) HR.out.ord (by omega) hj
     have s2:(i:Int) < ((e.n.ns.length:Nat):Int):=by omega
     obtain⟨w3,hw3⟩:∃w3,w3=wr.alloc (.cells #[.string f.1,.int .i64 f.2] 65):=⟨_,rfl⟩
     have k3:New wr w3:=by rw[hw3];exact kR.alloc _
     have BN:Hid (Blk w3 wr.heap.size 65 [.string f.1,.int .i64 f.2]):=by rw[hw3];exact Blk.made wr _ _
     have N3:=jH (HX.out.new k3);have M3:=jH (HMX.out.new k3);have HW3:=jH hw3;have HFF:=jH hf;rw[eA3];clear hw3 k3 hmem hfi hnd hni hj hf
     go_upto_region 8 with fail
     rw[←HW3.out];clear HW3 y0 y1 HX HMX;generalize wr.heap.size=gn at *;have x1:=BN.out.q1
     go_upto_region 10 with (go_at_call 72;refine (CN.out _ N3.out).mono ?_;rintro e2 w4 ⟨rfl,hK⟩;have N4:=jH (N3.out.new hK);have M4:=jH (M3.out.new hK);have x1:=(BN.out.kept hK id).q1;clear hK)
     obtain⟨D,hD⟩:=M4.out;have hfb:=hD.2.2.2 f.2;have HAT:=jH (hD.2.2.1 f.2);obtain⟨fv,hfv⟩:∃fv,fv=cntL ((nds es).take k) f.2+cntN (e.n.ns.take i) f.2:=⟨_,rfl⟩;have HFV:=jH hfv;simp only[←hfv] at hfb HAT;clear hfv
     have hwl:wrap64 ((fv:Int)+1)=((fv+1:Nat):Int):=by unfold wrap64;omega
     have hwk:IntKind.i64.wrap ((fv:Int)+1)=((fv+1:Nat):Int):=by rw[IntKind.wrap_i64];omega
     go_wp2_with (first
      | (at_lookup;refine wpList_lookup_own_int _ rfl _ _ 101 rfl 3 3 .i64 lawI Tryz.underlying101 Tryz.underlying3 (zeroI _) b _ D rfl hD.1 _ _ rfl (keyI hle) ?_;intro c hat hwc;obtain rfl:c=((fv:Nat):Int):=(by have h:=hat.symm.trans HAT.out;injection h with h;injection h))
      | (at_mapUpdate;refine wpList_mapUpdate_own _ rfl _ _ _ 101 rfl 3 3 lawI Tryz.underlying101 _ b _ D rfl hD.1 (by unfold maxLen;omega) _ _ _ rfl rfl (keyI hle) _ [] (plainElem_int Tryz.underlying3 (by first|exact wfI (by omega) (by omega)|exact wrap64_wf _)) ?_;intro w5 hown5 hgrow5))
     have N5:Hid (New w w5):=N4.out.grown hgrow5 (fun q hq e=>by injection e with e;have:=HBQ.out;omega)
     have M5:Hid (MapI w5 b (1000*k+(i+1)) (fun x=>cntL ((nds es).take k) x+cntN (e.n.ns.take (i+1)) x)):=
      (hD.put (by show _=(((cntL ((nds es).take k) f.2+cntN (e.n.ns.take i) f.2)+1:Nat):Int);rw[←HFV.out];first|rfl|omega) hown5).mono (by omega) (fun x=>by rw[cntN_take HFF.out];split<;>omega)
     go_roundw
     case rel=>exact⟨i+1,by omega,by go_num,N5,M5⟩
     case measure=>simp[intOf];omega
    ·obtain rfl:i=e.n.ns.length:=by omega
     go_wp2;go_roundw
     case rel=>exact⟨k+1,by omega,by go_num,HX,HMX.out.mono (by omega) (fun x=>by rw[cntL_take HE.out,List.take_length])⟩
     case measure=>simp[intOf];omega
  ·obtain rfl:k=n:=by omega
   have b1:=(HB.out.kept HW.out id).q1;have HM:Hid (MapI wr b (1000*k) (fun x=>zar (nds es) x)):=HM.out.mono (Nat.le_refl _) (fun x=>by rw[List.take_of_length_le (by rw[zab,HN.out];exact Nat.le_refl _)];exact HR.out.cnt x);go_wp2_with fail;clear b1
   go_loopw [10,45] (fun _ q wx=>∃i:Nat,i≤k∧q=.int .i64 i∧Hid (New w wx)∧Hid (MapI wx b (1000*k) (fun x=>zar (nds es) x))) (fun _ q _=>k - (intOf q).toNat)
   case atStart=>exact⟨0,Nat.zero_le _,rfl,HW,HM⟩
   case round=>
    obtain⟨i,hi,rfl,HX,HMX⟩:=hrel
    by_cases hlt2:i < k
    ·obtain⟨g,o,e,eA,he⟩:=TIn.pos (TIn.new HT.out HX.out) (i:=i) (by rw[HN.out];exact hlt2);subst eA;obtain⟨_,y0,y1,y2,y3,y4⟩:=(TIn.new HT.out HX.out).get he;have hmem:=List.mem_of_getElem? (zbc he);have hle:e.n.i≤65535:=(HR.out.rng _ hmem).2;have hj:ndI (nds es) e.n.i=some e.n:=zbf HR.out.ord hmem
     have hw:zar (nds es) e.n.i=if e.n.i=1 then 0 else e.n.l:=by unfold zar;rw[hj]
     have s2:(i:Int) < (k:Int):=by omega
     obtain⟨w2,hw2⟩:∃w2,w2=wr.alloc (.cells #[.int .i64 e.n.i,.int .u8 e.n.k,.int .i64 e.n.l,.slice e.A e.n.ns.length e.c,.slice e.B e.n.b.length e.d] 53):=⟨_,rfl⟩
     have k2:New wr w2:=by rw[hw2];exact kR.alloc _
     have BX:Hid (Blk w2 wr.heap.size 53 [.int .i64 e.n.i,.int .u8 e.n.k,.int .i64 e.n.l,.slice e.A e.n.ns.length e.c,.slice e.B e.n.b.length e.d]):=by rw[hw2];exact Blk.made wr _ _
     have N2:=jH (HX.out.new k2);have M2:=jH (HMX.out.new k2);have HW2:=jH hw2;clear hw2 k2 he hmem hj
     go_upto_region 16 with fail
     rw[←HW2.out];clear HW2 y0 y1 y2 y3 y4 HX HMX;generalize wr.heap.size=gb at *;have x0:=BX.out.q0;have x2:=BX.out.q2;obtain⟨D,hD⟩:=M2.out;have HAT:=jH (hD.2.2.1 e.n.i);rw[show (fun x=>zar (nds es) x) e.n.i=zar (nds es) e.n.i from rfl,hw] at HAT;clear hw
     by_cases h1:e.n.i=1
     ·rw[if_pos h1] at HAT;obtain⟨fv,hfv⟩:∃fv:Nat,fv=0:=⟨_,rfl⟩;rw[←hfv] at HAT
      have d1:(((e.n.i:Nat):Int) == 1)=true:=by rw[beq_iff_eq];omega
      have d2:(((fv:Nat):Int) != 0)=false:=bne_eq_false_iff_eq.2 (by omega);generalize e.n.i=ei at *;clear h1 hfv
      go_wp2_with (at_lookup;refine wpList_lookup_own_int _ rfl _ _ 101 rfl 3 3 .i64 lawI Tryz.underlying101 Tryz.underlying3 (zeroI _) b _ D rfl hD.1 _ _ rfl (keyI hle) ?_;intro c hat hwc;obtain rfl:c=((fv:Nat):Int):=(by have h:=hat.symm.trans HAT.out;injection h with h;injection h))
      go_roundw
      case rel=>exact⟨i+1,by omega,by go_num,N2,⟨D,hD⟩⟩
      case measure=>simp[intOf];omega
     ·rw[if_neg h1] at HAT
      have d1:(((e.n.i:Nat):Int) == 1)=false:=by rw[beq_eq_false_iff_ne];omega
      generalize e.n.i=ei at *;generalize e.n.l=fv at *;clear h1
      go_wp2_with (at_lookup;refine wpList_lookup_own_int _ rfl _ _ 101 rfl 3 3 .i64 lawI Tryz.underlying101 Tryz.underlying3 (zeroI _) b _ D rfl hD.1 _ _ rfl (keyI hle) ?_;intro c hat hwc;obtain rfl:c=((fv:Nat):Int):=(by have h:=hat.symm.trans HAT.out;injection h with h;injection h))
      go_roundw
      case rel=>exact⟨i+1,by omega,by go_num,N2,⟨D,hD⟩⟩
      case measure=>simp[intOf];omega
    ·obtain rfl:i=k:=by omega
     go_wp2;go_ret;exact⟨rfl,HX.out⟩
end
section
open Go.RowKit
theorem names_yes (A:Option Addr) (m c:Nat) (ns:List (ByteArray×Nat)) (w:World) (hA:NmIn w A ns) (hm:ns.length=m) (ho:OrdS ns) (hn:∀e∈ns,nameB e.1=true) (hml:m≤1000000):
  Calls Tryz.prog 97 #[.slice A m c] w (zbt w true):=by
 have H:=jH hA;have HM:=jH hm;have HO:=jH ho;have HN:=jH hn;clear hA hm ho hn;go_enter Tryz.func97,Tryz.ntmps97;go_wp2_with fail
 go_loopw [3,4,7] (fun _ _ q wr=>∃t:Nat,t≤m∧q=.int .i64 t∧Hid (New w wr)) (fun _ _ q _=>m - (intOf q).toNat)
 case atStart=>exact⟨0,Nat.zero_le _,rfl,kR⟩
 case round=>
  obtain⟨t,ht,rfl,HW⟩:=hrel
  by_cases hlt:t < m
  ·obtain⟨g,o,e,eA,he⟩:=NmIn.pos (RowV.new H.out HW.out) (i:=t) (by rw[HM.out];exact hlt);subst eA;obtain⟨y0,y1⟩:=NmIn.get (RowV.new H.out HW.out) he;have hnm:=HN.out e (List.mem_of_getElem? he)
   have cB:Hid (∀u:World,Calls Tryz.prog 106 #[.string e.1] u fun e w'=>e=.returned (.bool true)∧w'=u):=fun u=>(name_any e.1 u (name_le hnm)).mono fun _ _ hh=>⟨by rw[hh.1];exact congrArg (fun b=>Ending.returned (.bool b)) hnm,hh.2⟩
   obtain⟨w2,hw2⟩:∃w2,w2=wr.alloc (.cells #[.string e.1,.int .i64 e.2] 65):=⟨_,rfl⟩
   have k2:New wr w2:=by rw[hw2];exact kR.alloc _
   have BX:Hid (Blk w2 wr.heap.size 65 [.string e.1,.int .i64 e.2]):=by rw[hw2];exact Blk.made wr _ _
   have N2:=jH (HW.out.new k2);have HW2:=jH hw2
   have s1:(t:Int) < (m:Int):=by omega
   have hgl:g < wr.heap.size:=World.block_lt_of_cell? wr _ y0;clear hw2 k2
   go_upto_region 4 with fail
   rw[←HW2.out];clear HW2 y0 y1 hgl;generalize wr.heap.size=gb at *;have x0:=BX.out.q0
   rcases Nat.eq_zero_or_pos t with h0|h0
   ·subst h0;clear he hnm
    go_wp2_with (go_at_call 106;refine (cB.out _).mono ?_;rintro e2 w3 ⟨rfl,rfl⟩)
    go_quiet (fail);have K9:Hid (New w (w3.drewN nq)):=N2.out.drewN nq;clear cB x0;go_wp2;go_roundw
    case rel=>exact⟨1,by omega,by go_num,K9⟩
    case measure=>simp[intOf];omega
   ·obtain⟨s,rfl⟩:∃s,t=s+1:=⟨t - 1,by omega⟩;obtain⟨f,hf⟩:∃f,ns[s]?=some f:=⟨_,List.getElem?_eq_getElem (by rw[HM.out];omega)⟩;obtain⟨z0,_⟩:=NmIn.get (RowV.new H.out N2.out) hf
    have hlt3:Op.bytesLess f.1.toList e.1.toList=true:=by rw[less_cmp];exact decide_eq_true (ordS_at HO.out (Nat.lt_succ_self s) hf he)
    have s0:IntKind.i64.wrap (s:Int)=(s:Int):=by rw[IntKind.wrap_i64];omega
    have s2:((s:Int)+1).toNat=s+1:=by omega
    have s3:(s:Int) < (m:Int):=by omega
    have s4:(s:Int)+1 < (m:Int):=by omega
    have s5:(0:Int) < (s:Int)+1:=by omega
    clear he hnm hf
    go_wp2_with (go_at_call 106;refine (cB.out _).mono ?_;rintro e2 w3 ⟨rfl,rfl⟩)
    go_quiet (fail);have K9:Hid (New w (w3.drewN nq)):=N2.out.drewN nq;clear cB x0 z0;go_wp2;go_roundw
    case rel=>exact⟨s+2,by omega,by go_num,K9⟩
    case measure=>simp[intOf];omega
  ·obtain rfl:t=m:=by omega
   go_wp2;go_ret;exact⟨rfl,HW.out⟩
theorem most_in (gt p:Nat) (w:World) (y0:w.cell? ⟨gt,0,none⟩=some (.int .i64 p)) (hp:p≤1000000):Calls Tryz.prog 95 #[.pointer (some ⟨gt,0,none⟩)] w (fun e w'=>e=.returned (.int .i64 (8*p:Nat))∧w'=w):=by
 have wp:IntKind.i64.wrap (8*((p:Nat):Int))=8*((p:Nat):Int):=by rw[IntKind.wrap_i64];omega
 go_enter Tryz.func95,Tryz.ntmps95;go_wp2;go_ret;exact⟨by simp,rfl⟩
theorem node_yes (gt p g o:Nat) (e:NE) (w:World) (y0:w.cell? ⟨gt,0,none⟩=some (.int .i64 p)) (hp:p≤255)
  (z1:w.cell? ⟨g,o+1,none⟩=some (.int .u8 e.n.k)) (z2:w.cell? ⟨g,o+2,none⟩=some (.int .i64 e.n.l)) (z3:w.cell? ⟨g,o+3,none⟩=some (.slice e.A e.n.ns.length e.c)) (z4:w.cell? ⟨g,o+4,none⟩=some (.slice e.B e.n.b.length e.d))
  (hA:NmIn w e.A e.n.ns) (hf:Fine p e.n) (hm:e.n.ns.length≤1000000):
  Calls Tryz.prog 71 #[.pointer (some ⟨gt,0,none⟩),.pointer (some ⟨g,o,none⟩)] w (zbt w true):=by
 obtain⟨f1,f2,_,f4⟩:=hf;have CN:=jH (names_yes e.A e.n.ns.length e.c e.n.ns w hA rfl f1 f2 hm)
 have CM:Hid (∀q:Nat,Calls Tryz.prog 95 #[.pointer (some ⟨gt,0,none⟩)] (w.drewN q) (fun e w'=>e=.returned (.int .i64 (8*p:Nat))∧w'=w.drewN q)):=fun q=>most_in gt p (w.drewN q) y0 (by omega)
 rcases f4 with ⟨hk,hl,hbb⟩|⟨hk,hl1,hl6,hns,hbb⟩
 ·have hk:e.n.k=1:=hk;have hl:e.n.l=1:=hl;rw[hk] at z1;rw[hl] at z2;rw[show e.n.b.length=0 by rw[show e.n.b=[] from hbb];rfl] at z4;generalize e.n.ns.length=m at *;clear hA f1 f2 hk hl hbb CM hm;go_enter Tryz.func71,Tryz.ntmps71
  go_wp2_with (go_at_call 97;refine CN.out.mono ?_;rintro e2 w2 ⟨rfl,hK⟩;have K2:=jH hK;clear hK)
  go_ret;exact⟨rfl,K2.out⟩
 ·have hk:e.n.k=2:=hk;rw[hk] at z1;rw[show e.n.ns.length=0 by rw[show e.n.ns=[] from hns];rfl] at z3;have d1:decide ((1:Int)≤((e.n.l:Nat):Int))=true:=decide_eq_true (by have:1≤e.n.l:=hl1;omega);have d2:decide (((e.n.l:Nat):Int)≤6)=true:=decide_eq_true (by have:e.n.l≤6:=hl6;omega);have d3:decide (e.n.b.length≤8*p)=true:=decide_eq_true hbb;have CM:=CM.out;generalize e.n.b.length=bl at *;generalize e.n.l=l at *;generalize 8*p=p8 at *;have CM:=jH CM;clear hA f1 f2 hk hl1 hl6 hns hbb CN hm;go_enter Tryz.func71,Tryz.ntmps71;go_wp2_with fail
  go_quiet ((go_at_call 95;exact Calls.quiet_of_same (CM.out _)))
  go_wp2;go_ret;exact⟨rfl,kR.drewN _⟩
theorem nodes_yes (gt p:Nat) (A:Option Addr) (n c:Nat) (es:List NE) (w:World) (hB:Blk w gt 25 [.int .i64 p,.slice A n c]) (hT:TIn w A es) (hn:es.length=n) (hR:Rt ⟨p,nds es⟩):
  Calls Tryz.prog 43 #[.pointer (some ⟨gt,0,none⟩)] w (zbt w true):=by
 have hlen:n≤48:=by have:=hR.len;rw[show (TT.mk p (nds es)).l.length=es.length from zab es] at this;omega
 obtain⟨rt,tl,hrt,hri,hrk⟩:=hR.root;have hrt:nds es=rt::tl:=hrt
 have hpos:0 < n:=by
  have:=zab es
  rw[hrt] at this;simp at this;omega
 have hp:=hR.p2;have hp:p≤255:=hp;have HO:Hid (OrdN (nds es)):=hR.ord;have HL:=jH hlen
 have HF:Hid (∀x∈nds es,Fine p x∧x.ns.length≤1000000):=fun x hx=>⟨hR.fin x hx,by have:=hR.ns_le hx;omega⟩
 obtain⟨g,o,e0,eA,h0⟩:=TIn.pos hT (i:=0) (by omega);subst eA
 have he0:e0.n=rt:=by
  have:=zbc h0
  rw[hrt] at this;simpa using this.symm
 obtain⟨_,a0,a1,_,_,_⟩:=hT.get h0;rw[he0,hri,Nat.zero_mul,Nat.add_zero] at a0;rw[he0,hrk,Nat.zero_mul,Nat.add_zero] at a1;have HB:=jH hB;have HT:=jH hT;have HN:=jH hn;have b1:=hB.q1
 have d0:(((n:Nat):Int) == 0)=false:=by rw[beq_eq_false_iff_ne];omega
 have d1:decide ((48:Int) < ((n:Nat):Int))=false:=decide_eq_false (by omega)
 have s0:(0:Int) < ((n:Nat):Int):=by omega
 clear hR hrt hri hrk he0 h0 hB hT hn hlen hpos;go_enter Tryz.func43,Tryz.ntmps43;go_wp2_with fail;clear a0 a1 b1 d0 d1 s0
 go_loopw [3,41] (fun _ q wr=>∃t:Nat,t≤n∧q=.int .i64 t∧Hid (New w wr)) (fun _ q _=>n - (intOf q).toNat)
 case atStart=>exact⟨0,Nat.zero_le _,rfl,kR⟩
 case round=>
  obtain⟨t,ht,rfl,HW⟩:=hrel;have hn48:n≤48:=HL.out
  by_cases hlt:t < n
  ·obtain⟨_,_,e,eA,he⟩:=TIn.pos (TIn.new HT.out HW.out) (i:=t) (by rw[HN.out];exact hlt)
   injection eA with eA
   injection eA with e1 e2
   subst e1 e2;have hF:=HF.out e.n (List.mem_of_getElem? (zbc he))
   have CY:Hid (∀u,New w u→Calls Tryz.prog 71 #[.pointer (some ⟨gt,0,none⟩),.pointer (some ⟨g,o+t*5,none⟩)] u (zbt u true)):=fun u hu=>by
    obtain⟨hk,_,z1,z2,z3,z4⟩:=(TIn.new HT.out hu).get he;exact node_yes gt p g (o+t*5) e u ((HB.out.kept hu id).cell 0) hp z1 z2 z3 z4 hk.1 hF.1 hF.2
   have b1:=(HB.out.kept HW.out id).q1
   have s1:(t:Int) < (n:Int):=by omega
   obtain⟨_,y0,_⟩:=(TIn.new HT.out HW.out).get he
   rcases Nat.eq_zero_or_pos t with h0|h0
   ·subst h0;clear he hF y0;go_wp2_with fail;go_quiet (fail);have K9:Hid (New w (wr.drewN nq)):=HW.out.drewN nq;have b1:(wr.drewN nq).cell? ⟨gt,1,none⟩=some (.slice (some ⟨g,o,none⟩) n c):=b1
    go_wp2_with (go_at_call 71;refine (CY.out _ K9.out).mono ?_;rintro e2 w3 ⟨rfl,hK⟩;have K3:Hid (New w w3):=K9.out.new hK;clear hK)
    go_roundw
    case rel=>exact⟨1,by omega,by go_num,K3⟩
    case measure=>simp[intOf];omega
   ·obtain⟨s,rfl⟩:∃s,t=s+1:=⟨t - 1,by omega⟩;obtain⟨f,hf⟩:∃f,es[s]?=some f:=⟨_,List.getElem?_eq_getElem (by rw[HN.out];omega)⟩;obtain⟨_,z0,_⟩:=(TIn.new HT.out HW.out).get hf;have hlt3:=ordN_at HO.out (Nat.lt_succ_self s) (zbc hf) (zbc he);have d2:decide (((e.n.i:Nat):Int)≤((f.n.i:Nat):Int))=false:=decide_eq_false (by omega);have d2':decide (e.n.i≤f.n.i)=false:=decide_eq_false (by omega)
    have s0:IntKind.i64.wrap (s:Int)=(s:Int):=by rw[IntKind.wrap_i64];have:=HL.out;omega
    have s2:((s:Int)+1).toNat=s+1:=by omega
    have s3:(s:Int) < (n:Int):=by omega
    have s4:(s:Int)+1 < (n:Int):=by omega
    have s5:(0:Int) < (s:Int)+1:=by omega
    have s6:(0:Int)≤(s:Int)+1:=by omega
    clear he hF hf hlt3;generalize e.n.i=ei at *;generalize f.n.i=fi at *;go_wp2_with fail;go_quiet (fail);have K9:Hid (New w (wr.drewN nq)):=HW.out.drewN nq;have b1:(wr.drewN nq).cell? ⟨gt,1,none⟩=some (.slice (some ⟨g,o,none⟩) n c):=b1
    go_wp2_with (go_at_call 71;refine (CY.out _ K9.out).mono ?_;rintro e2 w3 ⟨rfl,hK⟩;have K3:Hid (New w w3):=K9.out.new hK;clear hK)
    go_roundw
    case rel=>exact⟨s+2,by omega,by go_num,K3⟩
    case measure=>simp[intOf];omega
  ·obtain rfl:t=n:=by omega
   go_wp2;go_ret;exact⟨rfl,HW.out⟩
end
end Go.Proofs.YtjjamoemheljdaaGreat
