/-
  Layer 7: contracts (Yh).
-/
import Derived.Test.YtjjamoemheljdaaGreatC19
import Derived.Test.YtjjamoemheljdaaGreatC20
namespace Go.Proofs.YtjjamoemheljdaaGreat
set_option maxRecDepth 100000
set_option maxHeartbeats 8000000
set_option linter.unusedSimpArgs false
set_option linter.unusedVariables false
section
open Go.RowKit
def Tr (w:World) (gt b:Nat):Prop:=b=gt∨At w b 53∨At w b 65
theorem Tr.back {S:Nat→Prop} {a b:World} {gt i:Nat} (h:Kept S a b) (hS:∀i,S i→Tr a gt i) (hi:i < a.heap.size) (ht:Tr b gt i):Tr a gt i:=by
 by_cases hs:S i
 ·exact hS i hs
 ·have e:=h.block i hi hs
  rcases ht with ht|⟨cs,fr,ht⟩|⟨cs,fr,ht⟩
  ·exact .inl ht
  ·exact .inr (.inl ⟨cs,fr,e.symm.trans ht⟩)
  ·exact .inr (.inr ⟨cs,fr,e.symm.trans ht⟩)
theorem Tr.trans {a b c:World} {gt:Nat} (h:Kept (Tr a gt) a b) (k:Kept (Tr b gt) b c):Kept (Tr a gt) a c:=h.trans k fun _ hi ht=>Tr.back h (fun _ x=>x) hi ht
theorem Tr.new {a b c:World} {gt:Nat} (h:New a b) (k:Kept (Tr b gt) b c):Kept (Tr a gt) a c:=Tr.trans (h.mono fun _ _ f=>f.elim) k
theorem TOwn.set2 {u w':World} {B g k c:Nat} {es:List NE} {x y:NE} {j:Nat} {v:Value} (h:OwnV u 53 5 B (some ⟨g,0,none⟩) es.length c (nes es)) (hx:es[k]?=some x) (hj:j < 5) (hy:y.cells=x.cells.set j v)
  (hw:w'=u.setCell ⟨g,k*5+j,none⟩ v) (he:∀i e,i≠k→es[i]?=some e→NOwn u B e) (hn:NOwn u B y):TOwn w' B (some ⟨g,0,none⟩) c (es.set k y):=by
 have hk:k < es.length:=(List.getElem?_eq_some_iff.1 hx).1;obtain⟨h1,h2,h3,h4⟩:=h
 have hKS:Kept (·=g) u w':=by rw[hw];exact Kept.set1 _ _ _ _
 rcases h4 with ⟨h4,_⟩|⟨g',sp,e,hB,hblk,hs⟩
 ·cases h4
 ·injection e with e
  injection e with e _
  subst e;have hput:=hblk.put (k*5+j) v;rw[←hw] at hput
  have hlt:k*5+j < (nes es).length:=by rw[h1];omega
  rw[List.set_append_left _ _ hlt,flt_put zcy hx hj hy] at hput;refine⟨⟨by rw[flt_len zcy],by rw[List.length_set];exact h2,h3,.inr ⟨g,sp,rfl,hB,hput,by rw[flt_len zcy,List.length_set,←hs,h1]⟩⟩,fun e he2=>?_⟩;obtain⟨i,hi⟩:=List.mem_iff_getElem?.1 he2
  by_cases ei:i=k
  ·subst ei;rw[List.getElem?_set_self hk] at hi
   injection hi with hi
   subst hi;exact hn.box hKS hblk.at_
  ·rw[List.getElem?_set_ne (fun h=>ei h.symm)] at hi;exact (he i e ei hi).box hKS hblk.at_
theorem PT.names {w0 w u w':World} {gt p ga c k g2 k2 c2:Nat} {es:List NE} {x:NE} {ns':List (ByteArray×Nat)} (hB:Blk w gt 25 [.int .i64 p,.slice (some ⟨ga,0,none⟩) es.length c]) (hO:TOwn w w0.heap.size (some ⟨ga,0,none⟩) c es) (hD:Dis es)
  (hN:New w0 w) (hgt:w0.heap.size≤gt) (hx:es[k]?=some x) (ho:OrdN (nds es)) (hK:Kept (zak x.A) w u) (h2:OwnV u 65 2 w0.heap.size (some ⟨g2,0,none⟩) k2 c2 (nms ns')) (hk2:ns'.length=k2)
  (hg2:x.A=some ⟨g2,0,none⟩∨w.heap.size≤g2) (hw:w'=u.setCell ⟨ga,k*5+3,none⟩ (.slice (some ⟨g2,0,none⟩) k2 c2)):
  PT w0 w' gt p (updI (nds es) x.n.i fun n=>{ n with ns:=ns' })∧Kept (Tr w gt) w w':=by
 have hxm:=List.mem_of_getElem? hx;have hxO:=hO.2 x hxm
 have hzat:∀b,zak x.A b→At w b 65∧w0.heap.size≤b:=fun b ⟨a,ha,e⟩=>by rw[←e];exact hxO.1.at_ a ha
 have hgaat:=(hO.1.at_ _ rfl)
 have n1:¬zak x.A ga:=fun h=>hgaat.1.ne_of (hzat _ h).1 (by decide) rfl
 have n2:¬zak x.A gt:=fun h=>hB.at_.ne_of (hzat _ h).1 (by decide) rfl
 have n3:¬gt=ga:=hB.at_.ne_of hgaat.1 (by decide)
 have hKS:Kept (·=ga) u w':=by rw[hw];exact Kept.set1 _ _ _ _
 have hTr:Kept (Tr w gt) w w':=(hK.mono fun b _ hb=>.inr (.inr (hzat b hb).1)).trans hKS fun b _ e=>by subst e;exact .inr (.inl hgaat.1)
 refine⟨⟨ga,c,es.set k { x with n:={ x.n with ns:=ns' },A:=some ⟨g2,0,none⟩,c:=c2 },?_,?_,?_,?_,?_,hgt⟩,hTr⟩
 ·rw[List.length_set];exact (hB.kept hK n2).kept hKS n3
 ·refine TOwn.set2 (hO.1.kept hK fun a ha=>by injection ha with ha;subst ha;exact n1) hx (j:=3) (by omega) (ne_names x ns' _ _ _ hk2) hw (fun i e hi he=>?_) ⟨?_,?_⟩
  ·have hem:=List.mem_of_getElem? he;exact⟨(hO.2 e hem).1.kept hK fun a ha ⟨b,hb,e2⟩=>hD i k e x a b hi he hx ha hb e2.symm,(hO.2 e hem).2.kept hK fun a ha e2=>((hO.2 e hem).2.at_ a ha).1.ne_of (hzat _ e2).1 (by decide) rfl⟩
  ·show OwnV u _ 2 _ _ ns'.length c2 _
   rw[hk2];exact h2
  ·exact hxO.2.kept hK fun a ha e2=>(hxO.2.at_ a ha).1.ne_of (hzat _ e2).1 (by decide) rfl
 ·rw[nds_set,upd_set ho (zbc hx)]
 ·refine hD.set fun i y a b hi hy ha hb e2=>?_
  injection hb with hb
  subst hb;have hya:=((hO.2 y (List.mem_of_getElem? hy)).1.at_ a ha).1.lt
  rcases hg2 with h|h
  ·exact hD i k y x a ⟨g2,0,none⟩ hi hy hx ha h e2
  ·rw[e2] at hya;exact absurd hya (Nat.not_lt.2 h)
 ·exact (hN.trans hK fun i hi e2=>absurd hi (Nat.not_lt.2 (hzat _ e2).2)).trans hKS fun i hi e2=>by have:=hgaat.2;subst e2;exact absurd hi (Nat.not_lt.2 this)
theorem del_plc {ns:List (ByteArray×Nat)} {nm:ByteArray} (ho:OrdS ns) (h:zbn nm ns):zaq nm ns=ns.take (plcN nm ns)++ns.drop (plcN nm ns+1):=by
 obtain⟨_,h2⟩:=ent_fnd ho nm h;have hlt:=(List.getElem?_eq_some_iff.1 h2).1
 have e:ns=ns.take (plcN nm ns)++(nm,entF ns nm)::ns.drop (plcN nm ns+1):=by
  conv=>lhs;rw[←List.take_append_drop (plcN nm ns) ns,List.drop_eq_getElem_cons hlt]
  rw[(List.getElem?_eq_some_iff.1 h2).2]
 unfold zaq
 conv=>lhs;rw[e]
 rw[List.filter_append,List.filter_cons_of_neg (by simp),List.filter_eq_self.2,List.filter_eq_self.2]
 ·intro y hy;obtain⟨t,ht⟩:=List.mem_iff_getElem?.1 hy;rw[List.getElem?_drop] at ht
  exact decide_eq_true fun e2=>by
   have:=ordS_at ho (show plcN nm ns < plcN nm ns+1+t by omega) h2 ht
   rw[e2] at this;exact cmpS_irr _ this
 ·intro y hy;obtain⟨t,ht⟩:=List.mem_iff_getElem?.1 hy;have hlt2:=(List.getElem?_eq_some_iff.1 ht).1;rw[List.length_take] at hlt2
  have hlt3:t < plcN nm ns:=by omega
  rw[List.getElem?_take_of_lt hlt3] at ht
  exact decide_eq_true fun e2=>by
   have:=(plc_lt ho ht).2 hlt3
   rw[e2] at this;exact cmpS_irr _ this
theorem upd_same {L:List ND} {q:Nat} {f g:ND→ND} (h:∀n∈L,n.i=q→f n=g n):updI L q f=updI L q g:=by
 unfold updI
 refine List.map_congr_left fun n hn=>?_
 by_cases e:n.i=q
 ·rw[if_pos e,if_pos e];exact h n hn e
 ·rw[if_neg e,if_neg e]
theorem nms_take (ns:List (ByteArray×Nat)) (k:Nat):(nms ns).take (k*2)=nms (ns.take k):=(flt_take nmc_len ns k).symm
theorem nms_drop (ns:List (ByteArray×Nat)) (k:Nat):(nms ns).drop (k*2)=nms (ns.drop k):=(flt_drop nmc_len ns k).symm
theorem strike_any (w0:World) (gt p:Nat) (L:List ND) (q j d:Nat) (nm:ByteArray) (qn:ND)  (w:World) (h:PT w0 w gt p L) (ho:OrdN L) (hlen:L.length≤1000) (hq:ndI L q=some qn) (hos:OrdS qn.ns) (hl:qn.ns.length≤1000) (hnm:zbn nm qn.ns):
  Calls Tryz.prog 92 #[.pointer (some ⟨gt,0,none⟩),.agg #[.int .i64 q,.string nm,.int .i64 j,.int .i64 d]] w (fun e w'=>e=.returned (.tuple #[])∧PT w0 w' gt p (delE L q nm)∧Kept (Tr w gt) w w'):=by
 obtain⟨ga,c,es,hB,hO,hL,hD,hN,hgt⟩:=h;subst hL;obtain⟨x,hx,hxn,hxm⟩:=zbg hq;subst hxn;have hqi:x.n.i=q:=(zaa hq).2
 have hlen:es.length≤1000:=by rwa [zab] at hlen
 obtain⟨w1,hw1⟩:∃w1,w1=w.alloc (.cells #[.int .i64 q,.string nm,.int .i64 j,.int .i64 d] 87):=⟨_,rfl⟩
 have n1:Hid (New w w1):=by rw[hw1];exact kR.alloc _
 have BX:Hid (∀u,New w1 u→Blk u w.heap.size 87 [.int .i64 q,.string nm,.int .i64 j,.int .i64 d]):=fun u hu=>by rw[hw1] at hu;exact (Blk.made w _ _).kept hu id
 have HW:=jH hw1
 have HPT:Hid (∀u,New w u→Blk u gt 25 [.int .i64 p,.slice (some ⟨ga,0,none⟩) es.length c]∧TOwn u w0.heap.size (some ⟨ga,0,none⟩) c es∧New w0 u):=fun u hu=>⟨hB.kept hu id,hO.new hu,hN.new hu⟩
 have HST:Hid (Dis es∧w0.heap.size≤gt∧es[posI (nds es) q]?=some x∧OrdN (nds es)):=⟨hD,hgt,hx,ho⟩
 have CN:Hid (∀u,New w u→Calls Tryz.prog 72 #[.pointer (some ⟨gt,0,none⟩),.int .i64 q] u (fun e w'=>e=.returned (.pointer (some ⟨ga,posI (nds es) q*5,none⟩))∧New u w')):=fun u hu=>by
  have:=zbq gt (.int .i64 p) ga 0 es.length c es q x.n u (hB.kept hu id) ((hO.new hu).in_) (zab es) ho (by omega) hq
  rwa [Nat.zero_add] at this
 have ZC:Hid (∀u,New w u→u.cell? ⟨ga,posI (nds es) q*5+3,none⟩=some (.slice x.A x.n.ns.length x.c)∧u.frozen? ⟨ga,posI (nds es) q*5+3,none⟩=false):=fun u hu=>by
  have hT:=hO.new hu;obtain⟨_,q0,q1,q2,q3,q4⟩:=hT.in_.get hx;rw[Nat.zero_add] at q3;obtain⟨_,_,_,h4⟩:=hT.1
  rcases h4 with ⟨h4,_⟩|⟨g',sp,e,hB,hblk,hs⟩
  ·cases h4
  ·injection e with e
   injection e with e _
   subst e;exact⟨q3,hblk.free _⟩
 have CE:Hid (∀u,New w u→Calls Tryz.prog 100 #[.pointer (some ⟨ga,posI (nds es) q*5,none⟩),.string nm] u (fun e w'=>e=.returned (.tuple #[.int .i64 (plcN nm x.n.ns:Nat),.bool (fndN nm x.n.ns)])∧New u w')):=fun u hu=>
  mentry_any ga (posI (nds es) q*5) x.A x.n.ns.length x.c x.n.ns nm u (ZC.out u hu).1 (((hO.new hu).2 x hxm).ok).1 rfl hos (by omega)
 obtain⟨hf,hfe⟩:=ent_fnd hos nm hnm;have hpl:=(List.getElem?_eq_some_iff.1 hfe).1;rw[hf] at CE
 obtain⟨gz,hz⟩:∃gz,x.A=some ⟨gz,0,none⟩:=by
  rcases (hO.2 x hxm).1.2.2.2 with ⟨_,h0⟩|⟨g,sp,h0,_⟩
  ·have:=(hO.2 x hxm).1.2.1;omega
  ·exact⟨g,h0⟩
 have CD:Hid (∀u,New w u→Calls Tryz.prog 105 #[.slice (some ⟨gz,0,none⟩) x.n.ns.length x.c,.int .i64 (plcN nm x.n.ns:Nat),.int .i64 (((plcN nm x.n.ns:Nat):Int)+1)] u (fun e w'=>e=.returned (.slice (some ⟨gz,0,none⟩) (x.n.ns.length - 1) x.c)∧OwnV w' 65 2 w0.heap.size (some ⟨gz,0,none⟩) (x.n.ns.length - 1) x.c (nms (zaq nm x.n.ns))∧Kept (·=gz) u w')):=fun u hu=>by
  have hov:=((hO.new hu).2 x hxm).1;rw[hz] at hov
  have:=delNm_any gz x.n.ns.length x.c (plcN nm x.n.ns) w0.heap.size (nms x.n.ns) u hov (nms_one _) hpl (by omega)
  rwa [nms_take,nms_drop,←nms_app,←del_plc hos hnm] at this
 have HDL:Hid ((zaq nm x.n.ns).length=x.n.ns.length - 1):=by
  rw[Hid,del_plc hos hnm,List.length_append,List.length_take,List.length_drop];omega
 have HNE:Hid (¬ga=gz):=(hO.1.at_ _ rfl).1.ne_of ((hO.2 x hxm).1.at_ _ hz).1 (by decide)
 have HE:Hid (updI (nds es) x.n.i (fun n=>{ n with ns:=zaq nm x.n.ns })=delE (nds es) q nm):=by
  rw[Hid,hqi]
  refine upd_same fun n hn e=>?_
  have:=zbf ho hn
  rw[e,hq] at this
  injection this with this
  rw[this]
 have HZ:=jH hz
 have wpl:IntKind.i64.wrap (((plcN nm x.n.ns:Nat):Int)+1)=((plcN nm x.n.ns:Nat):Int)+1:=by rw[IntKind.wrap_i64];omega
 rw[hz] at ZC;clear hw1 hB hO hD hN hgt hx hxm hq hos hl hlen ho hnm hf hfe hqi hz hpl;generalize posI (nds es) q=pj at *;generalize plcN nm x.n.ns=pn at *;generalize x.n.ns.length=ln at *;go_enter Tryz.func92,Tryz.ntmps92
 go_upto_region 1 with fail
 rw[←HW.out];clear HW;have b0:=(BX.out w1 kR).q0;generalize w.heap.size=gk at *
 go_upto_region 2 with (refine (CN.out _ n1.out).mono ?_;rintro e w2 ⟨rfl,hK⟩;have N2:=jH (n1.out.new hK);have b1:=(BX.out w2 hK).q1;clear hK)
 clear b0
 go_upto_region 3 with (refine (CE.out _ N2.out).mono ?_;rintro e w3 ⟨rfl,hK⟩;have N3:=jH (N2.out.new hK);clear hK)
 obtain⟨z3,f3⟩:=ZC.out w3 N3.out;clear b1 CE CN
 go_wp2_with (refine (CD.out _ N3.out).mono ?_;rintro e w4 ⟨rfl,hO4,hK4⟩;have PN:=jH (fun w' hw'=>PT.names (HPT.out w3 N3.out).1 (HPT.out w3 N3.out).2.1 HST.out.1 (HPT.out w3 N3.out).2.2 HST.out.2.1 HST.out.2.2.1 HST.out.2.2.2 (hK4.mono fun _ _ e=>⟨_,HZ.out,e.symm⟩) hO4 HDL.out (.inl HZ.out) (w':=w') hw');have z3:=hK4.cell z3 HNE.out;have f3:w4.frozen? ⟨ga,pj*5+3,none⟩=false:=by { obtain⟨_,_,_,h4⟩:=(HPT.out w3 N3.out).2.1.1.kept hK4 (fun a ha=>by injection ha with ha;subst ha;exact HNE.out);rcases h4 with ⟨h4,_⟩|⟨g',sp,e,hB,hblk,hs⟩;cases h4;injection e with e;injection e with e _;subst e;exact hblk.free _ };clear hO4 hK4)
 go_end0
 exact⟨rfl,by rw[←HE.out];exact (PN.out _ rfl).1,Tr.new N3.out (PN.out _ rfl).2⟩
theorem enter_any (w0:World) (gt p:Nat) (L:List ND) (q j d:Nat) (nm:ByteArray) (qn:ND) (ino:Nat) (w:World) (h:PT w0 w gt p L) (ho:OrdN L) (hlen:L.length≤1000) (hq:ndI L q=some qn) (hos:OrdS qn.ns) (hl:qn.ns.length≤1000):
  Calls Tryz.prog 86 #[.pointer (some ⟨gt,0,none⟩),.agg #[.int .i64 q,.string nm,.int .i64 j,.int .i64 d],.int .i64 ino] w (fun e w'=>e=.returned (.tuple #[])∧PT w0 w' gt p (addE L q nm ino)∧Kept (Tr w gt) w w'):=by
 obtain⟨ga,c,es,hB,hO,hL,hD,hN,hgt⟩:=h;subst hL;obtain⟨x,hx,hxn,hxm⟩:=zbg hq;subst hxn;have hqi:x.n.i=q:=(zaa hq).2
 have hlen:es.length≤1000:=by rwa [zab] at hlen
 obtain⟨w1,hw1⟩:∃w1,w1=w.alloc (.cells #[.int .i64 q,.string nm,.int .i64 j,.int .i64 d] 87):=⟨_,rfl⟩
 have n1:Hid (New w w1):=by rw[hw1];exact kR.alloc _
 have BX:Hid (∀u,New w1 u→Blk u w.heap.size 87 [.int .i64 q,.string nm,.int .i64 j,.int .i64 d]):=fun u hu=>by rw[hw1] at hu;exact (Blk.made w _ _).kept hu id
 have HW:=jH hw1
 have HPT:Hid (∀u,New w u→Blk u gt 25 [.int .i64 p,.slice (some ⟨ga,0,none⟩) es.length c]∧TOwn u w0.heap.size (some ⟨ga,0,none⟩) c es∧New w0 u):=fun u hu=>⟨hB.kept hu id,hO.new hu,hN.new hu⟩
 have HST:Hid (Dis es∧w0.heap.size≤gt∧es[posI (nds es) q]?=some x∧OrdN (nds es)):=⟨hD,hgt,hx,ho⟩
 have CN:Hid (∀u,New w u→Calls Tryz.prog 72 #[.pointer (some ⟨gt,0,none⟩),.int .i64 q] u (fun e w'=>e=.returned (.pointer (some ⟨ga,posI (nds es) q*5,none⟩))∧New u w')):=fun u hu=>by
  have:=zbq gt (.int .i64 p) ga 0 es.length c es q x.n u (hB.kept hu id) ((hO.new hu).in_) (zab es) ho (by omega) hq
  rwa [Nat.zero_add] at this
 have ZC:Hid (∀u,New w u→u.cell? ⟨ga,posI (nds es) q*5+3,none⟩=some (.slice x.A x.n.ns.length x.c)∧u.frozen? ⟨ga,posI (nds es) q*5+3,none⟩=false):=fun u hu=>by
  have hT:=hO.new hu;obtain⟨_,q0,q1,q2,q3,q4⟩:=hT.in_.get hx;rw[Nat.zero_add] at q3;obtain⟨_,_,_,h4⟩:=hT.1
  rcases h4 with ⟨h4,_⟩|⟨g',sp,e,hB,hblk,hs⟩
  ·cases h4
  ·injection e with e
   injection e with e _
   subst e;exact⟨q3,hblk.free _⟩
 have CE:Hid (∀u,New w u→Calls Tryz.prog 100 #[.pointer (some ⟨ga,posI (nds es) q*5,none⟩),.string nm] u (fun e w'=>e=.returned (.tuple #[.int .i64 (plcN nm x.n.ns:Nat),.bool (fndN nm x.n.ns)])∧New u w')):=fun u hu=>
  mentry_any ga (posI (nds es) q*5) x.A x.n.ns.length x.c x.n.ns nm u (ZC.out u hu).1 (((hO.new hu).2 x hxm).ok).1 rfl hos (by omega)
 have CI:Hid (∀u vb,New w u→Blk u vb 65 [.string nm,.int .i64 ino]→¬zak x.A vb→Calls Tryz.prog 102 #[.slice x.A x.n.ns.length x.c,.int .i64 (plcN nm x.n.ns:Nat),.slice (some ⟨vb,0,none⟩) 1 1] u (InsA u 65 2 w0.heap.size x.A x.n.ns.length (nms (zcm nm ino x.n.ns)))):=fun u vb hu hb hne=>by
  have hov:=((hO.new hu).2 x hxm).1
  have:=insNm_any x.A x.n.ns.length x.c (plcN nm x.n.ns) w0.heap.size vb (nms x.n.ns) [.string nm,.int .i64 ino] u hov (nms_one _) hb rfl (nmc_one _ _) (fun a ha e=>hne ⟨a,ha,e.symm⟩) (Nat.le_trans hN.size hu.size) (by omega) (plc_le _ _)
  rw[nms_take,nms_drop] at this;rw[add_plc]
  show Calls _ _ _ _ (InsA _ _ _ _ _ _ (flt nmc _))
  rw[zcp,show (nm,ino)::x.n.ns.drop (plcN nm x.n.ns)=[(nm,ino)]++x.n.ns.drop (plcN nm x.n.ns) from rfl,zcp,←List.append_assoc];exact this
 have HDL:Hid ((zcm nm ino x.n.ns).length=x.n.ns.length+1):=by
  have:=plc_le nm x.n.ns
  rw[Hid,add_plc,List.length_append,List.length_cons,List.length_take,List.length_drop];omega
 have HNE:Hid (¬zak x.A ga):=fun ⟨a,ha,e⟩=>(hO.1.at_ _ rfl).1.ne_of ((hO.2 x hxm).1.at_ a ha).1 (by decide) e.symm
 have HGZ:Hid (∀u,New w u→¬zak x.A u.heap.size):=fun u hu ⟨a,ha,e⟩=>by
  have:=((hO.2 x hxm).1.at_ a ha).1.lt
  have:=hu.size
  omega
 have HE:Hid (updI (nds es) x.n.i (fun n=>{ n with ns:=zcm nm ino x.n.ns })=addE (nds es) q nm ino):=by
  rw[Hid,hqi]
  refine upd_same fun n hn e=>?_
  have:=zbf ho hn
  rw[e,hq] at this
  injection this with this
  rw[this]
 have FZ:Hid (∀u w4,New w u→Kept (zak x.A) u w4→w4.frozen? ⟨ga,posI (nds es) q*5+3,none⟩=false):=fun u w4 hu hk=>by
  obtain⟨_,_,_,h4⟩:=(hO.new hu).1.kept hk (fun a ha=>by injection ha with ha;subst ha;exact HNE.out)
  rcases h4 with ⟨h4,_⟩|⟨g',sp,e,hB,hblk,hs⟩
  ·cases h4
  ·injection e with e
   injection e with e _
   subst e;exact hblk.free _
 clear hw1 hB hO hD hN hgt hx hxm hq hos hl hlen ho hqi;generalize posI (nds es) q=pj at *;generalize plcN nm x.n.ns=pn at *;generalize fndN nm x.n.ns=fb at *;generalize x.n.ns.length=ln at *;go_enter Tryz.func86,Tryz.ntmps86
 go_upto_region 1 with fail
 rw[←HW.out];clear HW;have b0:=(BX.out w1 kR).q0;generalize w.heap.size=gk at *
 go_upto_region 2 with (refine (CN.out _ n1.out).mono ?_;rintro e w2 ⟨rfl,hK⟩;have N2:=jH (n1.out.new hK);have M2:=jH hK;have b1:=(BX.out w2 hK).q1;clear hK)
 clear b0
 go_upto_region 3 with (refine (CE.out _ N2.out).mono ?_;rintro e w3 ⟨rfl,hK⟩;have N3:=jH (N2.out.new hK);have b1:=(BX.out w3 (M2.out.new hK)).q1;clear hK)
 obtain⟨z3,f3⟩:=ZC.out w3 N3.out;clear CE CN;have NV:=jH (HGZ.out w3 N3.out);have hga:ga < w3.heap.size:=World.block_lt_of_cell? w3 _ z3;have hgk:gk < w3.heap.size:=World.block_lt_of_cell? w3 _ b1;have NU:Hid (New w (w3.drew.alloc (.cells #[.string nm,.int .i64 ino] 65))):=N3.out.drew.alloc _;have BU:Hid (Blk (w3.drew.alloc (.cells #[.string nm,.int .i64 ino] 65)) w3.heap.size 65 [.string nm,.int .i64 ino]):=Blk.made w3.drew _ _
 go_region_law (first
  | (go_simp;go_at_call 102;refine (CI.out _ _ NU.out BU.out NV.out).mono ?_;rintro e w4 ⟨g2,c2,rfl,hO4,hK4,hg2⟩;have PN:=jH (fun w' hw'=>PT.names (HPT.out _ NU.out).1 (HPT.out _ NU.out).2.1 HST.out.1 (HPT.out _ NU.out).2.2 HST.out.2.1 HST.out.2.2.1 HST.out.2.2.2 hK4 hO4 HDL.out hg2 (w':=w') hw');have z3:=hK4.cell (p:=⟨ga,pj*5+3,none⟩) (ZC.out _ NU.out).1 HNE.out;have f3:=FZ.out _ w4 NU.out hK4;clear hO4 hK4 hg2))
 all_goals
  go_wp2_with fail
  go_end0
  exact⟨rfl,by rw[←HE.out];exact (PN.out _ rfl).1,Tr.new NU.out (PN.out _ rfl).2⟩
end
end Go.Proofs.YtjjamoemheljdaaGreat
