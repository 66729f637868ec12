/-
  Layer 7: contracts (Yc Yf).
-/
import Derived.Test.YtjjamoemheljdaaGreatC15
import Derived.Test.YtjjamoemheljdaaGreatC13
namespace Go.Proofs.YtjjamoemheljdaaGreat
set_option maxRecDepth 100000
set_option maxHeartbeats 8000000
set_option linter.unusedSimpArgs false
set_option linter.unusedVariables false
section
open Go.RowKit
def DisK (es:List NE) (k:Nat):Prop:=∀(i j:Nat) (x y:NE) (a b:Addr),i < j→j < k→es[i]?=some x→es[j]?=some y→x.A=some a→y.A=some b→a.block≠b.block
def Dis (es:List NE):Prop:=∀(i j:Nat) (x y:NE) (a b:Addr),i≠j→es[i]?=some x→es[j]?=some y→x.A=some a→y.A=some b→a.block≠b.block
theorem DisK.dis {es:List NE} (h:DisK es es.length):Dis es:=fun i j x y a b hne hx hy ha hb=>by
 rcases Nat.lt_or_ge i j with hij|hij
 ·exact h i j x y a b hij (List.getElem?_eq_some_iff.1 hy).1 hx hy ha hb
 ·exact fun e=>h j i y x b a (by omega) (List.getElem?_eq_some_iff.1 hx).1 hy hx hb ha e.symm
theorem DisK.step {es:List NE} {k:Nat} {z:NE} (h:DisK es k) (hz:∀(i:Nat) (x:NE) (a b:Addr),i < k→es[i]?=some x→x.A=some a→z.A=some b→a.block≠b.block):DisK (es.set k z) (k+1):=fun i j x y a b hij hj hx hy ha hb=>by
 rw[List.getElem?_set_ne (by omega)] at hx
 by_cases e:j=k
 ·subst e
  by_cases hlt:j < es.length
  ·rw[List.getElem?_set_self hlt] at hy
   injection hy with hy
   subst hy;exact hz i x a b hij hx ha hb
  ·rw[List.getElem?_eq_none (by rw[List.length_set];omega)] at hy;cases hy
 ·rw[List.getElem?_set_ne (fun h=>e h.symm)] at hy;exact h i j x y a b hij (by omega) hx hy ha hb
theorem Dis.set {es:List NE} {k:Nat} {z:NE} (h:Dis es) (hz:∀(i:Nat) (x:NE) (a b:Addr),i≠k→es[i]?=some x→x.A=some a→z.A=some b→a.block≠b.block):Dis (es.set k z):=fun i j x y a b hne hx hy ha hb=>by
 by_cases ei:i=k
 ·subst ei;rw[List.getElem?_set_ne hne] at hy
  by_cases hlt:i < es.length
  ·rw[List.getElem?_set_self hlt] at hx
   injection hx with hx
   subst hx
   exact fun e=>hz j y b a (fun h=>hne h.symm) hy hb ha e.symm
  ·rw[List.getElem?_eq_none (by rw[List.length_set];omega)] at hx;cases hx
 ·rw[List.getElem?_set_ne (fun h=>ei h.symm)] at hx
  by_cases ej:j=k
  ·subst ej
   by_cases hlt:j < es.length
   ·rw[List.getElem?_set_self hlt] at hy
    injection hy with hy
    subst hy;exact hz i x a b ei hx ha hb
   ·rw[List.getElem?_eq_none (by rw[List.length_set];omega)] at hy;cases hy
  ·rw[List.getElem?_set_ne (fun h=>ej h.symm)] at hy;exact h i j x y a b hne hx hy ha hb
def CloneP (w:World) (T:TT) (e:Ending) (w':World):Prop:=
 ∃g es,e=.returned (.agg #[.int .i64 T.p,.slice (some ⟨g,0,none⟩) es.length es.length])∧nds es=T.l∧TOwn w' w.heap.size (some ⟨g,0,none⟩) es.length es∧Dis es∧New w w'
def Half (w:World) (B k:Nat) (es es1:List NE):Prop:=(∀j x,j < k→es1[j]?=some x→NOwn w B x)∧∀j,k≤j→es1[j]?=es[j]?
theorem Half.new {w w':World} {B k:Nat} {es es1:List NE} (h:Half w B k es es1) (hk:New w w'):Half w' B k es es1:=⟨fun j x h1 h2=>(h.1 j x h1 h2).new hk,h.2⟩
theorem NOwn.box {w w':World} {B g:Nat} {e:NE} (h:NOwn w B e) (hk:Kept (·=g) w w') (hg:At w g 53):NOwn w' B e:=
 ⟨h.1.kept hk fun a ha e2=>(h.1.at_ a ha).1.ne_of hg (by decide) e2,h.2.kept hk fun a ha e2=>(h.2.at_ a ha).1.ne_of hg (by decide) e2⟩
theorem Half.box {w w':World} {B k g:Nat} {es es1:List NE} (h:Half w B k es es1) (hk:Kept (·=g) w w') (hg:At w g 53):Half w' B k es es1:=⟨fun j x h1 h2=>(h.1 j x h1 h2).box hk hg,h.2⟩
theorem half_step {w:World} {B k:Nat} {es es1:List NE} {y:NE} (h:Half w B k es es1) (hk:k < es1.length) (hy:NOwn w B y):Half w B (k+1) es (es1.set k y):=by
 refine⟨fun j x h1 h2=>?_,fun j hj=>?_⟩
 ·by_cases e:j=k
  ·subst e;rw[List.getElem?_set_self (by omega)] at h2
   injection h2 with h2
   subst h2;exact hy
  ·rw[List.getElem?_set_ne (fun h=>e h.symm)] at h2;exact h.1 j x (by omega) h2
 ·rw[List.getElem?_set_ne (by omega)];exact h.2 j (by omega)
theorem Blk.put5 {w:World} {g k j:Nat} {es:List NE} {x y:NE} {u:Value} (h:Blk w g 53 (nes es)) (hx:es[k]?=some x) (hj:j < 5) (hy:y.cells=x.cells.set j u):
  Blk (w.setCell ⟨g,k*5+j,none⟩ u) g 53 (nes (es.set k y)):=by
 have:=h.put (k*5+j) u
 rwa [flt_put zcy hx hj hy] at this
theorem set_set_nd {es:List NE} {k:Nat} {x y:NE} (hx:es[k]?=some x) (hn:y.n=x.n):nds (es.set k y)=nds es:=by
 rw[nds_set]
 refine List.ext_getElem? fun j=>?_
 by_cases e:k=j
 ·subst e;rw[List.getElem?_set_self (by rw[zab];exact (List.getElem?_eq_some_iff.1 hx).1),zbc hx,hn]
 ·rw[List.getElem?_set_ne e]
theorem nes_one (es:List NE):∀u∈nes es,u.oneCell'=true:=by
 induction es with
 | nil=>intro u hu;cases hu
 | cons e r ih=>
  intro u hu
  rcases List.mem_append.1 (show u∈e.cells++nes r from hu) with h|h
  ·exact zbz _ _ _ _ _ _ _ _ _ u h
  ·exact ih u h
theorem byt_one (l:List Nat):∀u∈l.map byt,u.oneCell'=true:=by
 intro u hu;obtain⟨x,_,rfl⟩:=List.mem_map.1 hu
 rfl
theorem mclone_any (p:Nat) (A:Option Addr) (n c:Nat) (es:List NE) (w:World) (h:TIn w A es) (hn:es.length=n) (hR:Rt ⟨p,nds es⟩):
  Calls Tryz.prog 31 #[.agg #[.int .i64 p,.slice A n c]] w (CloneP w ⟨p,nds es⟩):=by
 have hm:n≤48:=by have:=hR.len;rwa [zab,hn] at this
 obtain⟨w1,hw1⟩:∃w1,w1=(w.alloc (.cells #[.int .i64 p,.slice A n c] 25)).alloc (.cells #[.int .i64 0,.slice none 0 0] 25):=⟨_,rfl⟩
 have n1:New w w1:=by rw[hw1];exact (kR.alloc _).alloc _
 have BT:Hid (∀u,New w1 u→u.cell? ⟨w.heap.size,0,none⟩=some (.int .i64 p)∧u.cell? ⟨w.heap.size,1,none⟩=some (.slice A n c)):=fun u hu=>by
  have:Blk w1 w.heap.size 25 [.int .i64 p,.slice A n c]:=by rw[hw1];exact (Blk.made w _ _).alloc _
  have:=this.kept hu id
  exact⟨this.cell 0,this.cell 1⟩
 have BR:Hid (Blk w1 (w.heap.size+1) 25 [.int .i64 0,.slice none 0 0]):=by
  have:=Blk.made (w.alloc (.cells #[.int .i64 p,.slice A n c] 25)) 25 #[.int .i64 0,.slice none 0 0]
  rw[World.size_alloc] at this;rw[hw1];exact this
 have H:=jH (h.new n1);have N1:=jH n1;have HW:=jH hw1;have LN:=jH hn
 have LE:Hid (∀x∈es,x.n.ns.length≤288∧x.n.b.length≤2040):=fun x hx=>⟨hR.ns_le (zay hx),hR.b_le (zay hx)⟩
 have WS:=jH (fun (u:World) (A:Option Addr) (c:Nat) (es:List NE) (h:TOwn u w1.heap.size A c es)=>h.mono n1.size);have CO:=jH (ownNe_any A n c (nes es) w1 (by rw[←hn];exact (h.new n1).1) (nes_one es) (by omega));clear h n1 hw1 hn hR;go_enter Tryz.func31,Tryz.ntmps31
 go_upto_region 1 with fail
 rw[←HW.out];clear HW;obtain⟨gk,hgk⟩:∃gk,gk=w.heap.size:=⟨_,rfl⟩;rw[←hgk] at BT BR ⊢;have GK:=jH hgk;clear hgk;obtain⟨b0,b1⟩:=BT.out w1 kR;go_wp2_with fail;refine CO.out.mono ?_;rintro e w2 ⟨rfl,hB,hK⟩;clear b0 b1;have NB:=jH hB;have N2:=jH hK;have GN:Hid (w1.heap.size < w2.heap.size∧¬w1.heap.size=gk+1):=⟨hB.lt,by have:=BR.out.lt;omega⟩;clear hB hK CO;obtain⟨gn,hgn⟩:∃gn,gn=w1.heap.size:=⟨_,rfl⟩;rw[←hgn] at NB GN ⊢;have HGN:=jH hgn;clear hgn;go_wp2_with fail
 go_loopw [10] (fun i wr=>∃(k:Nat) (es1:List NE),k≤n∧i=.int .i64 k∧Hid (es1.length=n)∧Hid (Blk wr gn 53 (nes es1))∧Hid (Half wr gn k es es1)∧Hid (nds es1=nds es)∧Hid (DisK es1 k)∧Hid (New w1 wr)) (fun i _=>n - (intOf i).toNat)
 case atStart=>exact⟨0,es,Nat.zero_le _,rfl,LN.out,NB.out,⟨fun j x hj=>absurd hj (Nat.not_lt_zero _),fun _ _=>rfl⟩,rfl,fun i j x y a b h1 h2=>absurd h2 (Nat.not_lt_zero _),N2.out⟩
 case round=>
  obtain⟨k,es1,hk,rfl,VL,VB,VH,VF,VD,VN⟩:=hrel
  by_cases hlt:k < n
  ·obtain⟨x,hx⟩:∃x,es1[k]?=some x:=⟨_,List.getElem?_eq_getElem (by rw[VL.out];exact hlt)⟩
   have hx0:es[k]?=some x:=by rw[←VH.out.2 k (Nat.le_refl _)];exact hx
   have hxm:=List.mem_of_getElem? hx0
   have XO:Hid (∀u,New w1 u→NOk u x):=fun u hu=>(H.out.new hu).2 x hxm
   have XL:=jH (LE.out x hxm)
   have cellB:=fun (u:World) (e1:List NE) (z:NE) (j:Nat) (v:Value) (hb:Blk u gn 53 (nes e1)) (hz:e1[k]?=some z) (hj:j < 5) (hv:z.cells[j]?=some v)=>(hb.cell (k*5+j)).trans (flt_at zcy hz hj hv)
   have CB:=jH cellB;clear cellB;have x3:wr.cell? ⟨gn,k*5+3,none⟩=some (.slice x.A x.n.ns.length x.c):=CB.out wr es1 x 3 _ VB.out hx (by omega) rfl
   have CN:Hid (∀u,New w1 u→Calls Tryz.prog 50 #[.slice x.A x.n.ns.length x.c] u (MdP u 65 x.n.ns.length (nms x.n.ns))):=fun u hu=>
    ownNm_any x.A x.n.ns.length x.c (nms x.n.ns) u (XO.out u hu).1 (nms_one _) (by have:=XL.out.1;omega)
   have CY:Hid (∀u,New w1 u→Calls Tryz.prog 51 #[.slice x.B x.n.b.length x.d] u (MdP u 5 x.n.b.length (x.n.b.map byt))):=fun u hu=>
    ownBy_any x.B x.n.b.length x.d (x.n.b.map byt) u (RowV.of_bts (XO.out u hu).2.1) (byt_one _) (by have:=XL.out.2;omega)
   have BB:Hid (∀y∈x.n.b,y < 256):=(XO.out w1 kR).2.1.2.1;have HX:=jH hx;clear hx hx0 hxm
   have hlk:k*5+5≤n*5:=by omega
   go_wp2_with fail;refine (CN.out wr VN.out).mono ?_;rintro e w3 hMP;have O3:=hMP.own (sz:=2) (flt_len nmc_len _) (by have:=XL.out.1;unfold maxLen;omega);obtain⟨rfl,hB3,hK3⟩:=hMP;generalize hg3:wr.heap.size=g3 at *
   have VD3:Hid (∀(i:Nat) (x:NE) (a:Addr),i < k→es1[i]?=some x→x.A=some a→a.block≠g3):=fun i x a hi hx ha e=>by
    have:=((VH.out.1 i x hi hx).1.at_ a ha).1.lt
    rw[e,←hg3] at this;exact Nat.lt_irrefl _ this
   have G3:Hid (gn≤g3):=by have:=VB.out.lt;show _≤_;omega
   have VB3:=jH (VB.out.kept hK3 id);have VH3:=jH (VH.out.new hK3);have N3:=jH (VN.out.new hK3);have O3:=jH (O3.mono G3.out);have f3:=VB3.out.free (k*5+3);have y3:w3.cell? ⟨gn,k*5+3,none⟩=some (.slice x.A x.n.ns.length x.c):=CB.out w3 es1 x 3 _ VB3.out HX.out (by omega) rfl;clear hB3 hK3 x3 hg3;obtain⟨w4,hw4⟩:∃w4,w4=w3.setCell ⟨gn,k*5+3,none⟩ (.slice (some ⟨g3,0,none⟩) x.n.ns.length x.n.ns.length):=⟨_,rfl⟩
   have KS:Kept (·=gn) w3 w4:=by rw[hw4];exact Kept.set1 _ _ _ _
   have VB4:Hid (Blk w4 gn 53 (nes (es1.set k { x with A:=some ⟨g3,0,none⟩,c:=x.n.ns.length }))):=by rw[hw4];exact VB3.out.put5 HX.out (by omega) rfl
   have VH4:=jH (VH3.out.box KS VB3.out.at_)
   have N4:Hid (New w1 w4):=N3.out.trans KS fun i hi e=>by
    have:=HGN.out
    omega
   have O4:=jH (O3.out.kept KS fun a ha e2=>(O3.out.at_ a ha).1.ne_of VB3.out.at_ (by decide) e2);have HW4:=jH hw4;have HX4:Hid ((es1.set k { x with A:=some ⟨g3,0,none⟩,c:=x.n.ns.length })[k]?=some { x with A:=some ⟨g3,0,none⟩,c:=x.n.ns.length }):=List.getElem?_set_self (by rw[VL.out];exact hlt);clear KS hw4 VB3 VH3 N3 O3 VB VH;have x4:w4.cell? ⟨gn,k*5+4,none⟩=some (.slice x.B x.n.b.length x.d):=CB.out w4 _ _ 4 _ VB4.out HX4.out (by omega) rfl
   go_upto_region 6 with fail
   rw[←HW4.out];clear HW4 y3 f3;go_wp2_with fail;refine (CY.out w4 N4.out).mono ?_;rintro e w5 hMP;have O5:=MdP.ownB hMP (XO.out w1 kR).2.1.1 BB.out (by have:=XL.out.2;unfold maxLen;omega);obtain⟨rfl,hB5,hK5⟩:=hMP;generalize hg5:w4.heap.size=g5 at *
   have G5:Hid (gn≤g5):=by have:=VB4.out.lt;show _≤_;omega
   have VB5:=jH (VB4.out.kept hK5 id);have VH5:=jH (VH4.out.new hK5);have N5:=jH (N4.out.new hK5);have O5:=jH (O5.mono G5.out);have O4:=jH (O4.out.new hK5);have f4:=VB5.out.free (k*5+4);have y4:w5.cell? ⟨gn,k*5+4,none⟩=some (.slice x.B x.n.b.length x.d):=CB.out w5 _ _ 4 _ VB5.out HX4.out (by omega) rfl;clear hB5 hK5 x4 hg5;obtain⟨w6,hw6⟩:∃w6,w6=w5.setCell ⟨gn,k*5+4,none⟩ (.slice (some ⟨g5,0,none⟩) x.n.b.length x.n.b.length):=⟨_,rfl⟩
   have KS:Kept (·=gn) w5 w6:=by rw[hw6];exact Kept.set1 _ _ _ _
   have VB6:Hid (Blk w6 gn 53 (nes (es1.set k ⟨x.n,some ⟨g3,0,none⟩,x.n.ns.length,some ⟨g5,0,none⟩,x.n.b.length⟩))):=by
    have:=VB5.out.put5 (y:=⟨x.n,some ⟨g3,0,none⟩,x.n.ns.length,some ⟨g5,0,none⟩,x.n.b.length⟩) (u:=.slice (some ⟨g5,0,none⟩) x.n.b.length x.n.b.length) HX4.out (j:=4) (by omega) rfl
    rw[List.set_set] at this;rw[hw6];exact this
   have N6:Hid (New w1 w6):=N5.out.trans KS fun i hi e=>by
    have:=HGN.out
    omega
   have VH6:Hid (Half w6 gn (k+1) es (es1.set k ⟨x.n,some ⟨g3,0,none⟩,x.n.ns.length,some ⟨g5,0,none⟩,x.n.b.length⟩)):=
    half_step (VH5.out.box KS VB5.out.at_) (by rw[VL.out];exact hlt) ⟨O4.out.kept KS fun a ha e2=>(O4.out.at_ a ha).1.ne_of VB5.out.at_ (by decide) e2,O5.out.kept KS fun a ha e2=>(O5.out.at_ a ha).1.ne_of VB5.out.at_ (by decide) e2⟩
   have VL6:Hid ((es1.set k ⟨x.n,some ⟨g3,0,none⟩,x.n.ns.length,some ⟨g5,0,none⟩,x.n.b.length⟩).length=n):=by rw[Hid,List.length_set];exact VL.out
   have VF6:Hid (nds (es1.set k ⟨x.n,some ⟨g3,0,none⟩,x.n.ns.length,some ⟨g5,0,none⟩,x.n.b.length⟩)=nds es):=(set_set_nd (y:=⟨x.n,some ⟨g3,0,none⟩,x.n.ns.length,some ⟨g5,0,none⟩,x.n.b.length⟩) HX.out rfl).trans VF.out
   have VD6:Hid (DisK (es1.set k ⟨x.n,some ⟨g3,0,none⟩,x.n.ns.length,some ⟨g5,0,none⟩,x.n.b.length⟩) (k+1)):=VD.out.step fun i y a b hi hy ha hb=>by
    injection hb with hb
    subst hb;exact VD3.out i y a hi hy ha
   have HW6:=jH hw6;clear KS hw6 VB5 VH5 N5 O5 O4 VH4 VB4 N4 HX4 CN CY;go_wp2_with fail;rw[←HW6.out];go_roundw
   case rel=>exact⟨k+1,_,by omega,by go_num,VL6,VB6,VH6,VF6,VD6,N6⟩
   case measure=>simp[intOf];omega
  ·obtain rfl:k=n:=by omega
   obtain⟨b0,b1⟩:=BT.out wr VN.out;have BR2:=BR.out.kept VN.out id;obtain⟨f0,f1⟩:=BR2.f2;obtain⟨r0,r1⟩:=BR2.p2;have KS:Kept (·=gk+1) wr ((wr.setCell ⟨gk+1,0,none⟩ (.int .i64 p)).setCell ⟨gk+1,1,none⟩ (.slice (some ⟨gn,0,none⟩) k k)):=(Kept.set1 _ _ _ _).setCell (p:=⟨gk+1,1,none⟩) (fun _=>rfl) _;have B9:Hid (Blk ((wr.setCell ⟨gk+1,0,none⟩ (.int .i64 p)).setCell ⟨gk+1,1,none⟩ (.slice (some ⟨gn,0,none⟩) k k)) (gk+1) 25 [.int .i64 p,.slice (some ⟨gn,0,none⟩) k k]):=(BR2.put 0 _).put 1 _
   have TO:TOwn wr gn (some ⟨gn,0,none⟩) k es1:=by
    refine⟨⟨by rw[flt_len zcy],by rw[VL.out];exact Nat.le_refl _,by unfold maxLen;omega,.inr ⟨gn,[],rfl,Nat.le_refl _,by rw[List.append_nil];exact VB.out,by rw[flt_len zcy,VL.out];rfl⟩⟩,fun e he=>?_⟩;obtain⟨j,hj⟩:=List.mem_iff_getElem?.1 he;exact VH.out.1 j e (by have:=(List.getElem?_eq_some_iff.1 hj).1;rw[VL.out] at this;exact this) hj
   have E1:Hid (TOwn ((wr.setCell ⟨gk+1,0,none⟩ (.int .i64 p)).setCell ⟨gk+1,1,none⟩ (.slice (some ⟨gn,0,none⟩) k k)) gn (some ⟨gn,0,none⟩) k es1):=TOwn.far TO KS BR2.at_ (by decide) (by decide) (by decide);have E2:Hid (New w ((wr.setCell ⟨gk+1,0,none⟩ (.int .i64 p)).setCell ⟨gk+1,1,none⟩ (.slice (some ⟨gn,0,none⟩) k k))):=((N1.out.new VN.out).setCell (p:=⟨gk+1,0,none⟩) (fun hh=>absurd hh (by have:=GK.out;show ¬gk+1 < _;omega)) _).setCell (p:=⟨gk+1,1,none⟩) (fun hh=>absurd hh (by have:=GK.out;show ¬gk+1 < _;omega)) _;clear BR2 TO KS;go_wp2;generalize (wr.setCell ⟨gk+1,0,none⟩ (.int .i64 p)).setCell ⟨gk+1,1,none⟩ (.slice (some ⟨gn,0,none⟩) k k)=w9 at *
   obtain⟨d0,d1⟩:=B9.out.p2;refine bodyPost_ret (by simp[results,Tryz.results31,go_sem,d0,d1];try rfl) rfl ?_;have e1:=E1.out;rw[←VL.out] at e1 ⊢;exact⟨gn,es1,rfl,VF.out,WS.out _ _ _ _ (by rw[←HGN.out];exact e1),DisK.dis (by rw[VL.out];exact VD.out),E2.out⟩
end
section
open Go.RowKit
theorem delNe_any (g n c i B:Nat) (vs:List Value) (w:World) (h:OwnV w 53 5 B (some ⟨g,0,none⟩) n c vs) (h1:∀u∈vs,u.oneCell'=true) (hi:i < n) (hn:n≤1000000):
  Calls Tryz.prog 103 #[.slice (some ⟨g,0,none⟩) n c,.int .i64 i,.int .i64 (((i:Nat):Int)+1)] w (fun e w'=>e=.returned (.slice (some ⟨g,0,none⟩) (n - 1) c)∧OwnV w' 53 5 B (some ⟨g,0,none⟩) (n - 1) c (vs.take (i*5)++vs.drop ((i+1)*5))∧Kept (·=g) w w'):=by
 obtain⟨i0,hi0,hz0,hzs,hzb⟩:=info_parts zch;obtain⟨hl,hnc,hc63,hr⟩:=h
 rcases hr with ⟨h0,_⟩|⟨g',sp,e,hB,hblk,hsp⟩
 ·cases h0
 ·injection e with e
  injection e with e _
  subst e;obtain⟨news,hnews⟩:∃news,news=vs.drop ((i+1)*5):=⟨_,rfl⟩
  have hlen:news.length=(n - (i+1))*5:=by rw[hnews,List.length_drop,hl];omega
  obtain⟨last,hlast⟩:∃last,last=vs.drop ((n - 1)*5):=⟨_,rfl⟩
  have hll:last.length=5:=by rw[hlast,List.length_drop,hl];omega
  have hb0:Blk w.drew g 53 (vs.take (i*5)++(vs.drop (i*5)).take ((n - (i+1))*5)++(last++sp)):=by
   have e:vs=vs.take (i*5)++(vs.drop (i*5)).take ((n - (i+1))*5)++last:=by
    rw[hlast,List.append_assoc,show (n - 1)*5=i*5+(n - (i+1))*5 by omega,←List.drop_drop,List.take_append_drop,List.take_append_drop]
   rw[←List.append_assoc,←e];exact hblk.drew
  have htl:(vs.take (i*5)).length=i*5:=by rw[List.length_take,hl];omega
  obtain⟨A,hA,hsrc⟩:∃A:Addr,(if c=i+1 then (some ⟨g,0,none⟩:Option Addr) else some ⟨g,(i+1)*5,none⟩)=some A∧Hid (∀t u,news[t]?=some u→w.drew.cell? (A.add t)=some u):=by
   by_cases hci:c=i+1
   ·refine⟨⟨g,0,none⟩,by simp[hci],fun t u hu=>?_⟩
    have:news=[]:=List.eq_nil_of_length_eq_zero (by rw[hlen];omega)
    rw[this] at hu;simp at hu
   ·refine⟨⟨g,(i+1)*5,none⟩,by simp[hci],fun t u hu=>?_⟩;rw[Addr.add_lit]
    show w.cell? _=_
    rw[hblk.cell,List.getElem?_append_left (by have:=(List.getElem?_eq_some_iff.1 hu).1;rw[hlen] at this;omega)];rwa [hnews,List.getElem?_drop] at hu
  have s1:Hid (news.length=(n - (i+1))*5):=hlen
  have s2:Hid (∀u∈news,u.oneCell'=true):=fun u hu=>h1 u (by rw[hnews] at hu;exact List.mem_of_mem_drop hu)
  have s3:Hid (∀t,t < news.length→(w.drew.cell? ⟨g,0+i*5+t,none⟩).isSome=true∧w.drew.frozen? ⟨g,0+i*5+t,none⟩=false):=by
   intro t ht;rw[hlen] at ht;refine⟨?_,hblk.drew.free _⟩
   show (w.cell? _).isSome=true
   rw[hblk.cell,List.getElem?_eq_getElem (by rw[List.length_append,hl];omega)]
   rfl
  obtain⟨W1,hW1⟩:∃W1,W1=w.drew.setCells g (0+i*5) news:=⟨_,rfl⟩
  have B1:Blk W1 g 53 ((vs.take (i*5)++news)++last++sp):=by
   have:=Blk.sets news _ _ _ w.drew (0+i*5) hb0 (by rw[hlen,List.length_take,List.length_drop,hl];omega) (by rw[htl,Nat.zero_add])
   rw[hW1,List.append_assoc];exact this
  have K1:Kept (·=g) w W1:=by rw[hW1];exact Kept.sets _ _ _ kR.drew fun _=>rfl
  have hzc:(Builtin.zeroCells (Value.cells (.agg #[.int .i64 0,.int .u8 0,.int .i64 0,.slice none 0 0,.slice none 0 0])) 1).toList=[.int .i64 0,.int .u8 0,.int .i64 0,.slice none 0 0,.slice none 0 0]:=by
   rw[zbo _ 1 (by simp[Value.cells])];simp[zer,Value.cells]
  have hzv:∀w,(zeroValue 53).run Tryz.prog w=.ok (.agg #[.int .i64 0,.int .u8 0,.int .i64 0,.slice none 0 0,.slice none 0 0]) w:=fun w=>by simp[zeroValue,typeInfo,hi0,hz0]
  have hcl:∀ty q,(Builtin.clear_ #[23] ty #[.slice (some ⟨g,(i+(n - (i+1)))*5,none⟩) (n - (i+(n - (i+1)))) q]).run Tryz.prog W1=.ok (.tuple #[]) (W1.setCells g ((i+(n - (i+1)))*5) [.int .i64 0,.int .u8 0,.int .i64 0,.slice none 0 0,.slice none 0 0]):=fun ty q=>by
   rw[show n - (i+(n - (i+1)))=1 by omega]
   exact run_clear_el W1 _ _ ty _ Tryz.underlying23 hzv g _ 1 q (by omega) _ hzc (by intro u hu;simp at hu;rcases hu with rfl|rfl|rfl|rfl|rfl<;>rfl)
    (fun j hj=>by rw[B1.cell,List.getElem?_eq_getElem (by simp at hj;simp[htl,hlen,hll];omega)];rfl) (fun j _=>B1.free _)
  have R2:Hid (OwnV (W1.setCells g ((i+(n - (i+1)))*5) [.int .i64 0,.int .u8 0,.int .i64 0,.slice none 0 0,.slice none 0 0]) 53 5 B (some ⟨g,0,none⟩) (n - 1) c (vs.take (i*5)++vs.drop ((i+1)*5))):=by
   have B2:=Blk.sets [.int .i64 0,.int .u8 0,.int .i64 0,.slice none 0 0,.slice none 0 0] _ _ _ W1 ((i+(n - (i+1)))*5) B1 hll.symm (by rw[List.length_append,htl,hlen,Nat.add_mul]);rw[List.append_assoc] at B2;rw[←hnews];exact⟨by rw[List.length_append,htl,hlen];omega,by omega,hc63,.inr ⟨g,_,rfl,hB,B2,by rw[List.length_append,List.length_append,htl,hlen];simp;rw[←hsp,hl];omega⟩⟩
  have K2:Hid (Kept (·=g) w (W1.setCells g ((i+(n - (i+1)))*5) [.int .i64 0,.int .u8 0,.int .i64 0,.slice none 0 0,.slice none 0 0])):=Kept.sets _ _ _ K1 fun _=>rfl
  have hW:Hid (W1=w.drew.setCells g (0+i*5) news):=hW1
  have hic:i≤c:=by omega
  have hjc:i+1≤c:=by omega
  unfold maxLen at hc63
  have hb1:(0:Int)≤((i:Nat):Int)+1:=by omega
  have hb2:((i:Nat):Int)+1≤((n:Nat):Int):=by omega
  have htn:(((i:Nat):Int)+1).toNat=i+1:=by omega
  have e3:Hid (i+(n - (i+1))=n - 1):=by show _=_;omega
  clear hW1 B1 K1 hb0 hblk hl hnews hlast hll htl hlen hsp hB h1 hzb;go_enter Tryz.func103,Tryz.ntmps103;go_wp2_with fail
  go_region_law (first|refine step_append_room rfl (.tmp 22) (.tmp 25) 23 rfl 53 i0 5 Tryz.underlying23 hi0 hzs g 0 i c (by simp[Act.eval,Act.put]) A (n - (i+1)) (c - (i+1)) news (by simp[Act.eval,Act.put]) s1.out hsrc.out s2.out (by omega) s3.out ?_;rw[←hW.out])
  go_wp2;go_ret;exact⟨by rw[←e3.out];rfl,R2.out,K2.out⟩
theorem delNm_any (g n c i B:Nat) (vs:List Value) (w:World) (h:OwnV w 65 2 B (some ⟨g,0,none⟩) n c vs) (h1:∀u∈vs,u.oneCell'=true) (hi:i < n) (hn:n≤1000000):
  Calls Tryz.prog 105 #[.slice (some ⟨g,0,none⟩) n c,.int .i64 i,.int .i64 (((i:Nat):Int)+1)] w (fun e w'=>e=.returned (.slice (some ⟨g,0,none⟩) (n - 1) c)∧OwnV w' 65 2 B (some ⟨g,0,none⟩) (n - 1) c (vs.take (i*2)++vs.drop ((i+1)*2))∧Kept (·=g) w w'):=by
 obtain⟨i0,hi0,hz0,hzs,hzb⟩:=info_parts zcf;obtain⟨hl,hnc,hc63,hr⟩:=h
 rcases hr with ⟨h0,_⟩|⟨g',sp,e,hB,hblk,hsp⟩
 ·cases h0
 ·injection e with e
  injection e with e _
  subst e;obtain⟨news,hnews⟩:∃news,news=vs.drop ((i+1)*2):=⟨_,rfl⟩
  have hlen:news.length=(n - (i+1))*2:=by rw[hnews,List.length_drop,hl];omega
  obtain⟨last,hlast⟩:∃last,last=vs.drop ((n - 1)*2):=⟨_,rfl⟩
  have hll:last.length=2:=by rw[hlast,List.length_drop,hl];omega
  have hb0:Blk w.drew g 65 (vs.take (i*2)++(vs.drop (i*2)).take ((n - (i+1))*2)++(last++sp)):=by
   have e:vs=vs.take (i*2)++(vs.drop (i*2)).take ((n - (i+1))*2)++last:=by
    rw[hlast,List.append_assoc,show (n - 1)*2=i*2+(n - (i+1))*2 by omega,←List.drop_drop,List.take_append_drop,List.take_append_drop]
   rw[←List.append_assoc,←e];exact hblk.drew
  have htl:(vs.take (i*2)).length=i*2:=by rw[List.length_take,hl];omega
  obtain⟨A,hA,hsrc⟩:∃A:Addr,(if c=i+1 then (some ⟨g,0,none⟩:Option Addr) else some ⟨g,(i+1)*2,none⟩)=some A∧Hid (∀t u,news[t]?=some u→w.drew.cell? (A.add t)=some u):=by
   by_cases hci:c=i+1
   ·refine⟨⟨g,0,none⟩,by simp[hci],fun t u hu=>?_⟩
    have:news=[]:=List.eq_nil_of_length_eq_zero (by rw[hlen];omega)
    rw[this] at hu;simp at hu
   ·refine⟨⟨g,(i+1)*2,none⟩,by simp[hci],fun t u hu=>?_⟩;rw[Addr.add_lit]
    show w.cell? _=_
    rw[hblk.cell,List.getElem?_append_left (by have:=(List.getElem?_eq_some_iff.1 hu).1;rw[hlen] at this;omega)];rwa [hnews,List.getElem?_drop] at hu
  have s1:Hid (news.length=(n - (i+1))*2):=hlen
  have s2:Hid (∀u∈news,u.oneCell'=true):=fun u hu=>h1 u (by rw[hnews] at hu;exact List.mem_of_mem_drop hu)
  have s3:Hid (∀t,t < news.length→(w.drew.cell? ⟨g,0+i*2+t,none⟩).isSome=true∧w.drew.frozen? ⟨g,0+i*2+t,none⟩=false):=by
   intro t ht;rw[hlen] at ht;refine⟨?_,hblk.drew.free _⟩
   show (w.cell? _).isSome=true
   rw[hblk.cell,List.getElem?_eq_getElem (by rw[List.length_append,hl];omega)]
   rfl
  obtain⟨W1,hW1⟩:∃W1,W1=w.drew.setCells g (0+i*2) news:=⟨_,rfl⟩
  have B1:Blk W1 g 65 ((vs.take (i*2)++news)++last++sp):=by
   have:=Blk.sets news _ _ _ w.drew (0+i*2) hb0 (by rw[hlen,List.length_take,List.length_drop,hl];omega) (by rw[htl,Nat.zero_add])
   rw[hW1,List.append_assoc];exact this
  have K1:Kept (·=g) w W1:=by rw[hW1];exact Kept.sets _ _ _ kR.drew fun _=>rfl
  have hzc:(Builtin.zeroCells (Value.cells (.agg #[.string ⟨#[]⟩,.int .i64 0])) 1).toList=[.string ⟨#[]⟩,.int .i64 0]:=by
   rw[zbo _ 1 (by simp[Value.cells])];simp[zer,Value.cells]
  have hzv:∀w,(zeroValue 65).run Tryz.prog w=.ok (.agg #[.string ⟨#[]⟩,.int .i64 0]) w:=fun w=>by simp[zeroValue,typeInfo,hi0,hz0]
  have hcl:∀ty q,(Builtin.clear_ #[51] ty #[.slice (some ⟨g,(i+(n - (i+1)))*2,none⟩) (n - (i+(n - (i+1)))) q]).run Tryz.prog W1=.ok (.tuple #[]) (W1.setCells g ((i+(n - (i+1)))*2) [.string ⟨#[]⟩,.int .i64 0]):=fun ty q=>by
   rw[show n - (i+(n - (i+1)))=1 by omega]
   exact run_clear_el W1 _ _ ty _ Tryz.underlying51 hzv g _ 1 q (by omega) _ hzc (by intro u hu;simp at hu;rcases hu with rfl|rfl<;>rfl)
    (fun j hj=>by rw[B1.cell,List.getElem?_eq_getElem (by simp at hj;simp[htl,hlen,hll];omega)];rfl) (fun j _=>B1.free _)
  have R2:Hid (OwnV (W1.setCells g ((i+(n - (i+1)))*2) [.string ⟨#[]⟩,.int .i64 0]) 65 2 B (some ⟨g,0,none⟩) (n - 1) c (vs.take (i*2)++vs.drop ((i+1)*2))):=by
   have B2:=Blk.sets [.string ⟨#[]⟩,.int .i64 0] _ _ _ W1 ((i+(n - (i+1)))*2) B1 hll.symm (by rw[List.length_append,htl,hlen,Nat.add_mul]);rw[List.append_assoc] at B2;rw[←hnews];exact⟨by rw[List.length_append,htl,hlen];omega,by omega,hc63,.inr ⟨g,_,rfl,hB,B2,by rw[List.length_append,List.length_append,htl,hlen];simp;rw[←hsp,hl];omega⟩⟩
  have K2:Hid (Kept (·=g) w (W1.setCells g ((i+(n - (i+1)))*2) [.string ⟨#[]⟩,.int .i64 0])):=Kept.sets _ _ _ K1 fun _=>rfl
  have hW:Hid (W1=w.drew.setCells g (0+i*2) news):=hW1
  have hic:i≤c:=by omega
  have hjc:i+1≤c:=by omega
  unfold maxLen at hc63
  have hb1:(0:Int)≤((i:Nat):Int)+1:=by omega
  have hb2:((i:Nat):Int)+1≤((n:Nat):Int):=by omega
  have htn:(((i:Nat):Int)+1).toNat=i+1:=by omega
  have e3:Hid (i+(n - (i+1))=n - 1):=by show _=_;omega
  clear hW1 B1 K1 hb0 hblk hl hnews hlast hll htl hlen hsp hB h1 hzb;go_enter Tryz.func105,Tryz.ntmps105;go_wp2_with fail
  go_region_law (first|refine step_append_room rfl (.tmp 22) (.tmp 25) 51 rfl 65 i0 2 Tryz.underlying51 hi0 hzs g 0 i c (by simp[Act.eval,Act.put]) A (n - (i+1)) (c - (i+1)) news (by simp[Act.eval,Act.put]) s1.out hsrc.out s2.out (by omega) s3.out ?_;rw[←hW.out])
  go_wp2;go_ret;exact⟨by rw[←e3.out];rfl,R2.out,K2.out⟩
end
end Go.Proofs.YtjjamoemheljdaaGreat
