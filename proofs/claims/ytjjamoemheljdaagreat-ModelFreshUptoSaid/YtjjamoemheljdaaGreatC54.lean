/-
  Layer 7: contracts (Qt Wd We Zg Wj).
-/
import Derived.Test.YtjjamoemheljdaaGreatC45
import Derived.Test.YtjjamoemheljdaaGreatC46
import Derived.Test.YtjjamoemheljdaaGreatC47
import Derived.Test.YtjjamoemheljdaaGreatC49
import Derived.Test.YtjjamoemheljdaaGreatC50
import Derived.Test.YtjjamoemheljdaaGreatC51
import Derived.Test.YtjjamoemheljdaaGreatC52
import Derived.Test.YtjjamoemheljdaaGreatC53
import Derived.Test.YtjjamoemheljdaaGreatRows
import Derived.Deep.Slices
import Derived.Deep.Fields
import Derived.Lib.Bytes
import Derived.Test.YtjjamoemheljdaaGreatC42
namespace Go.Proofs.YtjjamoemheljdaaGreat
set_option maxRecDepth 100000
set_option maxHeartbeats 8000000
set_option linter.unusedSimpArgs false
set_option linter.unusedVariables false
section
open Go.RowKit
theorem doF_act1 (T:TT) (c:AC) (hk:¬(c.k=0∨11 < c.k)) (hp:peB c.p=0) (h2:¬twoK c.k) {q j:Nat} (hl:zad T.l (pnB c.p) 0 1=(q,j,0)):doF T c=actF T c (pnB c.p) [] q j 0 0:=by
 unfold doF;rw[if_neg hk,if_neg (by simpa using hp),if_neg (fun e=>h2 e.1),hl,if_neg (by simp),if_neg h2]
theorem doF_act2 (T:TT) (c:AC) (hk:¬(c.k=0∨11 < c.k)) (hp:peB c.p=0) (h2:twoK c.k) (ht:peB c.t=0) {q j r v:Nat} (hl:zad T.l (pnB c.p) 0 1=(q,j,0)) (hm:zad T.l (pnB c.t) 0 1=(r,v,0)):
  doF T c=actF T c (pnB c.p) (pnB c.t) q j r v:=by
 unfold doF;rw[if_neg hk,if_neg (by simpa using hp),if_neg (fun e=>e.2 ht),hl,if_neg (by simp),if_pos h2,hm,if_neg (by simp)]
theorem look_split (L:List ND) (g:List ByteArray) (h:(zad L g 0 1).2.2=0):∃q j,zad L g 0 1=(q,j,0):=⟨(zad L g 0 1).1,(zad L g 0 1).2.1,Prod.ext rfl (Prod.ext rfl h)⟩
theorem rdo_any (p:Nat) (A:Option Addr) (n c:Nat) (es:List NE) (k:Nat) (sp st:ByteArray) (av nv:Int) (Ab:Option Addr) (bl bc:Nat) (ab:List Nat) (w:World) (h:TIn w A es) (hn:es.length=n) (hR:Rt ⟨p,nds es⟩) (hk:k < 256) (hs:sp.size≤1048576) (ht:st.size≤1048576) (hab:Bts w Ab bl ab):
  Calls Tryz.prog 17 #[.agg #[.int .i64 p,.slice A n c],.agg #[.int .u8 k,.string sp,.string st,.int .i64 av,.int .i64 nv,.slice Ab bl bc]] w
   (DoP w p w.heap.size none (doF ⟨p,nds es⟩ ⟨k,sp,st,av,nv,ab⟩).1.l (doF ⟨p,nds es⟩ ⟨k,sp,st,av,nv,ab⟩).2):=by
 by_cases hk0:k=0∨11 < k
 ·exact rdo_kind p A n c es sp st av nv Ab bl bc ab w h hn hR hs ht hab k (by omega)
 by_cases hpe:peB sp=0
 ·by_cases h2:k=4∨k=6
  ·by_cases hpt:peB st=0
   ·by_cases hlk:(zad (nds es) (pnB sp) 0 1).2.2=0
    ·obtain⟨q,j,hq⟩:=look_split _ _ hlk
     by_cases hlt:(zad (nds es) (pnB st) 0 1).2.2=0
     ·obtain⟨r,v,hr⟩:=look_split _ _ hlt
      rcases h2 with rfl|rfl
      ·rw[doF_act2 ⟨p,nds es⟩ ⟨4,sp,st,av,nv,ab⟩ hk0 hpe (.inl rfl) hpt hq hr];exact rdo_ln p A n c es sp st av nv Ab bl bc ab w h hn hR hs ht hab q j r v hpe hq hpt hr
      ·rw[doF_act2 ⟨p,nds es⟩ ⟨6,sp,st,av,nv,ab⟩ hk0 hpe (.inr rfl) hpt hq hr];exact rdo_mv p A n c es sp st av nv Ab bl bc ab w h hn hR hs ht hab q j r v hpe hq hpt hr
     ·rcases h2 with rfl|rfl
      ·exact rdo_lookto4 p A n c es sp st av nv Ab bl bc ab w h hn hR hs ht hab q j hpe hpt hq hlt
      ·exact rdo_lookto6 p A n c es sp st av nv Ab bl bc ab w h hn hR hs ht hab q j hpe hpt hq hlt
    ·rcases h2 with rfl|rfl
     ·exact rdo_look4 p A n c es sp st av nv Ab bl bc ab w h hn hR hs ht hab hpe hpt hlk
     ·exact rdo_look6 p A n c es sp st av nv Ab bl bc ab w h hn hR hs ht hab hpe hpt hlk
   ·rcases h2 with rfl|rfl
    ·exact rdo_to4 p A n c es sp st av nv Ab bl bc ab w h hn hR hs ht hab hpe hpt
    ·exact rdo_to6 p A n c es sp st av nv Ab bl bc ab w h hn hR hs ht hab hpe hpt
  ·by_cases hlk:(zad (nds es) (pnB sp) 0 1).2.2=0
   ·obtain⟨q,j,hq⟩:=look_split _ _ hlk;rw[doF_act1 ⟨p,nds es⟩ ⟨k,sp,st,av,nv,ab⟩ hk0 hpe h2 hq]
    rcases (by omega:k=1∨k=2∨k=3∨k=5∨(k=7∨k=8∨k=9)∨k=10∨k=11) with rfl|rfl|rfl|rfl|h7|rfl|rfl
    ·exact rdo_mk1 p A n c es sp st av nv Ab bl bc ab w h hn hR hs ht hab q j hpe hq
    ·exact rdo_mk2 p A n c es sp st av nv Ab bl bc ab w h hn hR hs ht hab q j hpe hq
    ·exact rdo_rm p A n c es sp st av nv Ab bl bc ab w h hn hR hs ht hab q j hpe hq
    ·exact rdo_ul p A n c es sp st av nv Ab bl bc ab w h hn hR hs ht hab q j hpe hq
    ·exact rdo_by p A n c es sp st av nv Ab bl bc ab w h hn hR hs ht hab k h7 q j hpe hq
    ·exact rdo_st p A n c es sp st av nv Ab bl bc ab w h hn hR hs ht hab q j hpe hq
    ·exact rdo_ls p A n c es sp st av nv Ab bl bc ab w h hn hR hs ht hab q j hpe hq
   ·exact rdo_look p A n c es sp st av nv Ab bl bc ab w h hn hR hs ht hab k (by omega) hpe hlk
 ·exact rdo_path p A n c es sp st av nv Ab bl bc ab w h hn hR hs ht hab k (by omega) hpe
end
section
open Go.RowKit
def playT (l:List AC):TT:=l.foldl (fun T c=>(doF T c).1) lt0
def ActsC (w:World) (A:Option Addr) (n:Nat) (al:List AC):Prop:=
 al.length=n∧(0 < n→∃g o,A=some ⟨g,o,none⟩∧∀(i:Nat) (a:AC),al[i]?=some a→∃Ab bl bc,
  w.cell? ⟨g,o+i*6,none⟩=some (.int .u8 a.k)∧w.cell? ⟨g,o+i*6+1,none⟩=some (.string a.p)∧w.cell? ⟨g,o+i*6+2,none⟩=some (.string a.t)∧w.cell? ⟨g,o+i*6+3,none⟩=some (.int .i64 a.a) ∧
   w.cell? ⟨g,o+i*6+4,none⟩=some (.int .i64 a.n)∧w.cell? ⟨g,o+i*6+5,none⟩=some (.slice Ab bl bc)∧Bts w Ab bl a.b∧bl≤140737488351232∧a.k < 256∧a.p.size≤1048576∧a.t.size≤1048576)
theorem ActsC.new {w w':World} {A:Option Addr} {n:Nat} {al:List AC} (h:ActsC w A n al) (hk:New w w'):ActsC w' A n al:=by
 obtain⟨h1,h2⟩:=h;refine⟨h1,fun h0=>?_⟩;obtain⟨g,o,e,hc⟩:=h2 h0;refine⟨g,o,e,fun i a ha=>?_⟩;obtain⟨Ab,bl,bc,c0,c1,c2,c3,c4,c5,c6,c7⟩:=hc i a ha;exact⟨Ab,bl,bc,hk.cell c0 id,hk.cell c1 id,hk.cell c2 id,hk.cell c3 id,hk.cell c4 id,hk.cell c5 id,c6.new hk,c7⟩
theorem ActsC.byt {w:World} {A:Option Addr} {n:Nat} {al:List AC} (h:ActsC w A n al):∀c∈al,∀x∈c.b,x < 256:=fun c hc=>by
 obtain⟨i,hi,rfl⟩:=List.getElem_of_mem hc;obtain⟨g,o,e,hc⟩:=h.2 (by have:=h.1;omega);obtain⟨Ab,bl,bc,_,_,_,_,_,_,c6,_⟩:=hc i _ (List.getElem?_eq_getElem hi);exact c6.2.1
theorem playT_p (l:List AC):(playT l).p=32:=by
 unfold playT
 suffices h:∀(T:TT),T.p=32→(l.foldl (fun T c=>(doF T c).1) T).p=32 from h lt0 rfl
 induction l with
 | nil=>exact fun T h=>h
 | cons c l ih=>exact fun T h=>ih _ ((do_p T c).trans h)
theorem playT_rt {l:List AC} (h:∀c∈l,∀x∈c.b,x < 256):Rt (playT l):=by
 unfold playT
 suffices g:∀(T:TT),Rt T→Rt (l.foldl (fun T c=>(doF T c).1) T) from g lt0 lr_t
 induction l with
 | nil=>exact fun T h=>h
 | cons c l ih=>exact fun T g=>ih (fun c hc=>h c (List.mem_cons_of_mem _ hc)) _ (rt_do g c (h c List.mem_cons_self))
theorem playT_eta (l:List AC):(⟨32,(playT l).l⟩:TT)=playT l:=by rw[←playT_p l]
theorem playT_one (l:List AC) (c:AC):playT (l++[c])=(doF (playT l) c).1:=by
 unfold playT;rw[List.foldl_append]
 rfl
def laid1 (u:World) (rt p:Nat) (A:Option Addr) (n c:Nat):World:=(u.setCell ⟨rt,0,none⟩ (.int .i64 p)).setCell ⟨rt,1,none⟩ (.slice A n c)
theorem laid1_kept {u:World} {rt p:Nat} {A:Option Addr} {n c:Nat}:Kept (·=rt) u (laid1 u rt p A n c):=by
 unfold laid1;have h0:Kept (·=rt) u u:=Kept.refl _ u;exact (h0.setCell (p:=⟨rt,0,none⟩) (fun _=>rfl) _).setCell (p:=⟨rt,1,none⟩) (fun _=>rfl) _
theorem lt_laid1 {w0 u:World} {rt p B:Nat} {A:Option Addr} {n c:Nat} {es:List NE} {L:List ND} {v0 v1:Value} (ht:Blk u rt 25 [v0,v1]) (hrt:w0.heap.size≤rt) (hes:TOwn u B A c es) (hB:w0.heap.size≤B) (hn:es.length=n) (hL:nds es=L) (hk:New w0 u):
  LT w0 (laid1 u rt p A n c) rt p L:=by
 subst hn;have hK:=laid1_kept (u:=u) (rt:=rt) (p:=p) (A:=A) (n:=es.length) (c:=c)
 have far:∀(b:Nat) (t:TypeId),At u b t→t≠25→¬b=rt:=fun b t hb q1 q=>by
  subst q;exact hb.ne_of ht.at_ q1 rfl
 have hes2:=hes.mono hB
 exact⟨A,c,es,(ht.put 0 _).put 1 _,⟨hes2.1.kept hK fun x hx=>far _ _ (hes2.1.at_ x hx).1 (by decide),fun e he=>⟨(hes2.2 e he).1.kept hK fun x hx=>far _ _ ((hes2.2 e he).1.at_ x hx).1 (by decide),(hes2.2 e he).2.kept hK fun x hx=>far _ _ ((hes2.2 e he).2.at_ x hx).1 (by decide)⟩⟩,hL,hk.trans hK fun i hi q=>by
  subst q
  exact absurd hi (Nat.not_lt.2 hrt),hrt⟩
theorem mplayed_yes (A:Option Addr) (n ca:Nat) (al:List AC) (w:World) (hl:ActsC w A n al):
  Calls Tryz.prog 20 #[.int .i64 32,.slice A n ca] w
   (fun e w'=>∃A3 c3 es3,e=.returned (.agg #[.int .i64 32,.slice A3 es3.length c3])∧nds es3=(playT (al.take 30)).l∧TOwn w' w.heap.size A3 c3 es3∧New w w'):=by
 have HL:=jH hl;have HLN:=jH hl.1
 have HBY:Hid (∀k,Rt (playT (al.take k))):=fun k=>playT_rt fun c hc=>hl.byt c (List.mem_of_mem_take hc)
 clear hl;go_enter Tryz.func20,Tryz.ntmps20
 go_wp2_with (go_at_call 11;refine (rnew_any 32 _ (by decide) (by decide)).mono ?_;rintro e w1 ⟨A1,c1,es1,rfl,hL1,hO1,hN1⟩)
 obtain⟨w2,hw2⟩:∃w2,w2=w1.alloc (.cells #[.int .i64 32,.slice A1 es1.length c1] 25):=⟨_,rfl⟩
 have k2:New w1 w2:=by rw[hw2];exact kR.alloc _
 have n0:New w (w.alloc (.cells #[.int .i64 0,.slice none 0 0] 25)):=kR.alloc _;have hg:w.heap.size < w1.heap.size:=Nat.lt_of_lt_of_le (Blk.made w 25 #[.int .i64 0,.slice none 0 0]).lt hN1.size;have HT2:Hid (LT w w2 w1.heap.size 32 (playT (al.take 0)).l):=⟨A1,c1,es1,by rw[hw2];exact Blk.made w1 _ _,(hO1.mono n0.size).new k2,hL1,(n0.new hN1).new k2,Nat.le_of_lt hg⟩;have HR2:Hid (Blk w2 w.heap.size 25 [.int .i64 0,.slice none 0 0]):=(((Blk.made w _ _).kept hN1 id).kept k2 id);rw[←hw2];generalize w1.heap.size=gt at *;obtain⟨gr,hgr⟩:∃gr,gr=w.heap.size:=⟨_,rfl⟩;rw[←hgr] at HR2 ⊢;have GG:Hid (¬gr=gt∧w.heap.size≤gr):=⟨by omega,by omega⟩
 clear hw2 k2 hL1 hO1 hN1 n0 hg hgr
 go_loopw [7] (fun i wx=>∃k:Nat,k≤n∧k≤30∧i=.int .i64 k∧Hid (LT w wx gt 32 (playT (al.take k)).l)∧Hid (Blk wx gr 25 [.int .i64 0,.slice none 0 0])) (fun i _=>30 - (intOf i).toNat)
 case atStart=>exact⟨0,Nat.zero_le _,by omega,rfl,HT2,HR2⟩
 case round=>
  obtain⟨k,hk,hk2,rfl,VT,VR⟩:=hrel;clear HT2 HR2
  by_cases hin:k < n∧k < 30
  ·obtain⟨hlt,hlt2⟩:=hin;obtain⟨A1,c1,es1,hb1,ho1,hl1,hn1,hg1⟩:=VT.out;obtain⟨gA,oA,rfl,hc⟩:=HL.out.2 (by omega);obtain⟨act,hact⟩:∃act,al[k]?=some act:=⟨_,List.getElem?_eq_getElem (by rw[HLN.out];exact hlt)⟩;obtain⟨Ab,bl,bc,c0,c1',c2,c3,c4,c5,c6,c7,c8,c9,c10⟩:=hc k act hact;have d0:=hn1.cell c0 id;have d1:=hn1.cell c1' id;have d2:=hn1.cell c2 id;have d3:=hn1.cell c3 id;have d4:=hn1.cell c4 id;have d5:=hn1.cell c5 id;obtain⟨b0,b1⟩:=hb1.p2
   have hlz:((k:Nat):Int) < ((n:Nat):Int):=by omega
   have hlz2:((k:Nat):Int) < 30:=by omega
   have hz0:(0:Int)≤((k:Nat):Int):=by omega
   have CD:Hid (∀u,New wr u→Calls Tryz.prog 17 #[.agg #[.int .i64 32,.slice A1 es1.length c1],.agg #[.int .u8 act.k,.string act.p,.string act.t,.int .i64 act.a,.int .i64 act.n,.slice Ab bl bc]] u (DoP u 32 u.heap.size none (playT (al.take (k+1))).l (doF (playT (al.take k)) act).2)):=fun u hu=>by
    have:=rdo_any 32 A1 es1.length c1 es1 act.k act.p act.t act.a act.n Ab bl bc act.b u (ho1.in_.new hu) rfl (by rw[hl1,playT_eta];exact HBY.out k) c8 c9 c10 ((c6.new hn1).new hu)
    rw[hl1,playT_eta] at this;rw[List.take_add_one,hact]
    show Calls _ _ _ _ (DoP u 32 u.heap.size none (playT (al.take k++[act])).l (doF (playT (al.take k)) act).2)
    rw[playT_one];exact this
   have KA:New wr wr:=kR;have HB1:=jH hb1;have HN1:=jH hn1;have HG1:=jH hg1;clear hb1 ho1 hl1 hn1 hg1 hc hact c0 c1' c2 c3 c4 c5 c6 c7 c8 c9 c10 VT
   go_upto_block 1 with fail
   go_cut [] (fun wz=>Hid (LT w wz gt 32 (playT (al.take (k+1))).l)∧Hid (Blk wz gr 25 [.int .i64 0,.slice none 0 0]))
   case first=>
    go_upto_region 7 with fail
    go_region_law (first
     | (go_simp;go_at_call 17;refine (CD.out _ (by repeat (first|exact KA|refine Kept.drew ?_))).mono ?_;rintro e we ⟨A3,c3,es3,B3,d3,T3,t3,rfl,hL3,hO3,hB3,hX3,hK3,hA3⟩;have k3:Hid (New wr we∧wr.heap.size≤wr.heap.size):=⟨(by first|exact (hK3.mono (fun _ _ ⟨a,e,_⟩=>by cases e))|exact of_drewK (hK3.mono (fun _ _ ⟨a,e,_⟩=>by cases e))),Nat.le_refl _⟩;have hb3:=HB1.out.kept k3.out.1 id;obtain⟨t0,t1⟩:=hb3.p2;obtain⟨q0,q1⟩:=hb3.f2;clear hK3 hB3 hX3 hA3))
    all_goals
     have hP:=lt_laid1 (w0:=w) (p:=32) hb3 HG1.out hO3 HN1.out.size rfl hL3 (HN1.out.new k3.out.1);have hV:=(VR.out.kept k3.out.1 id).kept (laid1_kept (u:=we) (rt:=gt) (p:=32) (A:=A3) (n:=es3.length) (c:=c3)) GG.out.1
     try simp only[Exit.inBlock,Exit.then]
     refine (‹∀(a':Act) (w':World),Met _ a' w'→_›) _ _ ?_
     go_meet
     case rel=>
      first
       | exact⟨hP,hV⟩
       | exact⟨hP.new (kR.drew),hV.drew⟩
   case rest=>
    obtain⟨ZT,ZR⟩:=hcut;go_wp2_with fail;go_roundw
    case rel=>exact⟨k+1,by omega,by omega,by go_num,ZT,ZR⟩
    case measure=>simp[intOf];omega
  ·have HT:al.take k=al.take 30:=by
    rcases Nat.lt_or_ge k n with h|h
    ·rw[show k=30 by omega]
    ·rw[List.take_of_length_le (by rw[HLN.out];omega),List.take_of_length_le (by rw[HLN.out];omega)]
   rw[HT] at VT;clear HT;obtain⟨A1,c1,es1,hb1,ho1,hl1,hn1,hg1⟩:=VT.out;obtain⟨b0,b1⟩:=hb1.p2;obtain⟨r0,r1⟩:=VR.out.p2;obtain⟨f0,f1⟩:=VR.out.f2;have gne:=GG.out.1
   have gne2:¬gt=gr:=fun e=>gne e.symm
   have HP:=jH (lt_laid1 (w0:=w) (p:=32) VR.out GG.out.2 ho1 (Nat.le_refl _) rfl hl1 hn1);clear hb1 ho1 hl1 hn1 hg1 VT
   rcases Nat.lt_or_ge k n with hlt|hlt
   ·have hlt2:¬((k:Nat):Int) < 30:=by omega
    have hlt1:((k:Nat):Int) < ((n:Nat):Int):=by omega
    clear hin;go_wp2_with fail;have hZ:(wr.setCell ⟨gr,0,none⟩ (.int .i64 32)).setCell ⟨gr,1,none⟩ (.slice A1 es1.length c1)=laid1 wr gr 32 A1 es1.length c1:=rfl;rw[hZ];obtain⟨A9,c9,es9,hb9,ho9,hl9,hn9,_⟩:=HP.out;generalize laid1 wr gr 32 A1 es1.length c1=wf at *;obtain⟨d0,d1⟩:=hb9.p2;refine bodyPost_ret (by simp[results,Tryz.results20,go_sem,d0,d1];try rfl) rfl ?_;exact⟨A9,c9,es9,rfl,hl9,ho9,hn9⟩
   ·have hlt1:¬((k:Nat):Int) < ((n:Nat):Int):=by omega
    clear hin;go_wp2_with fail;have hZ:(wr.setCell ⟨gr,0,none⟩ (.int .i64 32)).setCell ⟨gr,1,none⟩ (.slice A1 es1.length c1)=laid1 wr gr 32 A1 es1.length c1:=rfl;rw[hZ];obtain⟨A9,c9,es9,hb9,ho9,hl9,hn9,_⟩:=HP.out;generalize laid1 wr gr 32 A1 es1.length c1=wf at *;obtain⟨d0,d1⟩:=hb9.p2;refine bodyPost_ret (by simp[results,Tryz.results20,go_sem,d0,d1];try rfl) rfl ?_;exact⟨A9,c9,es9,rfl,hl9,ho9,hn9⟩
end
section
open Go.ChangeShapes Go.WideShapes Go.ChangeAt Go.RowKit Go.Deep
section
variable {H:Type} {enc:TypeId×Value→H} {P:Program} {W:World} {b:Nat}
theorem bulk_mem {d:DataW H}:∀{l:List (DataW H)},d∈l→Rows.uptoBulk d≤Rows.uptoBulkAll l:=by
 intro l
 induction l with
 | nil=>intro h;cases h
 | cons x r ih=>
  intro h;simp only[Rows.uptoBulkAll]
  rcases List.mem_cons.1 h with rfl|h
  ·omega
  ·have:=ih h
   omega
def FldU (enc:TypeId×Value→H) (P:Program) (W:World) (b:Nat) (t:TypeId) (v:Value) (d:DataW H):Prop:=
 ((∃n p,DataW.trod enc P W 0 (fun _=>true) true n t [v]=some (d,p))∧∀m∈d.weights P t,m≤reachBytes)∧Rows.uptoBulk d≤b
theorem weightsAllU_of {e:TypeId}:∀{l:List (DataW H)} {d:DataW H},d∈l→∀n∈d.weights P e,n∈DataW.weightsAll P e l:=by
 intro l
 induction l with
 | nil=>intro d hd;cases hd
 | cons x l ih=>
  intro d hd n hn;unfold DataW.weightsAll
  rcases List.mem_cons.1 hd with rfl|hd
  ·exact List.mem_append_left _ hn
  ·exact List.mem_append_right _ (ih hd n hn)
theorem fieldsU_of {t:TypeId} {fs:Array Field} {n:Nat} {cs:List Value} {d:DataW H} {p:List MemPlace} (ht:P.underlying t=some (.struct fs)) (hone:oneCellFields P fs=true) (hC:P.cellsOf t=fs.size)
  (h:DataW.trod enc P W 0 (fun _=>true) true n t cs=some (d,p)) (hw:∀m∈d.weights P t,m≤reachBytes) (hbk:Rows.uptoBulk d≤b):
  cs.length=fs.size∧∀(j:Nat) (f:Field),fs[j]?=some f→∃v d',cs[j]?=some v∧FldU enc P W b f.type v d':=by
 obtain⟨xs,n',rfl,hx,hlen,hxl,hf⟩:=DataW.trod_struct ht h
 injection hx with hx1 hx2
 rw[hC] at hlen;refine⟨hlen,fun j f hj=>?_⟩;have hlt:j < fs.size:=(Array.getElem?_eq_some_iff.1 hj).1;obtain⟨o1,o2⟩:=hone_of hone j f hj;have h1:=hf j f hj;rw[o1,o2,List.drop_eq_getElem_cons (show j < cs.length by omega)] at h1;have hxj:xs[j]?=some (xs[j]'(by omega)):=List.getElem?_eq_getElem (by omega);refine⟨cs[j]'(by omega),(xs[j]'(by omega)).1,List.getElem?_eq_getElem (by omega),⟨⟨n',(xs[j]'(by omega)).2,?_⟩,fun m hm=>hw m ?_⟩,?_⟩
 ·rw[hxj] at h1;exact h1
 ·rw[hx1];simp only[DataW.weights,ht];refine DataW.weights_mem_each (j:=j) (t:=f.type) (d:=(xs[j]'(by omega)).1) ?_ ?_ m hm
  ·rw[List.getElem?_map,Array.getElem?_toList,hj];rfl
  ·rw[List.getElem?_map,hxj];rfl
 ·rw[hx1] at hbk;simp only[Rows.uptoBulk] at hbk
  have:=bulk_mem (l:=xs.map (·.1)) (d:=(xs[j]'(by omega)).1) (List.mem_map.2 ⟨_,List.getElem_mem _,rfl⟩)
  omega
theorem FldU.str_ {t:TypeId} {v:Value} {d:DataW H} (h:FldU enc P W b t v d) (ht:P.underlying t=some .string):∃s:ByteArray,v=.string s∧s.size≤b:=by
 obtain⟨⟨⟨n,p,h⟩,_⟩,hb⟩:=h;obtain⟨s,hs,hx,_⟩:=DataW.trod_string ht h
 injection hs with hs
 injection hx with hx _
 rw[hx] at hb;simp only[Rows.uptoBulk,Array.length_toList] at hb;exact⟨s,hs,by show s.data.size≤b;omega⟩
theorem FldU.int_ {t:TypeId} {v:Value} {d:DataW H} {k:IntKind} (h:FldU enc P W b t v d) (ht:P.underlying t=some (.int k)):∃x:Int,v=.int k x∧(Lit.int k x).wf=true:=by
 obtain⟨⟨⟨n,p,h⟩,_⟩,_⟩:=h;obtain⟨x,hx,_,hw⟩:=DataW.trod_int ht h
 injection hx with hx
 exact⟨x,hx,hw⟩
theorem FldU.bytes_ {t e:TypeId} {v:Value} {d:DataW H} (h:FldU enc P W b t v d) (ht:P.underlying t=some (.slice e)) (he:P.underlying e=some (.int .u8)) (hc:P.cellsOf e=1) (hby:P.bytesOf e=1):∃A n c l,IsB W v A n c l:=by
 obtain⟨⟨⟨fuel,p,hf⟩,hsz⟩,_⟩:=h
 rcases open_ints ht he hc hf with ⟨hcs,hx⟩|⟨a,len,cap,zs,hcs,_,hl,hm,hz,hx,hcell,hwz⟩
 ·injection hcs with hcs
  subst hcs;exact⟨none,0,0,[],rfl,Bts.nil _ _,fun _=>⟨rfl,rfl⟩,Nat.le_refl _,by omega⟩
 ·injection hcs with hcs
  subst hcs;simp only[if_true] at hz;simp only[Prod.mk.injEq] at hx;have hs2:=hsz ((zs.take len).length+(zs.drop len).length) (by rw[hx.1];simp[DataW.weights,ht,hby,lits])
  have hcap:cap≤140737488351232:=by simp[reachBytes] at hs2;omega
  refine⟨some a,len,cap,(zs.take len).map Int.toNat,rfl,⟨by simp;omega,?_,?_⟩,fun h=>(by cases h),hl,hcap⟩
  ·intro x hx;obtain⟨z,hz2,rfl⟩:=List.mem_map.1 hx;obtain⟨m,rfl,hm⟩:=u8_nat (hwz z (List.mem_of_mem_take hz2));simpa using hm
  ·intro h0;obtain⟨b,off,rfl,hc2⟩:=ints_at hcell (by omega);refine⟨b,off,rfl,fun j x hx=>?_⟩;rw[List.getElem?_map] at hx;obtain⟨z,hz2,rfl⟩:=Option.map_eq_some_iff.1 hx;rw[List.getElem?_take] at hz2
   split at hz2
   ·obtain⟨m,rfl,_⟩:=u8_nat (hwz z (List.mem_of_getElem? hz2));have hj:j < zs.length:=(List.getElem?_eq_some_iff.1 hz2).1
    have:=hc2 j hj
    rw[this,List.getD_eq_getElem?_getD,hz2];simp
   ·cases hz2
theorem FldU.list_ {t e:TypeId} {fs:Array Field} {v:Value} {d:DataW H} (h:FldU enc P W b t v d) (ht:P.underlying t=some (.slice e)) (he:P.underlying e=some (.struct fs)) (hone:oneCellFields P fs=true) (hC:P.cellsOf e=fs.size) (h0:0 < fs.size):
  ∃A n c,v=.slice A n c∧(A=none→c=0∧n=0)∧n≤c∧c≤maxLen∧n*P.bytesOf e≤reachBytes ∧
   (0 < n→∃g o,A=some ⟨g,o,none⟩∧∀(i j:Nat) (f:Field),i < n→fs[j]?=some f→∃u d',W.cell? ⟨g,o+(i*fs.size+j),none⟩=some u∧FldU enc P W b f.type u d'):=by
 obtain⟨⟨⟨fuel,p,hf⟩,hsz⟩,hbk⟩:=h
 rcases open_slice ht hf with ⟨hcs,hx⟩|⟨a,len,cap,m,n',D,Pl,hcs,_,hl,hm,hmm,hx,hi⟩
 ·injection hcs with hcs
  subst hcs;exact⟨none,0,0,rfl,fun _=>⟨rfl,rfl⟩,Nat.le_refl _,by simp,by simp,fun h=>absurd h (by omega)⟩
 ·injection hcs with hcs
  subst hcs;simp only[if_true] at hmm;subst hmm;simp only[Prod.mk.injEq] at hx
  have hlen:((List.range len).map D).length=len:=by simp
  have hw1:(((List.range len).map D).length+((List.range (m - len)).map fun j=>D (len+j)).length)*P.bytesOf e≤reachBytes:=hsz _ (by rw[hx.1];simp[DataW.weights,ht])
  have hD:∀i,i < len→∀q∈(D i).weights P e,q≤reachBytes:=fun i hil q hq=>hsz q (by
   rw[hx.1];simp only[DataW.weights,ht]
   exact List.mem_cons_of_mem _ (List.mem_append_left _ (weightsAllU_of (List.mem_map.2 ⟨i,List.mem_range.2 hil,rfl⟩) q hq)))
  refine⟨some a,len,m,rfl,fun h=>(by cases h),hl,hm,?_,fun hp=>?_⟩
  ·rw[hlen] at hw1;exact Nat.le_trans (Nat.mul_le_mul_right _ (Nat.le_add_right _ _)) hw1
  ·have each:∀(i j:Nat) (f:Field),i < len→fs[j]?=some f→∃u d',W.cell? (a.add (i*fs.size+j))=some u∧FldU enc P W b f.type u d':=fun i j f hil hj=>by
    obtain⟨cs',hc,ht'⟩:=hi i (by omega)
    have hbi:Rows.uptoBulk (D i)≤b:=by
     rw[hx.1] at hbk;simp only[Rows.uptoBulk] at hbk
     have:=bulk_mem (l:=(List.range len).map D) (d:=D i) (List.mem_map.2 ⟨i,List.mem_range.2 hil,rfl⟩)
     omega
    obtain⟨hcl,hat⟩:=fieldsU_of he hone hC ht' (hD i hil) hbi;obtain⟨u,d',hu,hfl⟩:=hat j f hj;obtain⟨_,_,hcell⟩:=World.cells?_some hc;have hjl:j < fs.size:=(Array.getElem?_eq_some_iff.1 hj).1;refine⟨u,d',?_,hfl⟩;rw[←add_add,←hC,hcell j (by omega),hu]
   obtain⟨g,o,spot⟩:=a;obtain⟨u,d',hu,_⟩:=each 0 0 (fs[0]'h0) hp (Array.getElem?_eq_getElem h0)
   have hspot:spot=none:=by simpa [Addr.add] using World.cell?_spot hu
   subst hspot;exact⟨g,o,rfl,fun i j f hil hj=>by rw[←add_plain];exact each i j f hil hj⟩
theorem listU_of {α:Type} {R:Nat→α→Prop}:∀(n:Nat),(∀i,i < n→∃x,R i x)→∃l:List α,l.length=n∧∀i x,l[i]?=some x→R i x:=by
 intro n
 induction n with
 | zero=>intro _;exact⟨[],rfl,by simp⟩
 | succ n ih=>
  intro h
  obtain⟨l,hl,hr⟩:=ih fun i hi=>h i (by omega)
  obtain⟨x,hx⟩:=h n (by omega);refine⟨l++[x],by simp[hl],fun i y hy=>?_⟩
  rcases Nat.lt_or_ge i l.length with hi|hi
  ·rw[List.getElem?_append_left hi] at hy;exact hr i y hy
  ·rw[List.getElem?_append_right hi] at hy
   have:i - l.length=0:=by
    have:=(List.getElem?_eq_some_iff.1 hy).1
    simp at this;omega
   rw[this] at hy;simp at hy;subst hy;rw[show i=n by omega];exact hx
theorem Arg.fldU {base:Nat} {t e:TypeId} {v:Value} {d:DataW H} {p:List MemPlace} (h:Arg enc P W base t v d p) (ht:P.underlying t=some (.slice e)) (hb:Rows.uptoBulk d≤b):FldU enc P W b t v d:=by
 obtain⟨A,n,c,rfl⟩:=okWide_slice ht h.ok;obtain⟨fuel,hf⟩:=h.tr;exact⟨⟨⟨fuel,p,by simpa [Value.cells] using hf⟩,h.sz⟩,hb⟩
theorem Arg.fieldsU {base:Nat} {t:TypeId} {fs:Array Field} {v:Value} {d:DataW H} {p:List MemPlace} (h:Arg enc P W base t v d p) (ht:P.underlying t=some (.struct fs)) (hone:oneCellFields P fs=true) (hC:P.cellsOf t=fs.size) (hb:Rows.uptoBulk d≤b):
  ∃cs,v=.agg cs∧cs.size=fs.size∧∀(j:Nat) (f:Field),fs[j]?=some f→∃u d',cs[j]?=some u∧FldU enc P W b f.type u d':=by
 obtain⟨cs,rfl,hsz⟩:=okWide_struct ht h.ok;obtain⟨fuel,hf⟩:=h.tr;obtain⟨h1,h2⟩:=fieldsU_of ht hone hC (cs:=cs.toList) (by simpa [Value.cells] using hf) h.sz hb;refine⟨cs,rfl,hsz.trans hC,fun j f hj=>?_⟩;obtain⟨u,d',hu,hd⟩:=h2 j f hj;exact⟨u,d',by simpa using hu,hd⟩
end
section
variable {H:Type} {enc:TypeId×Value→H} {W:World} {b:Nat}
def ActIn (W:World) (a:AC) (Ab:Option Addr) (bl:Nat):Prop:=Bts W Ab bl a.b∧bl≤140737488351232∧a.k < 256∧a.p.size≤1048576∧a.t.size≤1048576
theorem actU_of {u0 u1 u2 u3 u4 u5:Value} {d0 d1 d2 d3 d4 d5:DataW H} (f0:FldU enc Tryz.prog W b 31 u0 d0) (f1:FldU enc Tryz.prog W b 9 u1 d1) (f2:FldU enc Tryz.prog W b 9 u2 d2) (f3:FldU enc Tryz.prog W b 3 u3 d3)
  (f4:FldU enc Tryz.prog W b 3 u4 d4) (f5:FldU enc Tryz.prog W b 32 u5 d5) (hb:b≤1048576):
  ∃(a:AC) (Ab:Option Addr) (bl bc:Nat),u0=.int .u8 a.k∧u1=.string a.p∧u2=.string a.t∧u3=.int .i64 a.a∧u4=.int .i64 a.n∧u5=.slice Ab bl bc∧ActIn W a Ab bl:=by
 obtain⟨x0,rfl,w0⟩:=f0.int_ Tryz.underlying31;obtain⟨s1,rfl,z1⟩:=f1.str_ Tryz.underlying9;obtain⟨s2,rfl,z2⟩:=f2.str_ Tryz.underlying9;obtain⟨x3,rfl,_⟩:=f3.int_ Tryz.underlying3;obtain⟨x4,rfl,_⟩:=f4.int_ Tryz.underlying3;obtain⟨Ab,bl,bc,l,hB⟩:=f5.bytes_ Tryz.underlying32 Tryz.underlying5 (by kernel_rfl) (by kernel_rfl);obtain⟨m,rfl,hm⟩:=u8_nat w0;have h1:=hB.le;have h2:=hB.cap;exact⟨⟨m,s1,s2,x3,x4,l⟩,Ab,bl,bc,rfl,rfl,rfl,rfl,rfl,hB.val,hB.bts,by omega,hm,Nat.le_trans z1 hb,Nat.le_trans z2 hb⟩
theorem Arg.actC_ {base:Nat} {v:Value} {d:DataW H} {p:List MemPlace} (h:Arg enc Tryz.prog W base 34 v d p) (hb:Rows.uptoBulk d≤1048576):
  ∃(a:AC) (Ab:Option Addr) (bl bc:Nat),v=.agg #[.int .u8 a.k,.string a.p,.string a.t,.int .i64 a.a,.int .i64 a.n,.slice Ab bl bc]∧ActIn W a Ab bl:=by
 obtain⟨cs,rfl,hsz,hc⟩:=h.fieldsU Tryz.underlying34 (by kernel_rfl) (by kernel_rfl) hb;obtain⟨u0,d0,c0,f0⟩:=hc 0 _ rfl;obtain⟨u1,d1,c1,f1⟩:=hc 1 _ rfl;obtain⟨u2,d2,c2,f2⟩:=hc 2 _ rfl;obtain⟨u3,d3,c3,f3⟩:=hc 3 _ rfl;obtain⟨u4,d4,c4,f4⟩:=hc 4 _ rfl;obtain⟨u5,d5,c5,f5⟩:=hc 5 _ rfl;obtain⟨a,Ab,bl,bc,rfl,rfl,rfl,rfl,rfl,rfl,hm⟩:=actU_of f0 f1 f2 f3 f4 f5 (Nat.le_refl _);refine⟨a,Ab,bl,bc,?_,hm⟩
 congr 1
 apply Array.ext_getElem?
 intro i
 match i with
 | 0=>exact c0
 | 1=>exact c1
 | 2=>exact c2
 | 3=>exact c3
 | 4=>exact c4
 | 5=>exact c5
 | i+6=>rw[Array.getElem?_eq_none (by rw[hsz];simp),Array.getElem?_eq_none (by simp)]
theorem Arg.actsC_ {base:Nat} {v:Value} {d:DataW H} {p:List MemPlace} (h:Arg enc Tryz.prog W base 22 v d p) (hb:Rows.uptoBulk d≤1048576):∃A n c al,v=.slice A n c∧ActsC W A n al∧n≤c∧c≤maxLen:=by
 obtain⟨A,n,c,rfl,hA,hn,hc,hby,hcell⟩:=(h.fldU Tryz.underlying22 hb).list_ Tryz.underlying22 Tryz.underlying34 (by kernel_rfl) (by kernel_rfl) (by decide)
 rcases Nat.eq_zero_or_pos n with h0|h0
 ·subst h0;exact⟨A,0,c,[],rfl,⟨rfl,fun h=>absurd h (by omega)⟩,hn,hc⟩
 ·obtain⟨g,o,eA,hce⟩:=hcell h0;clear hcell;subst eA
  have each:∀i,i < n→∃a:AC,∃Ab bl bc,
    W.cell? ⟨g,o+i*6,none⟩=some (.int .u8 a.k)∧W.cell? ⟨g,o+i*6+1,none⟩=some (.string a.p)∧W.cell? ⟨g,o+i*6+2,none⟩=some (.string a.t)∧W.cell? ⟨g,o+i*6+3,none⟩=some (.int .i64 a.a) ∧
     W.cell? ⟨g,o+i*6+4,none⟩=some (.int .i64 a.n)∧W.cell? ⟨g,o+i*6+5,none⟩=some (.slice Ab bl bc)∧Bts W Ab bl a.b∧bl≤140737488351232∧a.k < 256∧a.p.size≤1048576∧a.t.size≤1048576:=fun i hi=>by
   obtain⟨u0,d0,c0,f0⟩:=hce i 0 _ hi rfl;obtain⟨u1,d1,c1,f1⟩:=hce i 1 _ hi rfl;obtain⟨u2,d2,c2,f2⟩:=hce i 2 _ hi rfl;obtain⟨u3,d3,c3,f3⟩:=hce i 3 _ hi rfl;obtain⟨u4,d4,c4,f4⟩:=hce i 4 _ hi rfl;obtain⟨u5,d5,c5,f5⟩:=hce i 5 _ hi rfl;obtain⟨a,Ab,bl,bc,rfl,rfl,rfl,rfl,rfl,rfl,hm⟩:=actU_of f0 f1 f2 f3 f4 f5 (Nat.le_refl _);exact⟨a,Ab,bl,bc,c0,c1,c2,c3,c4,c5,hm⟩
  obtain⟨al,hl,hal⟩:=listU_of n each;exact⟨_,n,c,al,rfl,⟨hl,fun _=>⟨g,o,rfl,hal⟩⟩,hn,hc⟩
end
section
variable {H:Type}
theorem bulk_at {ds:List (DataW H)} {d:DataW H} (hk:Rows.uptoSmall H ds=true) (hd:d∈ds):Rows.uptoBulk d≤1048576:=Nat.le_trans (bulk_mem hd) (of_decide_eq_true hk)
theorem bulk_ok {ds:List (DataW H)} (_:Rows.uptoSmall H ds=true):True:=trivial
end
end
section
open Go.RowKit
end
section
open Go.RowKit
theorem str_bulk {s:ByteArray} {H:Type} (h:Rows.uptoBulk (H:=H) (.lit (.string s.data.toList))≤1048576):s.size≤1048576:=by
 simp only[Rows.uptoBulk,Array.length_toList] at h
 show s.data.size≤1048576
 omega
def TBx (w0 w:World) (g:Nat) (L:List ND) (A:Option Addr) (n c:Nat):Prop:=
 Blk w g 25 [.int .i64 32,.slice A n c]∧∃es,TOwn w w0.heap.size A c es∧es.length=n∧nds es=L
def ABx (w0 w:World) (g:Nat) (a:AN) (B:Option Addr) (d:Nat) (T:Option Addr) (t:Nat):Prop:=
 Blk w g 41 [.int .i64 a.e,.int .i64 a.i,.int .i64 a.n,.int .u8 a.k,.int .i64 a.l,.int .i64 a.s,.slice B a.b.length d,.slice T a.ns.length t] ∧
  OwnB w 5 w0.heap.size B d a.b∧Txs w T a.ns.length a.g∧∀x,T=some x→At w x.block 9
theorem LT.bx {w0 w:World} {g:Nat} {L:List ND} (h:LT w0 w g 32 L):∃A n c,TBx w0 w g L A n c:=by
 obtain⟨A,c,es,h1,h2,h3,_,_⟩:=h;exact⟨A,es.length,c,h1,es,h2,rfl,h3⟩
theorem LA.bx {w0 w:World} {g:Nat} {a:AN} (h:LA w0 w g a):∃B d T t,ABx w0 w g a B d T t:=by
 obtain⟨B,d,T,t,h1,h2,h3,h4,_⟩:=h;exact⟨B,d,T,t,h1,h2,h3,h4⟩
section
variable {w0 w w' u:World} {g g' n c m d t:Nat} {L:List ND} {A B T:Option Addr} {a:AN}
theorem TBx.new (h:TBx w0 w g L A n c) (hu:New w u):TBx w0 u g L A n c:=by
 obtain⟨h1,es,h2,h3,h4⟩:=h;exact⟨h1.kept hu id,es,h2.new hu,h3,h4⟩
theorem ABx.new (h:ABx w0 w g a B d T t) (hu:New w u):ABx w0 u g a B d T t:=by
 obtain⟨h1,h2,h3,h4⟩:=h;exact⟨h1.kept hu id,h2.new hu,h3.new hu,fun x hx=>(h4 x hx).kept hu id⟩
theorem TBx.c0 (h:TBx w0 w g L A n c):w.cell? ⟨g,0,none⟩=some (.int .i64 32):=h.1.cell 0
theorem TBx.c1 (h:TBx w0 w g L A n c):w.cell? ⟨g,1,none⟩=some (.slice A n c):=h.1.cell 1
theorem TBx.lt (h:TBx w0 w g L A n c):g < w.heap.size:=h.1.lt
theorem TBx.in_ (h:TBx w0 w g L A n c):∃es,TIn w A es∧es.length=n∧nds es=L:=by
 obtain⟨_,es,h2,h3,h4⟩:=h;exact⟨es,h2.in_,h3,h4⟩
theorem ABx.c0 (h:ABx w0 w g a B d T t):w.cell? ⟨g,0,none⟩=some (.int .i64 a.e):=h.1.cell 0
theorem ABx.c1 (h:ABx w0 w g a B d T t):w.cell? ⟨g,1,none⟩=some (.int .i64 a.i):=h.1.cell 1
theorem ABx.c2 (h:ABx w0 w g a B d T t):w.cell? ⟨g,2,none⟩=some (.int .i64 a.n):=h.1.cell 2
theorem ABx.c3 (h:ABx w0 w g a B d T t):w.cell? ⟨g,3,none⟩=some (.int .u8 a.k):=h.1.cell 3
theorem ABx.c4 (h:ABx w0 w g a B d T t):w.cell? ⟨g,4,none⟩=some (.int .i64 a.l):=h.1.cell 4
theorem ABx.c5 (h:ABx w0 w g a B d T t):w.cell? ⟨g,5,none⟩=some (.int .i64 a.s):=h.1.cell 5
theorem ABx.c6 (h:ABx w0 w g a B d T t):w.cell? ⟨g,6,none⟩=some (.slice B a.b.length d):=h.1.cell 6
theorem ABx.c7 (h:ABx w0 w g a B d T t):w.cell? ⟨g,7,none⟩=some (.slice T a.ns.length t):=h.1.cell 7
theorem ABx.lt (h:ABx w0 w g a B d T t):g < w.heap.size:=h.1.lt
theorem ABx.bts (h:ABx w0 w g a B d T t):Bts w B a.b.length a.b:=h.2.1.bts
theorem TBx.do_ (h:TBx w0 w g L A n c) (hR:Rt ⟨32,L⟩) (hu:New w u) (kk:Nat) (sp st:ByteArray) (av nv:Int) (Ab:Option Addr) (bl bc:Nat) (ab:List Nat) (hs:sp.size≤1048576) (ht:st.size≤1048576) (hab:Bts u Ab bl ab) (hbl:bl≤140737488355328):
  Calls Tryz.prog 16 #[.agg #[.int .i64 32,.slice A n c],.agg #[.int .u8 kk,.string sp,.string st,.int .i64 av,.int .i64 nv,.slice Ab bl bc]] u
   (DoP u 32 u.heap.size none (doF ⟨32,L⟩ ⟨kk,sp,st,av,nv,ab⟩).1.l (doF ⟨32,L⟩ ⟨kk,sp,st,av,nv,ab⟩).2):=by
 obtain⟨es,h1,h2,h3⟩:=h.in_
 have:=mDo_any 32 A n c es kk sp st av nv Ab bl bc ab u (h1.new hu) h2 (by rw[h3];exact hR) hs ht hab hbl
 rw[h3] at this;exact this
theorem TBx.node (h:TBx w0 w g L A n c) (hR:Rt ⟨32,L⟩) (hu:New w u) (j:Nat):Calls Tryz.prog 25 #[.agg #[.int .i64 32,.slice A n c],.int .i64 j] u (zaw u (noI L j)):=by
 obtain⟨es,h1,h2,h3⟩:=h.in_
 have h48:n≤48:=by have:=hR.len;simp only at this;rwa [←h3,zab,h2] at this
 have:=zam 32 A n c es j u (h1.new hu) h2 (by omega)
 rw[h3] at this;exact this
theorem TBx.len (h:TBx w0 w g L A n c):L.length=n:=by
 obtain⟨es,_,h2,h3⟩:=h.in_;rw[←h3,zab,h2]
theorem TBx.get (h:TBx w0 w g L A n c) {k:Nat} {x:ND} (hk:L[k]?=some x):∃(bk o:Nat) (e:NE),A=some ⟨bk,o,none⟩∧k < n∧e.n=x∧∀u,New w u→NOk u e ∧
  u.cell? ⟨bk,o+k*5,none⟩=some (.int .i64 e.n.i)∧u.cell? ⟨bk,o+k*5+1,none⟩=some (.int .u8 e.n.k)∧u.cell? ⟨bk,o+k*5+2,none⟩=some (.int .i64 e.n.l) ∧
  u.cell? ⟨bk,o+k*5+3,none⟩=some (.slice e.A e.n.ns.length e.c)∧u.cell? ⟨bk,o+k*5+4,none⟩=some (.slice e.B e.n.b.length e.d):=by
 obtain⟨es,h1,h2,h3⟩:=h.in_
 have hl:k < es.length:=by
  have:=(List.getElem?_eq_some_iff.1 hk).1
  rwa [←h3,zab] at this
 obtain⟨bk,o,e,rfl,he⟩:=h1.pos hl;refine⟨bk,o,e,rfl,by omega,?_,fun u hu=>(h1.new hu).get he⟩
 have:=zbc he
 rw[h3,hk] at this
 injection this with this
 exact this.symm
end
theorem two_box {w0 u we:World} {A3:Option Addr} {c3:Nat} {es3:List NE} {B3:Option Addr} {d3:Nat} {T3:Option Addr} {t3:Nat} {L:List ND} {a:AN} (hN:New w0 u) (hL:nds es3=L) (hO:TOwn we u.heap.size A3 c3 es3)
  (hB:OwnB we 5 u.heap.size B3 d3 a.b) (hX:Txs we T3 a.ns.length a.g) (hK:Kept (zak none) u we) (hA:∀x,T3=some x→At we x.block 9):
  ∃w5 gu ga,((we.alloc (.cells #[.int .i64 32,.slice A3 es3.length c3] 25)).alloc (.cells #[.int .i64 a.e,.int .i64 a.i,.int .i64 a.n,.int .u8 a.k,.int .i64 a.l,.int .i64 a.s,.slice B3 a.b.length d3,.slice T3 a.ns.length t3] 41))=w5 ∧
   we.heap.size=gu∧gu+1=ga∧New u w5∧LT w0 w5 gu 32 L∧LA w0 w5 ga a:=by
 have k3:New u we:=hK.mono (fun _ _ ⟨a,e,_⟩=>by cases e);have hP:=lt_two (w0:=w0) (p:=32) (n:=es3.length) (c:=c3) (a:=a) (m:=a.b.length) (q:=a.ns.length) (t':=t3) hO hN.size rfl hL hB hN.size rfl hX hA rfl (hN.new k3);exact⟨_,_,_,rfl,rfl,rfl,k3.new ((kR.alloc _).alloc _),hP.1,hP.2⟩
end
end Go.Proofs.YtjjamoemheljdaaGreat
