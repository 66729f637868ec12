/-
  ModelFresh: what is answered is new memory; where what comes in is of bulk at most 1048576.
-/
import Derived.Test.YtjjamoemheljdaaGreatC54
import Derived.SizedLaws
import Derived.ChangeOld
import Derived.ShutString
namespace Go.Proofs.YtjjamoemheljdaaGreat
set_option linter.unusedSimpArgs false
set_option linter.unusedVariables false
section
open Go.ChangeShapes Go.WideShapes Go.ChangeAt Go.RowKit
section
variable {H:Type} {enc:TypeId×Value→H} {P:Program}
theorem Args.cons_ {W:World} {base:Nat} {t:TypeId} {ts:List TypeId} {vs:List Value} {ds:List (DataW H)} (h:Args enc P W base (t::ts) vs ds):
  ∃v vs' d ds' p,vs=v::vs'∧ds=d::ds'∧Arg enc P W base t v d p∧Args enc P W base ts vs' ds':=by
 cases vs<;>cases ds<;>simp[Args] at h
 obtain⟨⟨p,h1⟩,h2⟩:=h;exact⟨_,_,_,_,p,rfl,rfl,h1,h2⟩
theorem Args.nil_ {W:World} {base:Nat} {vs:List Value} {ds:List (DataW H)} (h:Args enc P W base [] vs ds):vs=[]∧ds=[]:=by
 cases vs<;>cases ds<;>simp[Args] at h
 exact⟨rfl,rfl⟩
end
end
section
open Go.ChangeShapes Go.WideShapes Go.ChangeAt Go.RowKit
def OwnR (w:World) (B:Nat) (A:Option Addr) (c n:Nat):Prop:=
 (A=none∧c=0∧n=0)∨∃(g:Nat) (xs:List Nat),A=some ⟨g,0,none⟩∧B≤g∧Blk w g 5 (xs.map byt)∧(∀x∈xs,x < 256)∧xs.length=c∧n≤c∧c≤maxLen
theorem OwnB.ownR {w:World} {B:Nat} {A:Option Addr} {c:Nat} {l:List Nat} (h:OwnB w 5 B A c l):OwnR w B A c l.length:=by
 rcases h with ⟨hb,⟨rfl,rfl,rfl⟩|⟨g,sp,rfl,hB,hblk,hsp,hc,hm⟩⟩
 ·exact .inl ⟨rfl,rfl,rfl⟩
 ·refine .inr ⟨g,l++sp,rfl,hB,hblk,fun x hx=>?_,by rw[List.length_append];omega,by omega,hm⟩
  rcases List.mem_append.1 hx with h|h
  ·exact hb x h
  ·exact hsp x h
theorem OwnR.kept {S:Nat→Prop} {w w':World} {B c n:Nat} {A:Option Addr} (h:OwnR w B A c n) (hk:Kept S w w') (hn:∀a,A=some a→¬S a.block):OwnR w' B A c n:=by
 rcases h with h|⟨g,xs,rfl,h1,h2,h3⟩
 ·exact .inl h
 ·exact .inr ⟨g,xs,rfl,h1,h2.kept hk (hn _ rfl),h3⟩
theorem OwnR.at_ {w:World} {B c n:Nat} {A:Option Addr} (h:OwnR w B A c n):∀a,A=some a→At w a.block 5∧B≤a.block:=by
 rintro a rfl
 rcases h with ⟨h,_⟩|⟨g,xs,h,hB,hblk,_⟩
 ·cases h
 ·injection h with h;subst h;exact⟨hblk.at_,hB⟩
theorem set_byt (xs:List Nat) (k y:Nat) (v:Value) (hv:v=byt y):(xs.map byt).set k v=(xs.set k y).map byt:=by
 subst hv;rw[List.map_set]
def SpoilQ (w:World) (A:Option Addr) (c:Nat) (e:Ending) (w':World):Prop:=
 e=.returned (.tuple #[])∧Kept (zak A) w w'∧∀g,A=some ⟨g,0,none⟩→∃xs:List Nat,xs.length=c∧(∀x∈xs,x < 256)∧Blk w' g 5 (xs.map byt)
set_option maxRecDepth 100000 in
set_option maxHeartbeats 800000 in
theorem spoilR_any (A:Option Addr) (c B by_ n:Nat) (w:World) (h:OwnR w B A c n):
  Calls Tryz.prog 28 #[.slice A n c,.int .u8 (by_:Nat)] w (SpoilQ w A c):=by
 rcases h with ⟨rfl,rfl,rfl⟩|⟨g,ys,rfl,hB,hblk,hall,hlen,hle1,hm⟩
 ·go_enter Tryz.func28,Tryz.ntmps28;go_wp2;refine wp_loop_rounds 1 ?_;rw[rounds_succ];go_wp2
  go_end0
  exact⟨rfl,kR,fun g h=>by cases h⟩
 ·have HB:=jH hblk;have HA:=jH hall;have HLen:=jH hlen;unfold maxLen at hm;clear hblk hall hlen;go_enter Tryz.func28,Tryz.ntmps28;go_wp2
  go_loopw [5] (fun i wr=>∃(k:Nat) (xs:List Nat),k≤c∧i=.int .i64 k∧xs.length=c∧(∀x∈xs,x < 256)∧Blk wr g 5 (xs.map byt)∧Kept (zak (some ⟨g,0,none⟩)) w wr) (fun i _=>c - (intOf i).toNat)
  case atStart=>exact⟨0,ys,by omega,rfl,HLen.out,HA.out,HB.out,kR⟩
  case round=>
   obtain⟨k,xs,hk,rfl,hl,hbd,hblk,hkept⟩:=hrel;have HL:=jH hl;have HBD:=jH hbd;have HBK:=jH hblk;have HK:=jH hkept;clear hl hbd hblk hkept HB HA HLen
   by_cases hlt:k < c
   ·have hkl:k < xs.length:=by rw[HL.out];exact hlt
    have hcell:wr.cell? ⟨g,k,none⟩=some (.int .u8 (xs[k]:Nat)):=by
     rw[HBK.out.cell,List.getElem?_map,List.getElem?_eq_getElem hkl]
     rfl
    have hxk:xs[k] < 256:=HBD.out _ (List.getElem_mem hkl);have hfree:=HBK.out.free k;generalize xs[k]=x at *;go_wp2;go_roundw
    case rel=>
     have hb1:=HBK.out.put k (.int .u8 (((x:Int)+by_) % 256));rw[set_byt xs k ((x+by_) % 256) (.int .u8 (((x:Int)+by_) % 256)) (by unfold byt;rfl)] at hb1;refine⟨k+1,xs.set k ((x+by_) % 256),by omega,by go_num,by rw[List.length_set,HL.out],?_,hb1,HK.out.setCell (p:=⟨g,k,none⟩) (fun _=>⟨⟨g,0,none⟩,rfl,rfl⟩) _⟩;intro y hy
     rcases List.mem_or_eq_of_mem_set hy with h|h
     ·exact HBD.out y h
     ·omega
    case measure=>simp[intOf];omega
   ·go_wp2
    go_end0
    refine⟨rfl,HK.out,fun g' hg'=>?_⟩
    injection hg' with hg'
    injection hg' with hg'
    subst hg';exact⟨xs,HL.out,HBD.out,HBK.out⟩
theorem OwnR.spoilt {w w':World} {B B' c c' n n':Nat} {A A':Option Addr} {e:Ending} (h:OwnR w B A' c' n') (h0:OwnR w B' A c n) (hs:SpoilQ w A c e w'):OwnR w' B A' c' n':=by
 by_cases hA:∀a,A'=some a→¬zak A a.block
 ·exact h.kept hs.2.1 hA
 ·rcases h with h|⟨g,xs,rfl,h1,h2,h3,h4,h5⟩
  ·exact .inl h
  ·have hg:zak A g:=Classical.byContradiction fun hh=>hA fun a ha=>by injection ha with ha;subst ha;exact hh
   obtain⟨a,rfl,ha⟩:=hg
   rcases h0 with ⟨h,_⟩|⟨g',ys,h,_,k2,_,k4,_⟩
   ·cases h
   ·injection h with h
    subst h;have ha:g'=g:=ha;subst ha;obtain⟨zs,z1,z2,z3⟩:=hs.2.2 g' rfl
    have:(ys.map byt).length=(xs.map byt).length:=by
     unfold Blk at h2 k2;rw[h2] at k2
     injection k2 with k2
     injection k2 with k2
     have:=congrArg Array.size k2
     simpa using this.symm
    rw[List.length_map,List.length_map,k4,h4] at this;exact .inr ⟨g',zs,rfl,h1,z3,z2,by rw[z1];exact this,h5⟩
theorem do_small {T:TT} (h:Rt T) (c:AC):(doF T c).2.b.length≤1000000∧(doF T c).2.ns.length≤1000000:=by
 have hn:∀j n,ndI T.l j=some n→n.b.length≤2040∧n.ns.length≤288:=fun j n hj=>⟨h.b_le (zaa hj).1,h.ns_le (zaa hj).1⟩
 have he:∀e,(erA e).b.length≤1000000∧(erA e).ns.length≤1000000:=fun e=>⟨by simp[erA],by simp[erA]⟩
 unfold doF
 repeat' split
 all_goals (try exact he _)
 all_goals
  unfold actF
  repeat' split
 all_goals (try exact he _)
 all_goals (try (unfold mkF;repeat' split))
 all_goals (try (unfold rmF;repeat' split))
 all_goals (try (unfold lnF;repeat' split))
 all_goals (try (unfold ulF;repeat' split))
 all_goals (try (unfold mvF;repeat' split))
 all_goals (try exact he _)
 all_goals (try (constructor<;>(simp[erA];done)))
 all_goals (try (
  unfold lsF
  split
  ·exact he _
  ·refine⟨by simp[erA],?_⟩
   have:=hn _ _ (by assumption)
   simp only[List.length_map]
   omega))
 all_goals
  unfold bytF
  repeat' split
 all_goals (try exact he _)
 all_goals (try (constructor<;>(simp[erA];done)))
 all_goals
  have:=hn _ _ (by assumption)
  refine⟨?_,by simp[erA]⟩;simp only[List.length_take,List.length_drop];omega
section
variable {w0 w0' w w' u:World} {g g' n c m d d' t t':Nat} {L:List ND} {A B T T':Option Addr} {a:AN}
theorem TBx.rdo_ (h:TBx w0 w g L A n c) (hR:Rt ⟨32,L⟩) (hu:New w u) (kk:Nat) (sp st:ByteArray) (av nv:Int) (Ab:Option Addr) (bl bc:Nat) (ab:List Nat) (hk:kk < 256) (hs:sp.size≤1048576) (ht:st.size≤1048576) (hab:Bts u Ab bl ab):
  Calls Tryz.prog 17 #[.agg #[.int .i64 32,.slice A n c],.agg #[.int .u8 kk,.string sp,.string st,.int .i64 av,.int .i64 nv,.slice Ab bl bc]] u
   (DoP u 32 u.heap.size none (doF ⟨32,L⟩ ⟨kk,sp,st,av,nv,ab⟩).1.l (doF ⟨32,L⟩ ⟨kk,sp,st,av,nv,ab⟩).2):=by
 obtain⟨es,h1,h2,h3⟩:=h.in_
 have:=rdo_any 32 A n c es kk sp st av nv Ab bl bc ab u (h1.new hu) h2 (by rw[h3];exact hR) hk hs ht hab
 rw[h3] at this;exact this
theorem TBx.rsame (h:TBx w0 w g L A n c) (h':TBx w0' w' g' L B m d) (hR:Rt ⟨32,L⟩) (hu:New w u) (hu':New w' u):
  Calls Tryz.prog 12 #[.agg #[.int .i64 32,.slice A n c],.agg #[.int .i64 32,.slice B m d]] u (zbt u true):=by
 obtain⟨es,h1,h2,h3⟩:=h.in_;obtain⟨fs,k1,k2,k3⟩:=h'.in_
 have hl:m=n:=by rw[←k2,←h2,←zab fs,←zab es,k3,h3]
 subst hl
 have h48:m≤48:=by have:=hR.len;simp only at this;rwa [←h3,zab,h2] at this
 exact rsame_any 32 A B m c d es fs u (h1.new hu) (k1.new hu') h2 k2 (by rw[h3,k3]) (by omega) (fun x hx=>by
  have hx':x.n∈L:=by rw[←h3];exact zay hx
  have h5:=hR.ns_le hx';have h6:=hR.b_le hx'
  exact⟨by omega,by omega⟩)
theorem TBx.rcopy (h:TBx w0 w g L A n c) (hR:Rt ⟨32,L⟩) (hu:New w u):Calls Tryz.prog 15 #[.agg #[.int .i64 32,.slice A n c]] u (fun e w'=>∃A' c' es,e=.returned (.agg #[.int .i64 32,.slice A' es.length c'])∧nds es=L∧TOwn w' u.heap.size A' c' es∧New u w'):=by
 obtain⟨es,h1,h2,h3⟩:=h.in_
 have:=zau 32 A n c es u (h1.new hu) h2 (by rw[h3];exact hR)
 rw[h3] at this;exact this
theorem ABx.answers (h:ABx w0 w g a B d T t) (h':ABx w0' w' g' a A d' T' t') (hb:a.b.length≤1000000∧a.ns.length≤1000000) (hu:New w u) (hu':New w' u):
  Calls Tryz.prog 18
   #[.agg #[.int .i64 a.e,.int .i64 a.i,.int .i64 a.n,.int .u8 a.k,.int .i64 a.l,.int .i64 a.s,.slice B a.b.length d,.slice T a.ns.length t],
    .agg #[.int .i64 a.e,.int .i64 a.i,.int .i64 a.n,.int .u8 a.k,.int .i64 a.l,.int .i64 a.s,.slice A a.b.length d',.slice T' a.ns.length t']] u (zbt u true):=
 ranswers_any a B A T T' d d' t t' u ⟨h.2.1.bts.new hu,h.2.2.1.new hu⟩ ⟨h'.2.1.bts.new hu',h'.2.2.1.new hu'⟩ hb.1 hb.2
end
theorem TOwn.cellB {S:Nat→Prop} {w w':World} {B c:Nat} {A:Option Addr} {es:List NE} (h:TOwn w B A c es) (hk:Kept S w w') (hS:∀b,S b→At w b 5) {k:Nat} (hl:k < es.length):
  ∃(g o:Nat) (e:NE),A=some ⟨g,o,none⟩∧es[k]?=some e∧w'.cell? ⟨g,o+k*5+4,none⟩=some (.slice e.B e.n.b.length e.d):=by
 have h1:=h.1.kept hk fun x hx hs=>(h.1.at_ x hx).1.ne_of (hS _ hs) (by decide) rfl
 obtain⟨_,h2⟩:=h1.row;obtain⟨g,o,rfl,hat⟩:=h2 (by omega);have he:es[k]?=some es[k]:=List.getElem?_eq_getElem hl;refine⟨g,o,es[k],rfl,he,?_⟩;rw[Nat.add_assoc];exact hat _ _ (flt_at zcy he (by omega) rfl)
theorem TOwn.ownR {w:World} {B c:Nat} {A:Option Addr} {es:List NE} (h:TOwn w B A c es):∀e∈es,OwnR w B e.B e.d e.n.b.length:=fun e he=>(h.2 e he).2.ownR
theorem one_box {w0 u we:World} {A3:Option Addr} {c3:Nat} {es3:List NE} {L:List ND} (hN:New w0 u) (hL:nds es3=L) (hO:TOwn we u.heap.size A3 c3 es3) (hK:New u we):
  ∃w5 gu,we.alloc (.cells #[.int .i64 32,.slice A3 es3.length c3] 25)=w5∧we.heap.size=gu∧New u w5∧LT w0 w5 gu 32 L:=by
 have hk:=(Kept.refl (fun _=>False) we).alloc (.cells #[.int .i64 32,.slice A3 es3.length c3] 25);exact⟨_,_,rfl,rfl,hK.new hk,A3,c3,es3,Blk.made we _ _,(hO.mono hN.size).new hk,hL,(hN.new hK).new hk,(hN.new hK).size⟩
end
end Go.Proofs.YtjjamoemheljdaaGreat

namespace Go.Proofs.YtjjamoemheljdaaGreat.modelFresh
set_option linter.unusedSimpArgs false
set_option linter.unusedVariables false
open Go.ChangeShapes Go.WideShapes Go.ChangeAt Go.RowKit
theorem own:ownKnob Tryz.prog.godebug=none:=by kernel_rfl
theorem laidOut:laidOutB Tryz.prog=true:=by kernel_rfl
set_option maxRecDepth 100000 in
set_option maxHeartbeats 6400000 in
theorem walk (A:Option Addr) (n c:Nat) (al:List AC) (a:AC) (Ab:Option Addr) (bl bc:Nat) (w:World) (hl:ActsC w A n al) (_:n≤c) (_:c≤maxLen) (ha:ActIn w a Ab bl) (_:True):
  Calls Tryz.prog 9 #[.slice A n c,.agg #[.int .u8 ((a.k:Nat):Int),.string a.p,.string a.t,.int .i64 a.a,.int .i64 a.n,.slice Ab bl bc]] w (True1 w):=by
 have HRT:Hid (Rt (playT (al.take 30))):=playT_rt fun x hx=>hl.byt x (List.mem_of_mem_take hx)
 obtain⟨T9,hT9⟩:∃T9,T9=playT (al.take 30):=⟨_,rfl⟩
 have HE:Hid ((⟨32,T9.l⟩:TT)=T9):=by rw[hT9];exact playT_eta _
 have H32:Hid (T9.p=32):=by rw[hT9];exact playT_p _
 obtain⟨w1,hw1⟩:∃w1,w1=w.alloc (.cells #[.int .u8 ((a.k:Nat):Int),.string a.p,.string a.t,.int .i64 a.a,.int .i64 a.n,.slice Ab bl bc] 34):=⟨_,rfl⟩
 have n1:New w w1:=by rw[hw1];exact kR.alloc _
 have HBA:Hid (Blk w1 w.heap.size 34 [.int .u8 ((a.k:Nat):Int),.string a.p,.string a.t,.int .i64 a.a,.int .i64 a.n,.slice Ab bl bc]):=by rw[hw1];exact jH (Blk.made w _ _)
 have N1:=jH n1;have HW:=jH hw1;have CP:=jH (mplayed_yes A n c al w1 (hl.new n1));rw[←hT9] at CP HRT;clear hT9;have HAC:=jH ha;clear hl n1 hw1 ha;go_enter Tryz.func9,Tryz.ntmps9;go_wp2_with fail;rw[←HW.out];refine CP.out.mono ?_;rintro e w2 ⟨A3,c3,es3,rfl,hL3,hO3,hN3⟩;clear HW CP
 obtain⟨w3,g3,hZ,hg,k3,hB3,hT3⟩:∃w3 g3,w2.alloc (.cells #[.int .i64 32,.slice A3 es3.length c3] 25)=w3∧w2.heap.size=g3∧New w2 w3∧TBx w w3 g3 T9.l A3 es3.length c3∧LT w w3 g3 32 T9.l:=by
  have hk:=(Kept.refl (fun _=>False) w2).alloc (.cells #[.int .i64 32,.slice A3 es3.length c3] 25);have hO4:=(hO3.mono N1.out.size).new hk;exact⟨_,_,rfl,rfl,hk,⟨Blk.made w2 _ _,es3,hO4,rfl,hL3⟩,A3,c3,es3,Blk.made w2 _ _,hO4,hL3,(N1.out.new hN3).new hk,(N1.out.new hN3).size⟩
 have HB3:=jH hB3;have HT3:=jH hT3;have HN:=jH ((N1.out.new hN3).new k3);clear hB3 hT3 hL3 hO3;have HBX:=jH ((HBA.out.kept hN3 id).kept k3 id);clear HBA N1 hN3 k3
 have HRL:Hid (Rt ⟨32,T9.l⟩):=by rw[HE.out];exact HRT
 have hb:=HB3.out;have b0:=hb.c0;have b1:=hb.c1;have hlt:=hb.lt;have CC:=jH (hb.rcopy HRL.out kR);clear hb HB3
 go_upto_region 3 with (go_at_call 15;refine CC.out.mono ?_;rintro e we ⟨A4,c4,es4,rfl,hL4,hO4,hN4⟩)
 clear hZ hg b0 b1 hlt CC;have hQ:=jH (one_box HN.out hL4 hO4 hN4);clear hL4 hO4 hN4;obtain⟨w4,gw,hZ,hg,hk,hT⟩:=hQ.out;rw[hZ,hg];clear hZ hg hQ;have HTw:=jH hT;replace HN:=jH (HN.out.new hk);replace HT3:=jH (HT3.out.new hk);replace HBX:=jH (HBX.out.kept hk id);have hbt:=HAC.out.1.new HN.out;clear hT hk;obtain⟨c0,c1,c2,c3',c4,c5⟩:=HBX.out.p6;have hlx:=HBX.out.lt;obtain⟨A1,n1,cz,hb⟩:=HT3.out.bx;have b0:=hb.c0;have b1:=hb.c1;have hlt:=hb.lt;have CD:=jH (hb.do_ HRL.out kR a.k a.p a.t a.a a.n Ab bl bc a.b HAC.out.2.2.2.1 HAC.out.2.2.2.2 hbt (Nat.le_trans HAC.out.2.1 (by decide)));clear hb;obtain⟨Rx,hRx⟩:∃r,r=doF ⟨32,T9.l⟩ ⟨a.k,a.p,a.t,a.a,a.n,a.b⟩:=⟨_,rfl⟩
 rw[←hRx] at CD;have HRx:=jH hRx;clear hRx
 go_upto_region 4 with (go_at_call 16;refine CD.out.mono ?_;rintro e we ⟨A3,c3,es3,B3,d3,T3,t3,rfl,hL3,hO3,hB3,hX3,hK3,hA3⟩)
 have hQ:=jH (two_box (w0:=w4) (t3:=t3) kR hL3 hO3 hB3 hX3 hK3 hA3);clear hL3 hO3 hB3 hX3 hK3 hA3 CD b0 b1 hlt c0 c1 c2 c3' c4 c5 hlx hbt;obtain⟨w5,gu,gx,hZ,hg,hg2,hk,hT,hA⟩:=hQ.out;rw[hZ,hg,hg2];clear hZ hg hg2 hQ;obtain⟨Au,nu,cu,hU⟩:=hT.bx;obtain⟨Bx,dx,Tx,tx,hX⟩:=hA.bx;have HK5:=jH hk;clear hT hA hk;have HD:Hid (Rx=doF T9 a):=jH (by rw[HRx.out,HE.out])
 have HRU:Hid (Rt ⟨32,Rx.1.l⟩):=by
  have h1:=do_eta T9 a;rw[H32.out] at h1;rw[HD.out,h1];exact rt_do HRT a HAC.out.1.2.1
 obtain⟨hU1,es,hU2,hU3,hU4⟩:=hU;have HU48:Hid (nu≤48):=jH (by have:=HRU.out.len;simp only at this;rwa [←hU4,zab,hU3] at this);clear hU4;obtain⟨hX1,hX2,_,_⟩:=hX;have HU1:=jH hU1;have HU2:=jH hU2;have HU3:=jH hU3;have HX1:=jH hX1;have HX2:=jH hX2;have HR5:Hid (∀e∈es,OwnR w5 w4.heap.size e.B e.d e.n.b.length):=jH hU2.ownR;have HXR:Hid (OwnR w5 w4.heap.size Bx dx Rx.2.b.length):=jH hX2.ownR
 obtain⟨S,hS⟩:∃S:Nat→Prop,S=fun b=>w4.heap.size≤b∧At w5 b 5:=⟨_,rfl⟩
 have HSI:Hid (∀b,S b↔w4.heap.size≤b∧At w5 b 5):=jH (fun b=>by rw[hS]);have HSG:Hid (¬S gu∧¬S gx):=jH ⟨fun h=>hU1.at_.ne_of ((HSI.out _).1 h).2 (by decide) rfl,fun h=>hX1.at_.ne_of ((HSI.out _).1 h).2 (by decide) rfl⟩;have HSB:Hid (∀(B:Option Addr) (d m:Nat),OwnR w5 w4.heap.size B d m→∀i,zak B i→S i):=jH (fun B d m h i ⟨q,hq,hi⟩=>(HSI.out i).2 (by have:=h.at_ q hq;rw[hi] at this;exact⟨this.2,this.1⟩));clear hU1 hU2 hU3 hX1 hX2 hS;go_wp2_with fail
 go_loopw [9] (fun i wx=>∃k:Nat,k≤nu∧i=.int .i64 k∧Hid (Kept S w5 wx)∧Hid (∀e∈es,OwnR wx w4.heap.size e.B e.d e.n.b.length)∧Hid (OwnR wx w4.heap.size Bx dx Rx.2.b.length)) (fun i _=>nu - (intOf i).toNat)
 case atStart=>exact⟨0,Nat.zero_le _,rfl,kR,HR5,HXR⟩
 case round=>
  obtain⟨k,hk,rfl,hkr,hro,hxo⟩:=hrel;have u1:=(HU1.out.kept hkr.out HSG.out.1).q1;have ult:=(HU1.out.kept hkr.out HSG.out.1).lt;have h48:nu≤48:=HU48.out
  by_cases hlt:k < nu
  ·have hl1:((k:Nat):Int) < ((nu:Nat):Int):=by omega
   have hk2:Hid (k+1≤nu):=hlt;obtain⟨gN,oN,e1,rfl,he1,hec⟩:=HU2.out.cellB hkr.out (fun b hb=>((HSI.out b).1 hb).2) (k:=k) (by rw[HU3.out];exact hlt);have hm1:=List.mem_of_getElem? he1;have CS:=jH (spoilR_any e1.B e1.d w4.heap.size 9 e1.n.b.length wr (hro.out e1 hm1));have HM1:=jH hm1;clear he1 hm1;go_wp2_with fail;refine CS.out.mono ?_;rintro e wy hq;have hkq:Kept S w5 wy:=hkr.out.trans hq.2.1 (fun i _ q=>HSB.out _ _ _ (HR5.out e1 HM1.out) i q);have hr2:Hid (∀e∈es,OwnR wy w4.heap.size e.B e.d e.n.b.length):=jH (fun e' he'=>(hro.out e' he').spoilt (hro.out e1 HM1.out) hq);have hx2:Hid (OwnR wy w4.heap.size Bx dx Rx.2.b.length):=jH (hxo.out.spoilt (hro.out e1 HM1.out) hq)
   have HKQ:=jH hkq;obtain⟨rfl,_⟩:=hq;clear hkq;go_wp2_with fail;go_roundw
   case rel=>exact⟨k+1,hk2.out,by go_num,HKQ,hr2,hx2⟩
   case measure=>have:=hk2.out;simp[intOf];omega
  ·have hl1:¬((k:Nat):Int) < ((nu:Nat):Int):=by omega
   have x6:=(HX1.out.kept hkr.out HSG.out.2).q6;have xlt:=(HX1.out.kept hkr.out HSG.out.2).lt;have CS:=jH (spoilR_any Bx dx w4.heap.size 9 Rx.2.b.length wr hxo.out);go_wp2_with fail;refine CS.out.mono ?_;rintro e w6 ⟨rfl,hk6,_⟩;have hkq:Kept S w5 w6:=hkr.out.trans hk6 (fun i _ q=>HSB.out _ _ _ HXR.out i q);have hk:New w4 w6:=HK5.out.trans hkq (fun i hi q=>absurd ((HSI.out i).1 q).1 (Nat.not_le.2 hi));replace HN:=jH (HN.out.new hk);replace HT3:=jH (HT3.out.new hk);replace HTw:=jH (HTw.out.new hk);replace HBX:=jH (HBX.out.kept hk id);clear hkq hk hk6 CS x6 xlt u1 ult hkr hro hxo hl1 HSB HSI HSG HXR HR5 HX1 HX2 HU1 HU2 HU3
   have hbt:=HAC.out.1.new HN.out;obtain⟨c0,c1,c2,c3',c4,c5⟩:=HBX.out.p6;have hlx:=HBX.out.lt;obtain⟨A1,n1,cz,hb⟩:=HT3.out.bx;have b0:=hb.c0;have b1:=hb.c1;have hlt:=hb.lt;have CD:=jH (hb.do_ HRL.out kR a.k a.p a.t a.a a.n Ab bl bc a.b HAC.out.2.2.2.1 HAC.out.2.2.2.2 hbt (Nat.le_trans HAC.out.2.1 (by decide)));clear hb;obtain⟨Ry,hRy⟩:∃r,r=doF ⟨32,T9.l⟩ ⟨a.k,a.p,a.t,a.a,a.n,a.b⟩:=⟨_,rfl⟩;rw[←hRy] at CD;have HRy:=jH hRy;clear hRy
   go_upto_region 10 with (go_at_call 16;refine CD.out.mono ?_;rintro e we ⟨A3,c3,es3,B3,d3,T3,t3,rfl,hL3,hO3,hB3,hX3,hK3,hA3⟩)
   have hQ:=jH (two_box (t3:=t3) HN.out hL3 hO3 hB3 hX3 hK3 hA3);clear hL3 hO3 hB3 hX3 hK3 hA3 CD b0 b1 hlt;obtain⟨w7,gv,gay,hZ,hg,hg2,hk,hT,hA⟩:=hQ.out;rw[hZ,hg,hg2];clear hZ hg hg2 hQ;have HTv:=jH hT;have HAy:=jH hA;replace HN:=jH (HN.out.new hk);clear hT hA;replace HT3:=jH (HT3.out.new hk);replace HTw:=jH (HTw.out.new hk);replace HBX:=jH (HBX.out.kept hk id);clear c0 c1 c2 c3' c4 c5 hlx hbt;clear hk;have hbt:=HAC.out.1.new HN.out;obtain⟨c0,c1,c2,c3',c4,c5⟩:=HBX.out.p6;have hlx:=HBX.out.lt;obtain⟨A1,n1,cz,hb⟩:=HTw.out.bx;have b0:=hb.c0;have b1:=hb.c1;have hlt:=hb.lt;have CD:=jH (hb.rdo_ HRL.out kR a.k a.p a.t a.a a.n Ab bl bc a.b HAC.out.2.2.1 HAC.out.2.2.2.1 HAC.out.2.2.2.2 hbt)
   clear hb;obtain⟨Rr,hRr⟩:∃r,r=doF ⟨32,T9.l⟩ ⟨a.k,a.p,a.t,a.a,a.n,a.b⟩:=⟨_,rfl⟩;rw[←hRr] at CD;have HRr:=jH hRr;clear hRr
   go_upto_region 11 with (go_at_call 17;refine CD.out.mono ?_;rintro e we ⟨A3,c3,es3,B3,d3,T3,t3,rfl,hL3,hO3,hB3,hX3,hK3,hA3⟩)
   have hQ:=jH (two_box (t3:=t3) HN.out hL3 hO3 hB3 hX3 hK3 hA3);clear hL3 hO3 hB3 hX3 hK3 hA3 CD b0 b1 hlt;obtain⟨w8,gz,gar,hZ,hg,hg2,hk,hT,hA⟩:=hQ.out;rw[hZ,hg,hg2];clear hZ hg hg2 hQ;have HTz:=jH hT;have HAr:=jH hA;replace HN:=jH (HN.out.new hk);clear hT hA;replace HT3:=jH (HT3.out.new hk);replace HTw:=jH (HTw.out.new hk);replace HTv:=jH (HTv.out.new hk);replace HAy:=jH (HAy.out.new hk);replace HBX:=jH (HBX.out.kept hk id);clear c0 c1 c2 c3' c4 c5 hlx hbt;clear hk
   have hyr:Rr=Ry:=by rw[HRr.out,HRy.out]
   have HRV:Hid (Rt ⟨32,Ry.1.l⟩):=by rw[HRy.out,←HRx.out];exact HRU
   have HSM:Hid (Ry.2.b.length≤1000000∧Ry.2.ns.length≤1000000):=jH (by rw[HRy.out];exact do_small HRL.out _);rw[hyr] at HTz HAr;clear hyr;obtain⟨A1,n1,c1,hS⟩:=HT3.out.bx;obtain⟨A2,n2,c2,hW⟩:=HTw.out.bx;obtain⟨A3,n3,c3,hV⟩:=HTv.out.bx;obtain⟨A4,n4,c4,hZ⟩:=HTz.out.bx;obtain⟨By,dy,Ty,ty,hY⟩:=HAy.out.bx;obtain⟨Br,dr,Tr,tr,hR⟩:=HAr.out.bx;have s0:=hS.c0;have s1:=hS.c1;have slt:=hS.lt;have q0:=hW.c0;have q1:=hW.c1;have qlt:=hW.lt;have C1:=jH (hS.rsame hW HRL.out kR kR);have HV:=jH hV;have HZ:=jH hZ;have HY:=jH hY;have HR:=jH hR;clear hS hW hV hZ hY hR HT3 HTw HTv HTz HAy HAr;go_wp2_with fail;refine C1.out.mono ?_
   rintro e wa ⟨rfl,hka⟩;have HNa:=jH (HN.out.new hka);have HKa:=jH hka;have v0:=(HV.out.new hka).c0;have v1:=(HV.out.new hka).c1;have vlt:=(HV.out.new hka).lt;have z0:=(HZ.out.new hka).c0;have z1:=(HZ.out.new hka).c1;have zlt:=(HZ.out.new hka).lt;have C2:=jH (HV.out.rsame HZ.out HRV.out hka hka);clear hka C1 s0 s1 slt q0 q1 qlt;go_wp2_with fail;refine C2.out.mono ?_;rintro e wb ⟨rfl,hkb⟩;have hkb':=HKa.out.new hkb;have HNb:=jH (HNa.out.new hkb);have y0:=(HY.out.new hkb').c0;have y1:=(HY.out.new hkb').c1;have y2:=(HY.out.new hkb').c2;have y3:=(HY.out.new hkb').c3;have y4:=(HY.out.new hkb').c4;have y5:=(HY.out.new hkb').c5
   have y6:=(HY.out.new hkb').c6;have y7:=(HY.out.new hkb').c7;have ylt:=(HY.out.new hkb').lt;have r0:=(HR.out.new hkb').c0;have r1:=(HR.out.new hkb').c1;have r2:=(HR.out.new hkb').c2;have r3:=(HR.out.new hkb').c3;have r4:=(HR.out.new hkb').c4;have r5:=(HR.out.new hkb').c5;have r6:=(HR.out.new hkb').c6;have r7:=(HR.out.new hkb').c7;have rlt:=(HR.out.new hkb').lt;have C3:=jH (HY.out.answers HR.out HSM.out hkb' hkb');clear hkb hkb' C2 v0 v1 vlt z0 z1 zlt;go_wp2_with fail;refine C3.out.mono ?_;rintro e wc ⟨rfl,hkc⟩;have HNc:=jH (HNb.out.new hkc);clear hkc C3 y0 y1 y2 y3 y4 y5 y6 y7 ylt r0 r1 r2 r3 r4 r5 r6 r7 rlt
   go_wp2_with fail;refine (mlives_any _).mono ?_;rintro e wd ⟨rfl,hkd⟩;have HNd:=jH (HNc.out.new hkd);clear hkd;go_wp2_with fail
   try simp only[Exit.then]
   refine bodyPost_ret (by simp[results,Tryz.results9,go_sem];try rfl) rfl ?_;exact⟨rfl,HNd.out⟩
set_option maxRecDepth 100000 in
theorem lifted (os:Os) (started:os.Started) (H:Type) (enc:TypeId×Value→H) (F:Stop.Interp):
  ReturnsInHanded {} Tryz.checked os 9 .any ((Rows.OpenSpec.upto Rows.modelFreshSpec).pre6 enc Tryz.prog Tryz.f9 Rows.modelFreshUptoRow.domain false) (((Rows.OpenSpec.upto Rows.modelFreshSpec).at F).post enc Tryz.prog Tryz.f9 false true false false):=by
 refine lift_upto (C:=Tryz.checked) (s:=Rows.modelFreshSpec) (tb:=4) own started (by kernel_rfl) Tryz.func9
  (OpenSpec.witness (enc:=enc) (C:=Tryz.checked) (s:=Rows.OpenSpec.upto Rows.modelFreshSpec) (k:=Rows.uptoSmall) rfl false ⟨#[],#[.slice none 0 0,.agg #[.int .u8 0,.string .empty,.string .empty,.int .i64 0,.int .i64 0,.slice none 0 0]],[]⟩ 8 (by kernel_rfl) (by kernel_rfl) (by kernel_rfl)
   (x:=([.nil,.agg [.lit (.int .u8 0),.lit (.string []),.lit (.string []),.lit (.int .i64 0),.lit (.int .i64 0),.nil]],[],[])) (by kernel_rfl) rfl (by kernel_rfl))
  rfl (by kernel_rfl) Tryz.underlying4 ?_ laidOut (of_decide_eq_true (by kernel_rfl)) ?_
 ·intro ds hd
  match ds,hd with
  | [d0,d1],_=>exact⟨rfl,rfl,rfl⟩
 ·intro W base args ds hA hk;have hA:Args enc Tryz.prog W base Tryz.f9.params.toList args.toList ds:=hA;rw[Tryz.params9] at hA;obtain⟨v0,vs0,d0,ds0,p0,hargs,rfl,a0,hA⟩:=hA.cons_;obtain⟨v1,vs1,d1,ds1,p1,rfl,rfl,a1,hA⟩:=hA.cons_;obtain⟨rfl,rfl⟩:=hA.nil_
  obtain rfl:args=#[v0,v1]:=by cases args;simp_all
  obtain⟨A0,n0,c0,l0,rfl,b0,k0,m0⟩:=a0.actsC_ (bulk_at hk (by simp));obtain⟨x1,A1,n1,c1,rfl,b1⟩:=a1.actC_ (bulk_at hk (by simp));exact walk A0 n0 c0 l0 x1 A1 n1 c1 W b0 k0 m0 b1 (bulk_ok hk)
theorem proved:Rows.ModelFreshUptoSaid:=
 OpenClaim.holds_of_cond 9 Tryz.f9 rfl rfl rfl rfl rfl rfl rfl ⟨rfl,rfl,rfl,rfl,rfl⟩ rfl rfl rfl rfl rfl (by kernel_rfl) Tryz.func9 (by kernel_rfl)
  (of_decide_eq_true (by kernel_rfl)) (by unfold Func.isWrapper;first|(rw[if_pos (by decide +kernel)];kernel_rfl)|(rw[if_neg (by decide +kernel)];exact⟨rfl,rfl⟩))
  (fun os started H enc _ F=>lifted os started H enc F)
end Go.Proofs.YtjjamoemheljdaaGreat.modelFresh
