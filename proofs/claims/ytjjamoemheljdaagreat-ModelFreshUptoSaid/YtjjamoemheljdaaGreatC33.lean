/-
  Layer 7: contracts (Yv).
-/
import Derived.Test.YtjjamoemheljdaaGreatC32
namespace Go.Proofs.YtjjamoemheljdaaGreat
set_option maxRecDepth 100000
set_option maxHeartbeats 8000000
set_option linter.unusedSimpArgs false
set_option linter.unusedVariables false
section
open Go.RowKit
theorem mv_has {T:TT} (h:Rt T) {g m:List ByteArray} {q j r v:Nat} {n:ND} (hp:LkP T.l g q j) (hp2:LkP T.l m r v) (h0:j≠0) (hg:g≠[]) (hm:m≠[]) (hjv:j≠v) (hw:wayE T v n=0) {q1:ND} (hq1:ndI (zbk T r (lst m) v) q=some q1):zbn (lst g) q1.ns:=by
 obtain⟨qn,hq,_,hje,_⟩:=dir_nd h hp hg;obtain⟨rn,hr,_,hve,_⟩:=dir_nd h hp2 hm;obtain⟨hqm,hqi⟩:=zaa hq;obtain⟨hrm,hri⟩:=zaa hr
 have hent:(lst g,j)∈qn.ns:=by rw[hje];exact zcl (by rw[←hje];exact h0)
 by_cases hv:v=0
 ·have hlv:zbk T r (lst m) v=T.l:=by unfold zbk;rw[if_pos hv]
  rw[hlv,show ndI T.l q=some qn from hq] at hq1
  injection hq1 with hq1
  subst hq1;exact⟨_,hent,rfl⟩
 ·have hven:(lst m,v)∈rn.ns:=by rw[hve];exact zcl (by rw[←hve];exact hv)
  obtain⟨x,hx⟩:=ndI_of (h.ent _ hrm _ hven);obtain⟨b1,b2⟩:=zaa hx;have b2:x.i=v:=b2
  have hwx:x.ns=[]:=by
   unfold wayE at hw;rw[if_neg hv,show ndI T.l v=some x from hx] at hw;simp only at hw
   by_cases e1:x.k=n.k
   ·by_cases e2:x.ns=[]
    ·exact e2
    ·rw[if_neg (by simpa using e1),if_pos e2] at hw;simp at hw
   ·rw[if_pos e1] at hw;simp at hw
  have hlv:zbk T r (lst m) v=zba T.l r (lst m) v x.l:=by
   unfold zbk;rw[if_neg hv]
   show (match ndI T.l v with|none=>T.l|some x=>zba T.l r (lst m) v x.l)=_
   rw[show ndI T.l v=some x from hx]
  have hqv:qn.i≠v:=fun e=>by
   have:=zbe h.ord hqm b1 (by rw[b2];exact e)
   subst this;rw[hwx] at hent;cases hent
  have hR:Rt ⟨T.p,zba T.l r (lst m) v x.l⟩:=by
   have:=rt_lose h hrm b1 (nm:=lst m) (by rw[b2];exact hven) hwx
   rw[b2,hri] at this;exact this
  have hk:=zcz (q:=r) (nm:=lst m) (v:=x.l) hqm hqv;have h2:=zbf hR.ord hk;rw[hlv] at hq1
  by_cases e:qn.i=r
  ·rw[if_pos e] at h2
   have h2:ndI (zba T.l r (lst m) v x.l) q=some { qn with ns:=zaq (lst m) qn.ns }:=by rw[←hqi];exact h2
   rw[h2] at hq1
   injection hq1 with hq1
   subst hq1;refine⟨(lst g,j),zbs.2 ⟨hent,fun e2=>hjv ?_⟩,rfl⟩;have e2:lst g=lst m:=e2
   have:qn=rn:=zbe h.ord hqm hrm (by rw[e,hri])
   rw[hje,hve,this,e2]
  ·rw[if_neg e] at h2
   have h2:ndI (zba T.l r (lst m) v x.l) q=some qn:=by rw[←hqi];exact h2
   rw[h2] at hq1
   injection hq1 with hq1
   subst hq1;exact⟨_,hent,rfl⟩
theorem rename_any (w0:World) (gt p:Nat) (L:List ND) (q j d r v d2:Nat) (nm nm2:ByteArray) (un:Bool) (w:World) (h:PT w0 w gt p L) (hR:Rt ⟨p,L⟩) {gl ml:List ByteArray} (hp:LkP L gl q j) (hp2:LkP L ml r v) (hnm:lst gl=nm) (hnm2:lst ml=nm2) (hd:gl.length=d) (hd2:ml.length=d2) (hun:un=decide (begL ml gl)) (h0:j≠0) {y:ND} (hy:ndI L j=some y) (hm6:ml.length≤6):
  Calls Tryz.prog 58 #[.pointer (some ⟨gt,0,none⟩),.agg #[.int .i64 q,.string nm,.int .i64 j,.int .i64 (d:Nat)],.agg #[.int .i64 r,.string nm2,.int .i64 v,.int .i64 d2],.bool un] w (AnsP w0 w gt p ((mvF ⟨p,L⟩ gl ml q j r v y).1.l) ((mvF ⟨p,L⟩ gl ml q j r v y).2)):=by
 obtain⟨w1,hw1⟩:∃w1,w1=((w.alloc (.cells #[.int .i64 q,.string nm,.int .i64 j,.int .i64 (d:Nat)] 87)).alloc (.cells #[.int .i64 r,.string nm2,.int .i64 v,.int .i64 d2] 87)).alloc (.cells #[.int .i64 0,.int .i64 0,.int .i64 0,.int .u8 0,.int .i64 0,.int .i64 0,.slice none 0 0,.slice none 0 0] 41):=⟨_,rfl⟩
 have N1:Hid (New w w1):=by rw[hw1];exact ((kR.alloc _).alloc _).alloc _
 have BX:Hid (Blk w1 w.heap.size 87 [.int .i64 q,.string nm,.int .i64 j,.int .i64 (d:Nat)]):=by rw[hw1];exact ((Blk.made w _ _).alloc _).alloc _
 have BY:Hid (Blk w1 (w.heap.size+1) 87 [.int .i64 r,.string nm2,.int .i64 v,.int .i64 d2]):=by
  have:=Blk.made (w.alloc (.cells #[.int .i64 q,.string nm,.int .i64 j,.int .i64 (d:Nat)] 87)) 87 #[.int .i64 r,.string nm2,.int .i64 v,.int .i64 d2]
  rw[World.size_alloc] at this;rw[hw1];exact this.alloc _
 have BA:Hid (Blk w1 (w.heap.size+1+1) 41 [.int .i64 0,.int .i64 0,.int .i64 0,.int .u8 0,.int .i64 0,.int .i64 0,.slice none 0 0,.slice none 0 0]):=by
  have:=Blk.made ((w.alloc (.cells #[.int .i64 q,.string nm,.int .i64 j,.int .i64 (d:Nat)] 87)).alloc (.cells #[.int .i64 r,.string nm2,.int .i64 v,.int .i64 d2] 87)) 41 #[.int .i64 0,.int .i64 0,.int .i64 0,.int .u8 0,.int .i64 0,.int .i64 0,.slice none 0 0,.slice none 0 0]
  rw[World.size_alloc,World.size_alloc] at this;rw[hw1];exact this
 have HW:=jH hw1;have HP:=jH h
 have HN0:Hid (New w0 w):=by obtain⟨_,_,_,_,_,_,_,h5,_⟩:=h;exact h5
 have HGT:Hid (gt < w.heap.size):=h.lt;have hlen:L.length≤1000:=Nat.le_trans (show L.length≤48 from hR.len) (by omega)
 have hvz:v≠0→∃z,ndI L v=some z:=fun hv=>zce hR hp2 hv
 have rg:=root_iff hR hp h0;rw[hd] at rg
 have hgn:d≠0→gl≠[]:=fun e e2=>e (by rw[←hd,e2];rfl)
 have hmn:d2≠0→ml≠[]:=fun e e2=>e (by rw[←hd2,e2];rfl)
 have hge:d=0→gl=[]:=fun e=>List.eq_nil_of_length_eq_zero (by rw[hd];exact e)
 have hme:d2=0→ml=[]:=fun e=>List.eq_nil_of_length_eq_zero (by rw[hd2];exact e)
 have CTA:Hid (∀u,Calls Tryz.prog 83 #[.agg #[.int .i64 q,.string nm,.int .i64 j,.int .i64 (d:Nat)]] u (fun e w'=>e=.returned (.bool true)∧New u w')):=fun u=>by have:=zbh q nm j d u;rwa [decide_eq_true h0] at this
 have CTB:Hid (∀u,Calls Tryz.prog 83 #[.agg #[.int .i64 r,.string nm2,.int .i64 v,.int .i64 d2]] u (fun e w'=>e=.returned (.bool (decide (v≠0)))∧New u w')):=fun u=>zbh r nm2 v d2 u
 have CRA:Hid (∀u,Calls Tryz.prog 88 #[.agg #[.int .i64 q,.string nm,.int .i64 j,.int .i64 (d:Nat)]] u (fun e w'=>e=.returned (.bool (decide (d=0)))∧New u w')):=fun u=>isroot_any q nm j d u
 have CRB:Hid (∀u,Calls Tryz.prog 88 #[.agg #[.int .i64 r,.string nm2,.int .i64 v,.int .i64 d2]] u (fun e w'=>e=.returned (.bool (decide (d2=0)))∧New u w')):=fun u=>isroot_any r nm2 v d2 u
 obtain⟨we,hwe⟩:∃we,we=wayE ⟨p,L⟩ v y:=⟨_,rfl⟩
 have CM:Hid (∀u,New w u→Calls Tryz.prog 90 #[.pointer (some ⟨gt,0,none⟩),.agg #[.int .i64 q,.string nm,.int .i64 j,.int .i64 (d:Nat)],.agg #[.int .i64 r,.string nm2,.int .i64 v,.int .i64 d2]] u (MNew u ((we:Nat):Int))):=fun u hu=>by rw[hwe];exact may_any w0 gt p L q j d r v d2 nm nm2 y u (h.new hu) hR hy hvz
 obtain⟨hh,hhh⟩:∃hh,hh=hgt L 8 j:=⟨_,rfl⟩
 have CH:Hid (∀u,New w u→Calls Tryz.prog 91 #[.pointer (some ⟨gt,0,none⟩),.int .i64 j] u (MNew u ((hh:Nat):Int))):=fun u hu=>by rw[hhh];exact height_any w0 gt p j L y u (h.new hu) hR hy
 have HH8:Hid (hh≤8):=by rw[hhh];exact hgt_le _ _ _
 have HD6:Hid (d2≤6):=by rw[←hd2];exact hm6
 have HB2:Hid (d=0∨un=true∨d2=0→(mvF ⟨p,L⟩ gl ml q j r v y).1.l=L∧(mvF ⟨p,L⟩ gl ml q j r v y).2=erA 2):=fun hk=>by
  unfold mvF;rw[if_pos]
  ·exact⟨rfl,rfl⟩
  ·rcases hk with e|e|e
   ·exact .inl (hge e)
   ·exact .inr (.inr (of_decide_eq_true (by rw[←hun];exact e)))
   ·exact .inr (.inl (hme e))
 have hno:d≠0→un=false→d2≠0→¬(gl=[]∨ml=[]∨begL ml gl):=fun e1 e2 e3 e4=>by
  rcases e4 with e|e|e
  ·exact hgn e1 e
  ·exact hmn e3 e
  ·rw[hun,decide_eq_true e] at e2;cases e2
 have HSA:Hid (d≠0→un=false→d2≠0→j=v→(mvF ⟨p,L⟩ gl ml q j r v y).1.l=L∧(mvF ⟨p,L⟩ gl ml q j r v y).2=erA 0):=fun e1 e2 e3 e4=>by
  unfold mvF;rw[if_neg (hno e1 e2 e3),if_pos e4];exact⟨rfl,rfl⟩
 have HWE:Hid (d≠0→un=false→d2≠0→j≠v→we≠0→(mvF ⟨p,L⟩ gl ml q j r v y).1.l=L∧(mvF ⟨p,L⟩ gl ml q j r v y).2=erA we):=fun e1 e2 e3 e4 e5=>by
  rw[hwe] at e5 ⊢;unfold mvF;rw[if_neg (hno e1 e2 e3),if_neg e4,if_pos e5];exact⟨rfl,rfl⟩
 have HLI:Hid (d≠0→un=false→d2≠0→j≠v→we=0→6 < d2+hh→(mvF ⟨p,L⟩ gl ml q j r v y).1.l=L∧(mvF ⟨p,L⟩ gl ml q j r v y).2=erA 3):=fun e1 e2 e3 e4 e5 e6=>by
  rw[hwe] at e5;rw[hhh,←hd2] at e6;unfold mvF;rw[if_neg (hno e1 e2 e3),if_neg e4,if_neg (fun e=>e e5),if_pos e6];exact⟨rfl,rfl⟩
 have HOK:Hid (d≠0→un=false→d2≠0→j≠v→we=0→¬6 < d2+hh→(mvF ⟨p,L⟩ gl ml q j r v y).1.l=moveE (zbk ⟨p,L⟩ r nm2 v) q nm r nm2 j∧(mvF ⟨p,L⟩ gl ml q j r v y).2=erA 0):=fun e1 e2 e3 e4 e5 e6=>by
  rw[hwe] at e5;rw[hhh,←hd2] at e6;unfold mvF;rw[if_neg (hno e1 e2 e3),if_neg e4,if_neg (fun e=>e e5),if_neg e6,hnm,hnm2];exact⟨rfl,rfl⟩
 have HLO:Hid (d2≠0→we=0→v≠0→∀u,PT w0 u gt p L→Calls Tryz.prog 89 #[.pointer (some ⟨gt,0,none⟩),.agg #[.int .i64 r,.string nm2,.int .i64 v,.int .i64 d2]] u (fun e w'=>e=.returned (.tuple #[])∧PT w0 w' gt p (zbk ⟨p,L⟩ r nm2 v)∧Kept (Tr u gt) u w')):=fun e3 _ hv u hu=>by
  obtain⟨z,hz⟩:=hvz hv;have r2:=root_iff hR hp2 hv;rw[hd2] at r2;obtain⟨rn,y2,g1,g2,g3,g4,g5,g6,g7,g8⟩:=lose_on hR hp2 hv (fun e=>e3 (r2.2 e)) hz;rw[hnm2] at g4 g5
  have e9:zbk ⟨p,L⟩ r nm2 v=zba L r nm2 v y2.l:=by
   unfold zbk;rw[if_neg hv]
   show (match ndI L v with|none=>L|some x=>zba L r nm2 v x.l)=_
   rw[hz,g6]
  rw[e9];exact mlose_any w0 gt p L r v d2 nm2 rn y2 u hu hR.ord hlen g1 g2 g3 g4 g5 g7 g8
 have HL0:Hid (v=0→zbk ⟨p,L⟩ r nm2 v=L):=fun hv=>by unfold zbk;rw[if_pos hv]
 have HST:Hid (d≠0→d2≠0→j≠v→we=0→(∀u,PT w0 u gt p (zbk ⟨p,L⟩ r nm2 v)→Calls Tryz.prog 92 #[.pointer (some ⟨gt,0,none⟩),.agg #[.int .i64 q,.string nm,.int .i64 j,.int .i64 (d:Nat)]] u (fun e w'=>e=.returned (.tuple #[])∧PT w0 w' gt p (delE (zbk ⟨p,L⟩ r nm2 v) q nm)∧Kept (Tr u gt) u w')) ∧
   ∀u,PT w0 u gt p (delE (zbk ⟨p,L⟩ r nm2 v) q nm)→Calls Tryz.prog 86 #[.pointer (some ⟨gt,0,none⟩),.agg #[.int .i64 r,.string nm2,.int .i64 v,.int .i64 d2],.int .i64 j] u (fun e w'=>e=.returned (.tuple #[])∧PT w0 w' gt p (moveE (zbk ⟨p,L⟩ r nm2 v) q nm r nm2 j)∧Kept (Tr u gt) u w')):=fun e1 e3 e4 e5=>by
  rw[hwe] at e5;obtain⟨_,hR1,⟨q1,k1,k2,k3⟩,⟨r2,m1,_,m2,m3⟩⟩:=mv_parts hR hp hp2 h0 (hgn e1) (hmn e3) e5;have hhas:=mv_has hR hp hp2 h0 (hgn e1) (hmn e3) e4 e5 k1;rw[hnm2] at hR1 k1 m1;rw[hnm] at hhas m1;have hl1:(zbk ⟨p,L⟩ r nm2 v).length≤1000:=Nat.le_trans (show (zbk ⟨p,L⟩ r nm2 v).length≤48 from hR1.len) (by omega);refine⟨fun u hu=>strike_any w0 gt p _ q j d nm q1 u hu hR1.ord hl1 k1 k2 (by omega) hhas,fun u hu=>?_⟩;exact enter_any w0 gt p _ r v d2 nm2 r2 j u hu (zcq (fun _ _=>rfl) hR1.ord) (by unfold delE;rw[zcv];exact hl1) m1 m2 (by omega)
 clear hw1 h hR hp hp2 hnm hnm2 hd hd2 hun h0 hy hm6 hlen hvz rg hgn hmn hge hme hno hwe hhh;generalize (mvF ⟨p,L⟩ gl ml q j r v y).1.l=LR at *;generalize (mvF ⟨p,L⟩ gl ml q j r v y).2=AR at *;generalize moveE (zbk ⟨p,L⟩ r nm2 v) q nm r nm2 j=L9 at *;generalize delE (zbk ⟨p,L⟩ r nm2 v) q nm=L8 at *;generalize zbk ⟨p,L⟩ r nm2 v=L7 at *;go_enter Tryz.func58,Tryz.ntmps58
 go_upto_region 1 with fail
 rw[←HW.out];clear HW;obtain⟨gr,hgr⟩:∃gr,gr=w.heap.size+1+1:=⟨_,rfl⟩;obtain⟨gk2,hgk2⟩:∃gk2,gk2=w.heap.size+1:=⟨_,rfl⟩;rw[←hgr] at BA ⊢;rw[←hgk2] at BY ⊢
 have HGR:Hid (w.heap.size≤gr):=by rw[Hid,hgr];omega
 have HTA:Hid (¬Tr w1 gt gr):=Tr.not BA.out.at_ (by decide) (by decide) (by have:=HGT.out;omega);have HTX:Hid (¬Tr w1 gt w.heap.size):=Tr.not BX.out.at_ (by decide) (by decide) (by have:=HGT.out;omega);have HTY:Hid (¬Tr w1 gt gk2):=Tr.not BY.out.at_ (by decide) (by decide) (by have:=HGT.out;omega);clear hgr hgk2;obtain⟨b0,b1,b2,b3⟩:=BX.out.p4;obtain⟨gk,hgk⟩:∃gk,gk=w.heap.size:=⟨_,rfl⟩;rw[←hgk] at BX HTX b0 b1 b2 b3 ⊢;clear hgk
 go_upto_region 3 with (go_at_call 83;refine (CTA.out _).mono ?_;rintro e w2 ⟨rfl,hK2⟩;have N2:=jH (N1.out.new hK2);have M2:Hid (New w1 w2):=hK2;obtain⟨b0,b1,b2,b3⟩:=(BX.out.kept M2.out (by first|exact id|exact HTX.out)).p4;obtain⟨c0,c1,c2,c3⟩:=(BY.out.kept M2.out (by first|exact id|exact HTY.out)).p4;clear hK2)
 clear CTA
 by_cases hd0:d=0
 ·have E9:=jH (HB2.out (.inl hd0))
  have CRA:Hid (∀u,Calls Tryz.prog 88 #[.agg #[.int .i64 q,.string nm,.int .i64 j,.int .i64 (d:Nat)]] u (fun e w'=>e=.returned (.bool true)∧New u w')):=fun u=>by have:=CRA.out u;rwa [decide_eq_true hd0] at this
  clear hd0 HST HLO HOK HLI HWE HSA HB2 HL0
  go_wp2_with (first
   | (go_at_call 88;refine (CRA.out _).mono ?_;rintro e w3 ⟨rfl,hK3⟩;have N3:=jH (N2.out.new hK3);have M3:Hid (New w1 w3):=M2.out.new hK3;obtain⟨b0,b1,b2,b3⟩:=(BX.out.kept M3.out (by first|exact id|exact HTX.out)).p4;obtain⟨c0,c1,c2,c3⟩:=(BY.out.kept M3.out (by first|exact id|exact HTY.out)).p4;clear hK3)
   | (go_at_call 32;refine (zac 2 _).mono ?_;rintro e w4 ⟨rfl,hK4⟩;have N4:=jH (N3.out.new hK4);have BAZ:=jH (BA.out.kept (M3.out.new hK4) id);obtain⟨t0,t1,t2,t3,t4,t5,t6,t7⟩:=BAZ.out.p8;obtain⟨f0,f1,f2,f3,f4,f5,f6,f7⟩:=BAZ.out.f8;have HLD:Hid ((((((((w4.setCell ⟨gr,0,none⟩ (.int .i64 2)).setCell ⟨gr,1,none⟩ (.int .i64 0)).setCell ⟨gr,2,none⟩ (.int .i64 0)).setCell ⟨gr,3,none⟩ (.int .u8 0)).setCell ⟨gr,4,none⟩ (.int .i64 0)).setCell ⟨gr,5,none⟩ (.int .i64 0)).setCell ⟨gr,6,none⟩ (.slice none 0 0)).setCell ⟨gr,7,none⟩ (.slice none 0 0)=ans8 w4 gr (erA 2) none 0 0 none 0 0):=rfl;have DD:=jH (zah (a:=erA 2) (w0:=w0) (w:=w) (gt:=gt) (p:=p) (L:=L) (d':=0) (t':=0) (B':=none) (m:=0) (q:=0) (T':=none) BAZ.out HGR.out (HP.out.new N4.out) HN0.out (OwnB.nil _ _ _) rfl (Txs.nil _ _) (fun _ h=>by cases h) rfl (N4.out.mono fun _ _ f=>f.elim));have DB:=jH (zaf (a:=erA 2) (d':=0) (t':=0) (B':=none) (m:=0) (q:=0) (T':=none) BAZ.out);clear hK4))
  rw[HLD.out];generalize ans8 w4 gr (erA 2) none 0 0 none 0 0=wf at *;have d0:=DB.out.cell 0;have d1:=DB.out.cell 1;have d2:=DB.out.cell 2;have d3:=DB.out.cell 3;have d4:=DB.out.cell 4;have d5:=DB.out.cell 5;have d6:=DB.out.cell 6;have d7:=DB.out.cell 7;simp at d0 d1 d2 d3 d4 d5 d6 d7;refine bodyPost_ret (by simp[results,Tryz.results58,go_sem,d0,d1,d2,d3,d4,d5,d6,d7];try rfl) rfl ?_;rw[E9.out.1,E9.out.2];exact DD.out
 ·have CRA:Hid (∀u,Calls Tryz.prog 88 #[.agg #[.int .i64 q,.string nm,.int .i64 j,.int .i64 (d:Nat)]] u (fun e w'=>e=.returned (.bool false)∧New u w')):=fun u=>by have:=CRA.out u;rwa [decide_eq_false hd0] at this
  cases un with
  | true=>
   have E9:=jH (HB2.out (.inr (.inl rfl)));clear hd0 HST HLO HOK HLI HWE HSA HB2 HL0
   go_wp2_with (first
    | (go_at_call 88;refine (CRA.out _).mono ?_;rintro e w3 ⟨rfl,hK3⟩;have N3:=jH (N2.out.new hK3);have M3:Hid (New w1 w3):=M2.out.new hK3;obtain⟨b0,b1,b2,b3⟩:=(BX.out.kept M3.out (by first|exact id|exact HTX.out)).p4;obtain⟨c0,c1,c2,c3⟩:=(BY.out.kept M3.out (by first|exact id|exact HTY.out)).p4;clear hK3)
    | (go_at_call 32;refine (zac 2 _).mono ?_;rintro e w4 ⟨rfl,hK4⟩;have N4:=jH (N3.out.new hK4);have BAZ:=jH (BA.out.kept (M3.out.new hK4) id);obtain⟨t0,t1,t2,t3,t4,t5,t6,t7⟩:=BAZ.out.p8;obtain⟨f0,f1,f2,f3,f4,f5,f6,f7⟩:=BAZ.out.f8;have HLD:Hid ((((((((w4.setCell ⟨gr,0,none⟩ (.int .i64 2)).setCell ⟨gr,1,none⟩ (.int .i64 0)).setCell ⟨gr,2,none⟩ (.int .i64 0)).setCell ⟨gr,3,none⟩ (.int .u8 0)).setCell ⟨gr,4,none⟩ (.int .i64 0)).setCell ⟨gr,5,none⟩ (.int .i64 0)).setCell ⟨gr,6,none⟩ (.slice none 0 0)).setCell ⟨gr,7,none⟩ (.slice none 0 0)=ans8 w4 gr (erA 2) none 0 0 none 0 0):=rfl;have DD:=jH (zah (a:=erA 2) (w0:=w0) (w:=w) (gt:=gt) (p:=p) (L:=L) (d':=0) (t':=0) (B':=none) (m:=0) (q:=0) (T':=none) BAZ.out HGR.out (HP.out.new N4.out) HN0.out (OwnB.nil _ _ _) rfl (Txs.nil _ _) (fun _ h=>by cases h) rfl (N4.out.mono fun _ _ f=>f.elim));have DB:=jH (zaf (a:=erA 2) (d':=0) (t':=0) (B':=none) (m:=0) (q:=0) (T':=none) BAZ.out);clear hK4))
   rw[HLD.out];generalize ans8 w4 gr (erA 2) none 0 0 none 0 0=wf at *;have d0:=DB.out.cell 0;have d1:=DB.out.cell 1;have d2:=DB.out.cell 2;have d3:=DB.out.cell 3;have d4:=DB.out.cell 4;have d5:=DB.out.cell 5;have d6:=DB.out.cell 6;have d7:=DB.out.cell 7;simp at d0 d1 d2 d3 d4 d5 d6 d7;refine bodyPost_ret (by simp[results,Tryz.results58,go_sem,d0,d1,d2,d3,d4,d5,d6,d7];try rfl) rfl ?_;rw[E9.out.1,E9.out.2];exact DD.out
  | false=>
   go_upto_region 5 with (go_at_call 88;refine (CRA.out _).mono ?_;rintro e w3 ⟨rfl,hK3⟩;have N3:=jH (N2.out.new hK3);have M3:Hid (New w1 w3):=M2.out.new hK3;obtain⟨b0,b1,b2,b3⟩:=(BX.out.kept M3.out (by first|exact id|exact HTX.out)).p4;obtain⟨c0,c1,c2,c3⟩:=(BY.out.kept M3.out (by first|exact id|exact HTY.out)).p4;clear hK3)
   clear CRA
   by_cases hd20:d2=0
   ·have E9:=jH (HB2.out (.inr (.inr hd20)))
    have CRB:Hid (∀u,Calls Tryz.prog 88 #[.agg #[.int .i64 r,.string nm2,.int .i64 v,.int .i64 d2]] u (fun e w'=>e=.returned (.bool true)∧New u w')):=fun u=>by have:=CRB.out u;rwa [decide_eq_true hd20] at this
    clear hd0 hd20 HST HLO HOK HLI HWE HSA HB2 HL0
    go_wp2_with (first
     | (go_at_call 88;refine (CRB.out _).mono ?_;rintro e w4 ⟨rfl,hK4⟩;have N4:=jH (N3.out.new hK4);have M4:Hid (New w1 w4):=M3.out.new hK4;obtain⟨b0,b1,b2,b3⟩:=(BX.out.kept M4.out (by first|exact id|exact HTX.out)).p4;obtain⟨c0,c1,c2,c3⟩:=(BY.out.kept M4.out (by first|exact id|exact HTY.out)).p4;clear hK4)
     | (go_at_call 32;refine (zac 2 _).mono ?_;rintro e w5 ⟨rfl,hK5⟩;have N5:=jH (N4.out.new hK5);have BAZ:=jH (BA.out.kept (M4.out.new hK5) id);obtain⟨t0,t1,t2,t3,t4,t5,t6,t7⟩:=BAZ.out.p8;obtain⟨f0,f1,f2,f3,f4,f5,f6,f7⟩:=BAZ.out.f8;have HLD:Hid ((((((((w5.setCell ⟨gr,0,none⟩ (.int .i64 2)).setCell ⟨gr,1,none⟩ (.int .i64 0)).setCell ⟨gr,2,none⟩ (.int .i64 0)).setCell ⟨gr,3,none⟩ (.int .u8 0)).setCell ⟨gr,4,none⟩ (.int .i64 0)).setCell ⟨gr,5,none⟩ (.int .i64 0)).setCell ⟨gr,6,none⟩ (.slice none 0 0)).setCell ⟨gr,7,none⟩ (.slice none 0 0)=ans8 w5 gr (erA 2) none 0 0 none 0 0):=rfl;have DD:=jH (zah (a:=erA 2) (w0:=w0) (w:=w) (gt:=gt) (p:=p) (L:=L) (d':=0) (t':=0) (B':=none) (m:=0) (q:=0) (T':=none) BAZ.out HGR.out (HP.out.new N5.out) HN0.out (OwnB.nil _ _ _) rfl (Txs.nil _ _) (fun _ h=>by cases h) rfl (N5.out.mono fun _ _ f=>f.elim));have DB:=jH (zaf (a:=erA 2) (d':=0) (t':=0) (B':=none) (m:=0) (q:=0) (T':=none) BAZ.out);clear hK5))
    rw[HLD.out];generalize ans8 w5 gr (erA 2) none 0 0 none 0 0=wf at *;have d0:=DB.out.cell 0;have d1:=DB.out.cell 1;have d2:=DB.out.cell 2;have d3:=DB.out.cell 3;have d4:=DB.out.cell 4;have d5:=DB.out.cell 5;have d6:=DB.out.cell 6;have d7:=DB.out.cell 7;simp at d0 d1 d2 d3 d4 d5 d6 d7;refine bodyPost_ret (by simp[results,Tryz.results58,go_sem,d0,d1,d2,d3,d4,d5,d6,d7];try rfl) rfl ?_;rw[E9.out.1,E9.out.2];exact DD.out
   ·have CRB:Hid (∀u,Calls Tryz.prog 88 #[.agg #[.int .i64 r,.string nm2,.int .i64 v,.int .i64 d2]] u (fun e w'=>e=.returned (.bool false)∧New u w')):=fun u=>by have:=CRB.out u;rwa [decide_eq_false hd20] at this
    go_upto_region 7 with (go_at_call 88;refine (CRB.out _).mono ?_;rintro e w4 ⟨rfl,hK4⟩;have N4:=jH (N3.out.new hK4);have M4:Hid (New w1 w4):=M3.out.new hK4;obtain⟨b0,b1,b2,b3⟩:=(BX.out.kept M4.out (by first|exact id|exact HTX.out)).p4;obtain⟨c0,c1,c2,c3⟩:=(BY.out.kept M4.out (by first|exact id|exact HTY.out)).p4;clear hK4)
    clear CRB
    by_cases hjv:j=v
    ·have E9:=jH (HSA.out hd0 (by simp) hd20 hjv);have e1:(((j:Nat):Int) == ((v:Nat):Int))=true:=beq_iff_eq.2 (by omega);clear hd0 hd20 hjv HST HLO HOK HLI HWE HSA HB2 HL0;have BAZ:=jH (BA.out.kept M4.out id);obtain⟨t0,t1,t2,t3,t4,t5,t6,t7⟩:=BAZ.out.p8;obtain⟨f0,f1,f2,f3,f4,f5,f6,f7⟩:=BAZ.out.f8;have HLD:Hid ((((((((w4.setCell ⟨gr,0,none⟩ (.int .i64 0)).setCell ⟨gr,1,none⟩ (.int .i64 0)).setCell ⟨gr,2,none⟩ (.int .i64 0)).setCell ⟨gr,3,none⟩ (.int .u8 0)).setCell ⟨gr,4,none⟩ (.int .i64 0)).setCell ⟨gr,5,none⟩ (.int .i64 0)).setCell ⟨gr,6,none⟩ (.slice none 0 0)).setCell ⟨gr,7,none⟩ (.slice none 0 0)=ans8 w4 gr (erA 0) none 0 0 none 0 0):=rfl
     have DD:=jH (zah (a:=erA 0) (w0:=w0) (w:=w) (gt:=gt) (p:=p) (L:=L) (d':=0) (t':=0) (B':=none) (m:=0) (q:=0) (T':=none) BAZ.out HGR.out (HP.out.new N4.out) HN0.out (OwnB.nil _ _ _) rfl (Txs.nil _ _) (fun _ h=>by cases h) rfl (N4.out.mono fun _ _ f=>f.elim));have DB:=jH (zaf (a:=erA 0) (d':=0) (t':=0) (B':=none) (m:=0) (q:=0) (T':=none) BAZ.out);go_wp2_with fail;rw[HLD.out];generalize ans8 w4 gr (erA 0) none 0 0 none 0 0=wf at *;have d0:=DB.out.cell 0;have d1:=DB.out.cell 1;have d2:=DB.out.cell 2;have d3:=DB.out.cell 3;have d4:=DB.out.cell 4;have d5:=DB.out.cell 5;have d6:=DB.out.cell 6;have d7:=DB.out.cell 7
     simp at d0 d1 d2 d3 d4 d5 d6 d7;refine bodyPost_ret (by simp[results,Tryz.results58,go_sem,d0,d1,d2,d3,d4,d5,d6,d7];try rfl) rfl ?_;rw[E9.out.1,E9.out.2];exact DD.out
    ·have e1:(((j:Nat):Int) == ((v:Nat):Int))=false:=beq_eq_false_iff_ne.2 (by omega)
     go_upto_region 10 with (go_at_call 90;refine (CM.out w4 N4.out).mono ?_;rintro e w5 ⟨rfl,hK5⟩;have N5:=jH (N4.out.new hK5);have M5:Hid (New w1 w5):=M4.out.new hK5;obtain⟨b0,b1,b2,b3⟩:=(BX.out.kept M5.out (by first|exact id|exact HTX.out)).p4;obtain⟨c0,c1,c2,c3⟩:=(BY.out.kept M5.out (by first|exact id|exact HTY.out)).p4;clear hK5)
     clear CM
     by_cases hwz:we=0
     ·have e2:(((we:Nat):Int) != 0)=false:=bne_eq_false_iff_eq.2 (by omega);have ST:=jH (HST.out hd0 hd20 hjv hwz);have LO:=jH (HLO.out hd20 hwz)
      have wh:IntKind.i64.wrap (((d2:Nat):Int)+((hh:Nat):Int))=((d2:Nat):Int)+((hh:Nat):Int):=by have:=HH8.out;have:=HD6.out;rw[IntKind.wrap_i64];omega
      go_upto_region 12 with fail
      have p0:=fun d os=>cell_regrown b2 d os
      have p1:=fun d os=>cell_regrown c3 d os
      have cB:=jH (fun (d:Nat) (os:Array Obj)=>Calls.regrown_of (d:=d) (os:=os) ((CH.out (Go.Sort.grow (redrawn w5 d) os) (zan N5.out d os)).mono fun e w' hh=>⟨hh.1,hh.2.below⟩));clear b0 b1 b2 b3 c0 c1 c2 c3 CH;have LI:=jH (HLI.out hd0 (by simp) hd20 hjv hwz);have OK:=jH (HOK.out hd0 (by simp) hd20 hjv hwz);clear hd0 hd20 hjv hwz HST HLO HOK HLI HWE HSA HB2;refine wp_region_quiet_below (by kernel_rfl) (by kernel_rfl) ?_
      repeat (first|go_big_quiet_step (fail)|quiet_step (fail))
      (first|go_big_quiet_step (first|(go_at_call 91;exact cB.out _ _))|quiet_step (first|(go_at_call 91;exact cB.out _ _)))
      repeat (first|go_big_quiet_step (fail)|quiet_step (fail))
      refine wpQuiet_nil ?_;intro _ hw';obtain⟨⟨dq,osq⟩,hw''⟩:=hw';subst hw'';have N6:Hid (New w (Go.Sort.grow (redrawn w5 dq) osq)):=zan N5.out dq osq;have M6:Hid (New w1 (Go.Sort.grow (redrawn w5 dq) osq)):=zan M5.out dq osq;clear cB p0 p1;generalize Go.Sort.grow (redrawn w5 dq) osq=w6 at *
      by_cases h6:6 < d2+hh
      ·have E9:=jH (LI.out h6);have d3:decide ((6:Int) < ((d2:Nat):Int)+((hh:Nat):Int))=true:=decide_eq_true (by omega);rw[d3];clear d3 h6 LI OK ST LO HL0
       go_wp2_with (go_at_call 32;refine (zac 3 _).mono ?_;rintro e w7 ⟨rfl,hK7⟩;have N7:=jH (N6.out.new hK7);have BAZ:=jH (BA.out.kept (M6.out.new hK7) id);obtain⟨t0,t1,t2,t3,t4,t5,t6,t7⟩:=BAZ.out.p8;obtain⟨f0,f1,f2,f3,f4,f5,f6,f7⟩:=BAZ.out.f8;have HLD:Hid ((((((((w7.setCell ⟨gr,0,none⟩ (.int .i64 3)).setCell ⟨gr,1,none⟩ (.int .i64 0)).setCell ⟨gr,2,none⟩ (.int .i64 0)).setCell ⟨gr,3,none⟩ (.int .u8 0)).setCell ⟨gr,4,none⟩ (.int .i64 0)).setCell ⟨gr,5,none⟩ (.int .i64 0)).setCell ⟨gr,6,none⟩ (.slice none 0 0)).setCell ⟨gr,7,none⟩ (.slice none 0 0)=ans8 w7 gr (erA 3) none 0 0 none 0 0):=rfl;have DD:=jH (zah (a:=erA 3) (w0:=w0) (w:=w) (gt:=gt) (p:=p) (L:=L) (d':=0) (t':=0) (B':=none) (m:=0) (q:=0) (T':=none) BAZ.out HGR.out (HP.out.new N7.out) HN0.out (OwnB.nil _ _ _) rfl (Txs.nil _ _) (fun _ h=>by cases h) rfl (N7.out.mono fun _ _ f=>f.elim));have DB:=jH (zaf (a:=erA 3) (d':=0) (t':=0) (B':=none) (m:=0) (q:=0) (T':=none) BAZ.out);clear hK7)
       rw[HLD.out];generalize ans8 w7 gr (erA 3) none 0 0 none 0 0=wf at *;have d0:=DB.out.cell 0;have d1:=DB.out.cell 1;have d2:=DB.out.cell 2;have d3:=DB.out.cell 3;have d4:=DB.out.cell 4;have d5:=DB.out.cell 5;have d6:=DB.out.cell 6;have d7:=DB.out.cell 7;simp at d0 d1 d2 d3 d4 d5 d6 d7;refine bodyPost_ret (by simp[results,Tryz.results58,go_sem,d0,d1,d2,d3,d4,d5,d6,d7];try rfl) rfl ?_;rw[E9.out.1,E9.out.2];exact DD.out
      ·have E9:=jH (OK.out h6);have d3:decide ((6:Int) < ((d2:Nat):Int)+((hh:Nat):Int))=false:=decide_eq_false (by omega);rw[d3];clear d3 h6 LI OK;obtain⟨b0,b1,b2,b3⟩:=(BX.out.kept M6.out (by first|exact id|exact HTX.out)).p4;obtain⟨c0,c1,c2,c3⟩:=(BY.out.kept M6.out (by first|exact id|exact HTY.out)).p4
       by_cases hv0:v=0
       ·have CTB:Hid (∀u,Calls Tryz.prog 83 #[.agg #[.int .i64 r,.string nm2,.int .i64 v,.int .i64 d2]] u (fun e w'=>e=.returned (.bool false)∧New u w')):=fun u=>by have:=CTB.out u;rwa [decide_eq_false (fun e=>e hv0)] at this
        have L7E:Hid (L7=L):=HL0.out hv0;clear hv0 LO HL0
        go_wp2_with (first
         | (go_at_call 83;refine (CTB.out _).mono ?_;rintro e w7 ⟨rfl,hK7⟩;have N7:=jH (N6.out.new hK7);have M7:Hid (New w1 w7):=M6.out.new hK7;obtain⟨b0,b1,b2,b3⟩:=(BX.out.kept M7.out (by first|exact id|exact HTX.out)).p4;obtain⟨c0,c1,c2,c3⟩:=(BY.out.kept M7.out (by first|exact id|exact HTY.out)).p4;clear hK7)
         | (go_at_call 92;refine (ST.out.1 w7 (by rw[L7E.out];exact HP.out.new N7.out)).mono ?_;rintro e w9 ⟨rfl,hP9,hK9⟩;have P9:=jH hP9;have K9:=jH (Tr.new M7.out hK9);have T9:=jH (Tr.new N7.out hK9);obtain⟨b0,b1,b2,b3⟩:=(BX.out.kept K9.out (by first|exact id|exact HTX.out)).p4;obtain⟨c0,c1,c2,c3⟩:=(BY.out.kept K9.out (by first|exact id|exact HTY.out)).p4;clear hP9 hK9)
         | (go_at_call 86;refine (ST.out.2 w9 P9.out).mono ?_;rintro e w10 ⟨rfl,hP10,hK10⟩;have K10:=jH (Tr.trans K9.out hK10);have T10:=jH (Tr.trans T9.out hK10);have BAZ:=jH (BA.out.kept K10.out HTA.out);obtain⟨t0,t1,t2,t3,t4,t5,t6,t7⟩:=BAZ.out.p8;obtain⟨f0,f1,f2,f3,f4,f5,f6,f7⟩:=BAZ.out.f8;have HLD:Hid ((((((((w10.setCell ⟨gr,0,none⟩ (.int .i64 0)).setCell ⟨gr,1,none⟩ (.int .i64 0)).setCell ⟨gr,2,none⟩ (.int .i64 0)).setCell ⟨gr,3,none⟩ (.int .u8 0)).setCell ⟨gr,4,none⟩ (.int .i64 0)).setCell ⟨gr,5,none⟩ (.int .i64 0)).setCell ⟨gr,6,none⟩ (.slice none 0 0)).setCell ⟨gr,7,none⟩ (.slice none 0 0)=ans8 w10 gr (erA 0) none 0 0 none 0 0):=rfl;have DD:=jH (zah (a:=erA 0) (w0:=w0) (w:=w) (gt:=gt) (p:=p) (L:=L9) (d':=0) (t':=0) (B':=none) (m:=0) (q:=0) (T':=none) BAZ.out HGR.out (hP10) HN0.out (OwnB.nil _ _ _) rfl (Txs.nil _ _) (fun _ h=>by cases h) rfl (T10.out));have DB:=jH (zaf (a:=erA 0) (d':=0) (t':=0) (B':=none) (m:=0) (q:=0) (T':=none) BAZ.out);clear hP10 hK10))
        rw[HLD.out];generalize ans8 w10 gr (erA 0) none 0 0 none 0 0=wf at *;have d0:=DB.out.cell 0;have d1:=DB.out.cell 1;have d2:=DB.out.cell 2;have d3:=DB.out.cell 3;have d4:=DB.out.cell 4;have d5:=DB.out.cell 5;have d6:=DB.out.cell 6;have d7:=DB.out.cell 7;simp at d0 d1 d2 d3 d4 d5 d6 d7;refine bodyPost_ret (by simp[results,Tryz.results58,go_sem,d0,d1,d2,d3,d4,d5,d6,d7];try rfl) rfl ?_;rw[E9.out.1,E9.out.2];exact DD.out
       ·have CTB:Hid (∀u,Calls Tryz.prog 83 #[.agg #[.int .i64 r,.string nm2,.int .i64 v,.int .i64 d2]] u (fun e w'=>e=.returned (.bool true)∧New u w')):=fun u=>by have:=CTB.out u;rwa [decide_eq_true hv0] at this
        have LO:=jH (LO.out hv0);clear hv0 HL0
        go_wp2_with (first
         | (go_at_call 83;refine (CTB.out _).mono ?_;rintro e w7 ⟨rfl,hK7⟩;have N7:=jH (N6.out.new hK7);have M7:Hid (New w1 w7):=M6.out.new hK7;obtain⟨b0,b1,b2,b3⟩:=(BX.out.kept M7.out (by first|exact id|exact HTX.out)).p4;obtain⟨c0,c1,c2,c3⟩:=(BY.out.kept M7.out (by first|exact id|exact HTY.out)).p4;clear hK7)
         | (go_at_call 89;refine (LO.out w7 (HP.out.new N7.out)).mono ?_;rintro e w8 ⟨rfl,hP8,hK8⟩;have P8:=jH hP8;have K8:=jH (Tr.new M7.out hK8);have T8:=jH (Tr.new N7.out hK8);obtain⟨b0,b1,b2,b3⟩:=(BX.out.kept K8.out (by first|exact id|exact HTX.out)).p4;obtain⟨c0,c1,c2,c3⟩:=(BY.out.kept K8.out (by first|exact id|exact HTY.out)).p4;clear hP8 hK8)
         | (go_at_call 92;refine (ST.out.1 w8 P8.out).mono ?_;rintro e w9 ⟨rfl,hP9,hK9⟩;have P9:=jH hP9;have K9:=jH (Tr.trans K8.out hK9);have T9:=jH (Tr.trans T8.out hK9);obtain⟨b0,b1,b2,b3⟩:=(BX.out.kept K9.out (by first|exact id|exact HTX.out)).p4;obtain⟨c0,c1,c2,c3⟩:=(BY.out.kept K9.out (by first|exact id|exact HTY.out)).p4;clear hP9 hK9)
         | (go_at_call 86;refine (ST.out.2 w9 P9.out).mono ?_;rintro e w10 ⟨rfl,hP10,hK10⟩;have K10:=jH (Tr.trans K9.out hK10);have T10:=jH (Tr.trans T9.out hK10);have BAZ:=jH (BA.out.kept K10.out HTA.out);obtain⟨t0,t1,t2,t3,t4,t5,t6,t7⟩:=BAZ.out.p8;obtain⟨f0,f1,f2,f3,f4,f5,f6,f7⟩:=BAZ.out.f8;have HLD:Hid ((((((((w10.setCell ⟨gr,0,none⟩ (.int .i64 0)).setCell ⟨gr,1,none⟩ (.int .i64 0)).setCell ⟨gr,2,none⟩ (.int .i64 0)).setCell ⟨gr,3,none⟩ (.int .u8 0)).setCell ⟨gr,4,none⟩ (.int .i64 0)).setCell ⟨gr,5,none⟩ (.int .i64 0)).setCell ⟨gr,6,none⟩ (.slice none 0 0)).setCell ⟨gr,7,none⟩ (.slice none 0 0)=ans8 w10 gr (erA 0) none 0 0 none 0 0):=rfl;have DD:=jH (zah (a:=erA 0) (w0:=w0) (w:=w) (gt:=gt) (p:=p) (L:=L9) (d':=0) (t':=0) (B':=none) (m:=0) (q:=0) (T':=none) BAZ.out HGR.out (hP10) HN0.out (OwnB.nil _ _ _) rfl (Txs.nil _ _) (fun _ h=>by cases h) rfl (T10.out));have DB:=jH (zaf (a:=erA 0) (d':=0) (t':=0) (B':=none) (m:=0) (q:=0) (T':=none) BAZ.out);clear hP10 hK10))
        rw[HLD.out];generalize ans8 w10 gr (erA 0) none 0 0 none 0 0=wf at *;have d0:=DB.out.cell 0;have d1:=DB.out.cell 1;have d2:=DB.out.cell 2;have d3:=DB.out.cell 3;have d4:=DB.out.cell 4;have d5:=DB.out.cell 5;have d6:=DB.out.cell 6;have d7:=DB.out.cell 7;simp at d0 d1 d2 d3 d4 d5 d6 d7;refine bodyPost_ret (by simp[results,Tryz.results58,go_sem,d0,d1,d2,d3,d4,d5,d6,d7];try rfl) rfl ?_;rw[E9.out.1,E9.out.2];exact DD.out
     ·have e2:(((we:Nat):Int) != 0)=true:=bne_iff_ne.2 (by omega);have E9:=jH (HWE.out hd0 (by simp) hd20 hjv hwz);have RF:=jH (fun u=>zac we u);clear hd0 hd20 hjv hwz HST HLO HOK HLI HWE HSA HB2 HL0
      go_wp2_with (go_at_call 32;refine (RF.out _).mono ?_;rintro e w6 ⟨rfl,hK6⟩;have N6:=jH (N5.out.new hK6);have BAZ:=jH (BA.out.kept (M5.out.new hK6) id);obtain⟨t0,t1,t2,t3,t4,t5,t6,t7⟩:=BAZ.out.p8;obtain⟨f0,f1,f2,f3,f4,f5,f6,f7⟩:=BAZ.out.f8;have HLD:Hid ((((((((w6.setCell ⟨gr,0,none⟩ (.int .i64 (we:Nat))).setCell ⟨gr,1,none⟩ (.int .i64 0)).setCell ⟨gr,2,none⟩ (.int .i64 0)).setCell ⟨gr,3,none⟩ (.int .u8 0)).setCell ⟨gr,4,none⟩ (.int .i64 0)).setCell ⟨gr,5,none⟩ (.int .i64 0)).setCell ⟨gr,6,none⟩ (.slice none 0 0)).setCell ⟨gr,7,none⟩ (.slice none 0 0)=ans8 w6 gr (erA we) none 0 0 none 0 0):=rfl;have DD:=jH (zah (a:=erA we) (w0:=w0) (w:=w) (gt:=gt) (p:=p) (L:=L) (d':=0) (t':=0) (B':=none) (m:=0) (q:=0) (T':=none) BAZ.out HGR.out (HP.out.new N6.out) HN0.out (OwnB.nil _ _ _) rfl (Txs.nil _ _) (fun _ h=>by cases h) rfl (N6.out.mono fun _ _ f=>f.elim));have DB:=jH (zaf (a:=erA we) (d':=0) (t':=0) (B':=none) (m:=0) (q:=0) (T':=none) BAZ.out);clear hK6)
      rw[HLD.out];generalize ans8 w6 gr (erA we) none 0 0 none 0 0=wf at *;have d0:=DB.out.cell 0;have d1:=DB.out.cell 1;have d2:=DB.out.cell 2;have d3:=DB.out.cell 3;have d4:=DB.out.cell 4;have d5:=DB.out.cell 5;have d6:=DB.out.cell 6;have d7:=DB.out.cell 7;simp at d0 d1 d2 d3 d4 d5 d6 d7;refine bodyPost_ret (by simp[results,Tryz.results58,go_sem,d0,d1,d2,d3,d4,d5,d6,d7];try rfl) rfl ?_;rw[E9.out.1,E9.out.2];exact DD.out
end
end Go.Proofs.YtjjamoemheljdaaGreat
