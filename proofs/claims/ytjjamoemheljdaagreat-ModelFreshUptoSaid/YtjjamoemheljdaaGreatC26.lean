/-
  Layer 7: contracts (Yo Yp).
-/
import Derived.Test.YtjjamoemheljdaaGreatC24
import Derived.Test.YtjjamoemheljdaaGreatC25
namespace Go.Proofs.YtjjamoemheljdaaGreat
set_option maxRecDepth 100000
set_option maxHeartbeats 8000000
set_option linter.unusedSimpArgs false
set_option linter.unusedVariables false
section
open Go.RowKit
theorem node_lnk {w0 w:World} {gt p j:Nat} {L:List ND} {y:ND} (h:PT w0 w gt p L) (ho:OrdN L) (hlen:L.length≤1000) (hy:ndI L j=some y):
  ∃(ga pj:Nat),(∀u,New w u→Calls Tryz.prog 72 #[.pointer (some ⟨gt,0,none⟩),.int .i64 j] u (fun e w'=>e=.returned (.pointer (some ⟨ga,pj*5,none⟩))∧New u w')) ∧
   ∀u,New w u→u.cell? ⟨ga,pj*5+2,none⟩=some (.int .i64 y.l)∧u.frozen? ⟨ga,pj*5+2,none⟩=false ∧
    ∀v u',u'=u.setCell ⟨ga,pj*5+2,none⟩ (.int .i64 (v:Nat))→PT w0 u' gt p (lnkE L j v)∧Kept (Tr u gt) u u':=by
 obtain⟨ga,c,es,hB,hO,hL,hD,hN,hgt⟩:=h;subst hL;obtain⟨x,hx,hxn,hxm⟩:=zbg hy;subst hxn
 have hlen:es.length≤1000:=by rwa [zab] at hlen
 refine⟨ga,posI (nds es) j,fun u hu=>?_,fun u hu=>?_⟩
 ·have:=zbq gt (.int .i64 p) ga 0 es.length c es j x.n u (hB.kept hu id) ((hO.new hu).in_) (zab es) ho (by omega) hy
  rwa [Nat.zero_add] at this
 ·obtain⟨hk,q0,q1,q2,q3,q4⟩:=(hO.new hu).in_.get hx;rw[Nat.zero_add] at q2;refine⟨q2,(hO.new hu).free _,fun v u' he=>?_⟩;obtain⟨k1,k2,k3,k4⟩:=PT.cell (hB.kept hu id) (hO.new hu) hD (hN.new hu) hx (j:=2) (n':={ x.n with l:=v }) (by omega) rfl rfl rfl he;refine⟨⟨ga,c,_,by rw[List.length_set];exact k1,k2,lnk_set ho hx (zaa hy).2,k3,k4,hgt⟩,?_⟩;rw[he]
  exact (Kept.set1 u ga _ _).mono fun b _ e=>by subst e;exact .inr (.inl ((hO.new hu).1.at_ _ rfl).1)
theorem mlink_any (w0:World) (gt p:Nat) (L:List ND) (q j d r v d2:Nat) (nm nm2:ByteArray) (w:World) (h:PT w0 w gt p L) (hR:Rt ⟨p,L⟩) {m:List ByteArray} (hp2:LkP L m r v) (hnm:lst m=nm2) (h0:j≠0) (hm:m≠[]∨v≠0) {y:ND} (hy:ndI L j=some y):
  Calls Tryz.prog 56 #[.pointer (some ⟨gt,0,none⟩),.agg #[.int .i64 q,.string nm,.int .i64 j,.int .i64 d],.agg #[.int .i64 r,.string nm2,.int .i64 v,.int .i64 d2]] w (AnsP w0 w gt p ((lnF ⟨p,L⟩ m j r v y).1.l) ((lnF ⟨p,L⟩ m j r v y).2)):=by
 obtain⟨w1,hw1⟩:∃w1,w1=((w.alloc (.cells #[.int .i64 q,.string nm,.int .i64 j,.int .i64 d] 87)).alloc (.cells #[.int .i64 r,.string nm2,.int .i64 v,.int .i64 d2] 87)).alloc (.cells #[.int .i64 0,.int .i64 0,.int .i64 0,.int .u8 0,.int .i64 0,.int .i64 0,.slice none 0 0,.slice none 0 0] 41):=⟨_,rfl⟩
 have N1:Hid (New w w1):=by rw[hw1];exact ((kR.alloc _).alloc _).alloc _
 have BX:Hid (Blk w1 w.heap.size 87 [.int .i64 q,.string nm,.int .i64 j,.int .i64 d]):=by rw[hw1];exact ((Blk.made w _ _).alloc _).alloc _
 have BY:Hid (Blk w1 (w.heap.size+1) 87 [.int .i64 r,.string nm2,.int .i64 v,.int .i64 d2]):=by
  have:=Blk.made (w.alloc (.cells #[.int .i64 q,.string nm,.int .i64 j,.int .i64 d] 87)) 87 #[.int .i64 r,.string nm2,.int .i64 v,.int .i64 d2]
  rw[World.size_alloc] at this;rw[hw1];exact this.alloc _
 have BA:Hid (Blk w1 (w.heap.size+1+1) 41 [.int .i64 0,.int .i64 0,.int .i64 0,.int .u8 0,.int .i64 0,.int .i64 0,.slice none 0 0,.slice none 0 0]):=by
  have:=Blk.made ((w.alloc (.cells #[.int .i64 q,.string nm,.int .i64 j,.int .i64 d] 87)).alloc (.cells #[.int .i64 r,.string nm2,.int .i64 v,.int .i64 d2] 87)) 41 #[.int .i64 0,.int .i64 0,.int .i64 0,.int .u8 0,.int .i64 0,.int .i64 0,.slice none 0 0,.slice none 0 0]
  rw[World.size_alloc,World.size_alloc] at this;rw[hw1];exact this
 have HW:=jH hw1;have HP:=jH h
 have HN0:Hid (New w0 w):=by obtain⟨_,_,_,_,_,_,_,h5,_⟩:=h;exact h5
 have HGT:Hid (gt < w.heap.size):=h.lt;clear hw1;obtain⟨kr,hkr⟩:∃kr,kr=kindE j y.k 2:=⟨_,rfl⟩;have hlen:L.length≤1000:=Nat.le_trans (show L.length≤48 from hR.len) (by omega)
 have CK:Hid (Calls Tryz.prog 87 #[.pointer (some ⟨gt,0,none⟩),.agg #[.int .i64 q,.string nm,.int .i64 j,.int .i64 d],.int .u8 2] w1 (MNew w1 ((kr:Nat):Int))):=by
  rw[hkr];exact kind_node w0 gt p L q j d 2 nm y w1 (h.new N1.out) hR.ord hlen h0 hy
 have CT:Hid (∀u,Calls Tryz.prog 83 #[.agg #[.int .i64 r,.string nm2,.int .i64 v,.int .i64 d2]] u (fun e w'=>e=.returned (.bool (decide (v≠0)))∧New u w')):=fun u=>zbh r nm2 v d2 u
 have hkd:kr=0↔y.k=2:=by
  rw[hkr];unfold kindE;rw[if_neg h0]
  by_cases h2:y.k=2
  ·rw[if_pos h2];simp[h2]
  ·rw[if_neg h2];simp[h2]
 have hkb:kr≠0→kr=14:=fun hk=>by
  rw[hkr] at hk ⊢;unfold kindE at *;rw[if_neg h0] at *
  by_cases h2:y.k=2
  ·rw[if_pos h2] at hk;exact absurd rfl hk
  ·rw[if_neg h2]
 have HBAD:Hid (kr≠0→(lnF ⟨p,L⟩ m j r v y).1.l=L∧(lnF ⟨p,L⟩ m j r v y).2=erA kr):=fun hk=>by
  have h2:y.k≠2:=fun e=>hk (hkd.2 e)
  rw[hkb hk];unfold lnF;rw[if_pos h2];exact⟨rfl,rfl⟩
 have HB2:Hid (kr=0→v≠0→(lnF ⟨p,L⟩ m j r v y).1.l=L∧(lnF ⟨p,L⟩ m j r v y).2=erA 13):=fun hk h2=>by
  unfold lnF;rw[if_neg (fun e=>e (hkd.1 hk)),if_pos h2];exact⟨rfl,rfl⟩
 have HB3:Hid (kr=0→v=0→6≤y.l→(lnF ⟨p,L⟩ m j r v y).1.l=L∧(lnF ⟨p,L⟩ m j r v y).2=erA 3):=fun hk h2 h3=>by
  unfold lnF;rw[if_neg (fun e=>e (hkd.1 hk)),if_neg (fun e=>e h2),if_pos h3];exact⟨rfl,rfl⟩
 have HOK:Hid (kr=0→v=0→¬6≤y.l→(lnF ⟨p,L⟩ m j r v y).1.l=linkE L r nm2 j y.l∧(lnF ⟨p,L⟩ m j r v y).2=erA 0):=fun hk h2 h3=>by
  unfold lnF;rw[if_neg (fun e=>e (hkd.1 hk)),if_neg (fun e=>e h2),if_neg h3,hnm];exact⟨rfl,rfl⟩
 have HEN:Hid (v=0→∀u,PT w0 u gt p (lnkE L j (y.l+1))→Calls Tryz.prog 86 #[.pointer (some ⟨gt,0,none⟩),.agg #[.int .i64 r,.string nm2,.int .i64 v,.int .i64 d2],.int .i64 j] u (fun e w'=>e=.returned (.tuple #[])∧PT w0 w' gt p (linkE L r nm2 j y.l)∧Kept (Tr u gt) u w')):=fun hv u hu=>by
  obtain⟨rn,hrn,_,_,hos⟩:=dir_nd hR hp2 (hm.resolve_right (fun e=>e hv));have hrl:=hR.ns_le (zaa hrn).1
  have hr2:ndI (lnkE L j (y.l+1)) r=some (if r=j then { rn with l:=y.l+1 } else rn):=by
   unfold lnkE;rw[upd_nd (f:=fun n=>{ n with l:=y.l+1 }) (fun _ _=>rfl)]
   by_cases e:r=j
   ·rw[if_pos e,if_pos e,←e,hrn];rfl
   ·rw[if_neg e,if_neg e];exact hrn
  refine enter_any w0 gt p _ r v d2 nm2 _ j u hu (zcq (fun _ _=>rfl) hR.ord) (by unfold lnkE;rw[zcv];exact hlen) hr2 ?_ ?_
  ·split<;>exact hos
  ·split<;>(show rn.ns.length≤1000;omega)
 obtain⟨ga,pj,hCN,hZC⟩:=node_lnk h hR.ord hlen hy;have CN:=jH hCN;have ZC:=jH hZC;have HL6:Hid (y.l≤1000000):=(hR.l1 y (zaa hy).1).2;clear h hR hp2 hnm h0 hy hkr hkd hkb hlen hCN hZC hm;generalize linkE L r nm2 j y.l=L9 at *;generalize (lnF ⟨p,L⟩ m j r v y).1.l=LR at *;generalize (lnF ⟨p,L⟩ m j r v y).2=AR at *;generalize y.l=yl at *;go_enter Tryz.func56,Tryz.ntmps56
 go_upto_region 1 with fail
 rw[←HW.out];clear HW;obtain⟨gr,hgr⟩:∃gr,gr=w.heap.size+1+1:=⟨_,rfl⟩;obtain⟨gk2,hgk2⟩:∃gk2,gk2=w.heap.size+1:=⟨_,rfl⟩;rw[←hgr] at BA ⊢;rw[←hgk2] at BY ⊢
 have HGR:Hid (w.heap.size≤gr):=by rw[Hid,hgr];omega
 have HTA:Hid (¬Tr w1 gt gr):=Tr.not BA.out.at_ (by decide) (by decide) (by have:=HGT.out;omega);have HTX:Hid (¬Tr w1 gt w.heap.size):=Tr.not BX.out.at_ (by decide) (by decide) (by have:=HGT.out;omega);have HTY:Hid (¬Tr w1 gt gk2):=Tr.not BY.out.at_ (by decide) (by decide) (by have:=HGT.out;omega);clear hgr hgk2;obtain⟨b0,b1,b2,b3⟩:=BX.out.p4;obtain⟨gk,hgk⟩:∃gk,gk=w.heap.size:=⟨_,rfl⟩;rw[←hgk] at BX HTX b0 b1 b2 b3 ⊢;clear hgk;have RF:=jH (fun u=>zac kr u)
 by_cases hkr:kr=0
 ·have d0:(((kr:Nat):Int) != 0)=false:=bne_eq_false_iff_eq.2 (by omega)
  by_cases hv0:v≠0
  ·have E9:=jH (HB2.out hkr hv0)
   have CT:Hid (∀u,Calls Tryz.prog 83 #[.agg #[.int .i64 r,.string nm2,.int .i64 v,.int .i64 d2]] u (fun e w'=>e=.returned (.bool true)∧New u w')):=fun u=>by have:=CT.out u;rwa [decide_eq_true hv0] at this
   clear hkr hv0 HEN HOK HBAD HB2 HB3 RF
   go_wp2_with (first
    | (go_at_call 87;refine (CK.out).mono ?_;rintro e w2 ⟨rfl,hK2⟩;have N2:=jH (N1.out.new hK2);have M2:=jH hK2;obtain⟨b0,b1,b2,b3⟩:=(BX.out.kept hK2 (by first|exact id|exact HTX.out)).p4;clear hK2)
    | (go_at_call 72;refine (CN.out w2 N2.out).mono ?_;rintro e w3 ⟨rfl,hK3⟩;have N3:=jH (N2.out.new hK3);have M3:=jH (M2.out.new hK3);obtain⟨b0,b1,b2,b3⟩:=(BX.out.kept M3.out (by first|exact id|exact HTX.out)).p4;obtain⟨c0,c1,c2,c3⟩:=(BY.out.kept M3.out (by first|exact id|exact HTY.out)).p4;clear hK3)
    | (go_at_call 83;refine (CT.out _).mono ?_;rintro e w4 ⟨rfl,hK4⟩;have N4:=jH (N3.out.new hK4);have M4:=jH (M3.out.new hK4);obtain⟨z2,f2,_⟩:=ZC.out w4 N4.out;obtain⟨b0,b1,b2,b3⟩:=(BX.out.kept M4.out (by first|exact id|exact HTX.out)).p4;obtain⟨c0,c1,c2,c3⟩:=(BY.out.kept M4.out (by first|exact id|exact HTY.out)).p4;clear hK4)
    | (go_at_call 32;refine (zac 13 _).mono ?_;rintro e w5 ⟨rfl,hK5⟩;have N5:=jH (N4.out.new hK5);have BAZ:=jH (BA.out.kept (M4.out.new hK5) id);obtain⟨t0,t1,t2,t3,t4,t5,t6,t7⟩:=BAZ.out.p8;obtain⟨f0,f1,f2,f3,f4,f5,f6,f7⟩:=BAZ.out.f8;have HLD:Hid ((((((((w5.setCell ⟨gr,0,none⟩ (.int .i64 13)).setCell ⟨gr,1,none⟩ (.int .i64 0)).setCell ⟨gr,2,none⟩ (.int .i64 0)).setCell ⟨gr,3,none⟩ (.int .u8 0)).setCell ⟨gr,4,none⟩ (.int .i64 0)).setCell ⟨gr,5,none⟩ (.int .i64 0)).setCell ⟨gr,6,none⟩ (.slice none 0 0)).setCell ⟨gr,7,none⟩ (.slice none 0 0)=ans8 w5 gr (erA 13) none 0 0 none 0 0):=rfl;have DD:=jH (zah (a:=erA 13) (w0:=w0) (w:=w) (gt:=gt) (p:=p) (L:=L) (d':=0) (t':=0) (B':=none) (m:=0) (q:=0) (T':=none) BAZ.out HGR.out (HP.out.new N5.out) HN0.out (OwnB.nil _ _ _) rfl (Txs.nil _ _) (fun _ h=>by cases h) rfl (N5.out.mono fun _ _ f=>f.elim));have DB:=jH (zaf (a:=erA 13) (d':=0) (t':=0) (B':=none) (m:=0) (q:=0) (T':=none) BAZ.out);clear hK5))
   rw[HLD.out];generalize ans8 w5 gr (erA 13) none 0 0 none 0 0=wf at *;have d0:=DB.out.cell 0;have d1:=DB.out.cell 1;have d2:=DB.out.cell 2;have d3:=DB.out.cell 3;have d4:=DB.out.cell 4;have d5:=DB.out.cell 5;have d6:=DB.out.cell 6;have d7:=DB.out.cell 7;simp at d0 d1 d2 d3 d4 d5 d6 d7;refine bodyPost_ret (by simp[results,Tryz.results56,go_sem,d0,d1,d2,d3,d4,d5,d6,d7];try rfl) rfl ?_;rw[E9.out.1,E9.out.2];exact DD.out
  ·have CT:Hid (∀u,Calls Tryz.prog 83 #[.agg #[.int .i64 r,.string nm2,.int .i64 v,.int .i64 d2]] u (fun e w'=>e=.returned (.bool false)∧New u w')):=fun u=>by have:=CT.out u;rwa [decide_eq_false hv0] at this
   have hv0:v=0:=Classical.byContradiction hv0
   by_cases hln:6≤yl
   ·have E9:=jH (HB3.out hkr hv0 hln);have d1:decide ((6:Int)≤((yl:Nat):Int))=true:=decide_eq_true (by omega);have d2':decide (6≤yl)=true:=decide_eq_true hln;clear hkr hv0 HEN HOK HBAD HB2 HB3 RF
    go_wp2_with (first
     | (go_at_call 87;refine (CK.out).mono ?_;rintro e w2 ⟨rfl,hK2⟩;have N2:=jH (N1.out.new hK2);have M2:=jH hK2;obtain⟨b0,b1,b2,b3⟩:=(BX.out.kept hK2 (by first|exact id|exact HTX.out)).p4;clear hK2)
     | (go_at_call 72;refine (CN.out w2 N2.out).mono ?_;rintro e w3 ⟨rfl,hK3⟩;have N3:=jH (N2.out.new hK3);have M3:=jH (M2.out.new hK3);obtain⟨b0,b1,b2,b3⟩:=(BX.out.kept M3.out (by first|exact id|exact HTX.out)).p4;obtain⟨c0,c1,c2,c3⟩:=(BY.out.kept M3.out (by first|exact id|exact HTY.out)).p4;clear hK3)
     | (go_at_call 83;refine (CT.out _).mono ?_;rintro e w4 ⟨rfl,hK4⟩;have N4:=jH (N3.out.new hK4);have M4:=jH (M3.out.new hK4);obtain⟨z2,f2,_⟩:=ZC.out w4 N4.out;obtain⟨b0,b1,b2,b3⟩:=(BX.out.kept M4.out (by first|exact id|exact HTX.out)).p4;obtain⟨c0,c1,c2,c3⟩:=(BY.out.kept M4.out (by first|exact id|exact HTY.out)).p4;clear hK4)
     | (go_at_call 32;refine (zac 3 _).mono ?_;rintro e w5 ⟨rfl,hK5⟩;have N5:=jH (N4.out.new hK5);have BAZ:=jH (BA.out.kept (M4.out.new hK5) id);obtain⟨t0,t1,t2,t3,t4,t5,t6,t7⟩:=BAZ.out.p8;obtain⟨f0,f1,f2,f3,f4,f5,f6,f7⟩:=BAZ.out.f8;have HLD:Hid ((((((((w5.setCell ⟨gr,0,none⟩ (.int .i64 3)).setCell ⟨gr,1,none⟩ (.int .i64 0)).setCell ⟨gr,2,none⟩ (.int .i64 0)).setCell ⟨gr,3,none⟩ (.int .u8 0)).setCell ⟨gr,4,none⟩ (.int .i64 0)).setCell ⟨gr,5,none⟩ (.int .i64 0)).setCell ⟨gr,6,none⟩ (.slice none 0 0)).setCell ⟨gr,7,none⟩ (.slice none 0 0)=ans8 w5 gr (erA 3) none 0 0 none 0 0):=rfl;have DD:=jH (zah (a:=erA 3) (w0:=w0) (w:=w) (gt:=gt) (p:=p) (L:=L) (d':=0) (t':=0) (B':=none) (m:=0) (q:=0) (T':=none) BAZ.out HGR.out (HP.out.new N5.out) HN0.out (OwnB.nil _ _ _) rfl (Txs.nil _ _) (fun _ h=>by cases h) rfl (N5.out.mono fun _ _ f=>f.elim));have DB:=jH (zaf (a:=erA 3) (d':=0) (t':=0) (B':=none) (m:=0) (q:=0) (T':=none) BAZ.out);clear hK5))
    rw[HLD.out];generalize ans8 w5 gr (erA 3) none 0 0 none 0 0=wf at *;have d0:=DB.out.cell 0;have d1:=DB.out.cell 1;have d2:=DB.out.cell 2;have d3:=DB.out.cell 3;have d4:=DB.out.cell 4;have d5:=DB.out.cell 5;have d6:=DB.out.cell 6;have d7:=DB.out.cell 7;simp at d0 d1 d2 d3 d4 d5 d6 d7;refine bodyPost_ret (by simp[results,Tryz.results56,go_sem,d0,d1,d2,d3,d4,d5,d6,d7];try rfl) rfl ?_;rw[E9.out.1,E9.out.2];exact DD.out
   ·have E9:=jH (HOK.out hkr hv0 hln);have EN:=jH (HEN.out hv0);have d1:decide ((6:Int)≤((yl:Nat):Int))=false:=decide_eq_false (by omega);have d2':decide (6≤yl)=false:=decide_eq_false hln
    have wl:IntKind.i64.wrap (((yl:Nat):Int)+1)=((yl:Nat):Int)+1:=by have:=HL6.out;rw[IntKind.wrap_i64];omega
    clear hkr hv0 hln HEN HOK HBAD HB2 HB3 RF
    go_upto_region 10 with (first
     | (go_at_call 87;refine (CK.out).mono ?_;rintro e w2 ⟨rfl,hK2⟩;have N2:=jH (N1.out.new hK2);have M2:=jH hK2;obtain⟨b0,b1,b2,b3⟩:=(BX.out.kept hK2 (by first|exact id|exact HTX.out)).p4;clear hK2)
     | (go_at_call 72;refine (CN.out w2 N2.out).mono ?_;rintro e w3 ⟨rfl,hK3⟩;have N3:=jH (N2.out.new hK3);have M3:=jH (M2.out.new hK3);obtain⟨b0,b1,b2,b3⟩:=(BX.out.kept M3.out (by first|exact id|exact HTX.out)).p4;obtain⟨c0,c1,c2,c3⟩:=(BY.out.kept M3.out (by first|exact id|exact HTY.out)).p4;clear hK3)
     | (go_at_call 83;refine (CT.out _).mono ?_;rintro e w4 ⟨rfl,hK4⟩;have N4:=jH (N3.out.new hK4);have M4:=jH (M3.out.new hK4);obtain⟨z2,f2,_⟩:=ZC.out w4 N4.out;obtain⟨b0,b1,b2,b3⟩:=(BX.out.kept M4.out (by first|exact id|exact HTX.out)).p4;obtain⟨c0,c1,c2,c3⟩:=(BY.out.kept M4.out (by first|exact id|exact HTY.out)).p4;clear hK4))
    obtain⟨hP5,hK5⟩:=(ZC.out w4 N4.out).2.2 (yl+1) (w4.setCell ⟨ga,pj*5+2,none⟩ (.int .i64 (((yl:Nat):Int)+1))) rfl;have P5:=jH hP5;have K5:=jH (Tr.new M4.out hK5);have T5:=jH (Tr.new N4.out hK5);clear hP5 hK5 b0 b1 b2 b3 c0 c1 c2 c3 z2 f2;generalize w4.setCell ⟨ga,pj*5+2,none⟩ (.int .i64 (((yl:Nat):Int)+1))=w5 at *;obtain⟨b0,b1,b2,b3⟩:=(BX.out.kept K5.out (by first|exact id|exact HTX.out)).p4;obtain⟨c0,c1,c2,c3⟩:=(BY.out.kept K5.out (by first|exact id|exact HTY.out)).p4
    go_wp2_with (first
     | (go_at_call 86;refine (EN.out w5 P5.out).mono ?_;rintro e w6 ⟨rfl,hP6,hK6⟩;have K6:=jH (Tr.trans K5.out hK6);have T6:=jH (Tr.trans T5.out hK6);have BAZ:=jH (BA.out.kept K6.out HTA.out);obtain⟨t0,t1,t2,t3,t4,t5,t6,t7⟩:=BAZ.out.p8;obtain⟨f0,f1,f2,f3,f4,f5,f6,f7⟩:=BAZ.out.f8;have HLD:Hid ((((((((w6.setCell ⟨gr,0,none⟩ (.int .i64 0)).setCell ⟨gr,1,none⟩ (.int .i64 0)).setCell ⟨gr,2,none⟩ (.int .i64 0)).setCell ⟨gr,3,none⟩ (.int .u8 0)).setCell ⟨gr,4,none⟩ (.int .i64 0)).setCell ⟨gr,5,none⟩ (.int .i64 0)).setCell ⟨gr,6,none⟩ (.slice none 0 0)).setCell ⟨gr,7,none⟩ (.slice none 0 0)=ans8 w6 gr (erA 0) none 0 0 none 0 0):=rfl;have DD:=jH (zah (a:=erA 0) (w0:=w0) (w:=w) (gt:=gt) (p:=p) (L:=L9) (d':=0) (t':=0) (B':=none) (m:=0) (q:=0) (T':=none) BAZ.out HGR.out (hP6) HN0.out (OwnB.nil _ _ _) rfl (Txs.nil _ _) (fun _ h=>by cases h) rfl (T6.out));have DB:=jH (zaf (a:=erA 0) (d':=0) (t':=0) (B':=none) (m:=0) (q:=0) (T':=none) BAZ.out);clear hK6 hP6))
    rw[HLD.out];generalize ans8 w6 gr (erA 0) none 0 0 none 0 0=wf at *;have d0:=DB.out.cell 0;have d1:=DB.out.cell 1;have d2:=DB.out.cell 2;have d3:=DB.out.cell 3;have d4:=DB.out.cell 4;have d5:=DB.out.cell 5;have d6:=DB.out.cell 6;have d7:=DB.out.cell 7;simp at d0 d1 d2 d3 d4 d5 d6 d7;refine bodyPost_ret (by simp[results,Tryz.results56,go_sem,d0,d1,d2,d3,d4,d5,d6,d7];try rfl) rfl ?_;rw[E9.out.1,E9.out.2];exact DD.out
 ·have d0:(((kr:Nat):Int) != 0)=true:=bne_iff_ne.2 (by omega);have E9:=jH (HBAD.out hkr);clear hkr
  go_wp2_with (first
   | (go_at_call 87;refine (CK.out).mono ?_;rintro e w2 ⟨rfl,hK2⟩;have N2:=jH (N1.out.new hK2);have M2:=jH hK2;clear hK2)
   | (go_at_call 32;refine (RF.out _).mono ?_;rintro e w3 ⟨rfl,hK3⟩;have N3:=jH (N2.out.new hK3);have BAZ:=jH (BA.out.kept (M2.out.new hK3) id);obtain⟨t0,t1,t2,t3,t4,t5,t6,t7⟩:=BAZ.out.p8;obtain⟨f0,f1,f2,f3,f4,f5,f6,f7⟩:=BAZ.out.f8;have HLD:Hid ((((((((w3.setCell ⟨gr,0,none⟩ (.int .i64 (kr:Nat))).setCell ⟨gr,1,none⟩ (.int .i64 0)).setCell ⟨gr,2,none⟩ (.int .i64 0)).setCell ⟨gr,3,none⟩ (.int .u8 0)).setCell ⟨gr,4,none⟩ (.int .i64 0)).setCell ⟨gr,5,none⟩ (.int .i64 0)).setCell ⟨gr,6,none⟩ (.slice none 0 0)).setCell ⟨gr,7,none⟩ (.slice none 0 0)=ans8 w3 gr (erA kr) none 0 0 none 0 0):=rfl;have DD:=jH (zah (a:=erA kr) (w0:=w0) (w:=w) (gt:=gt) (p:=p) (L:=L) (d':=0) (t':=0) (B':=none) (m:=0) (q:=0) (T':=none) BAZ.out HGR.out (HP.out.new N3.out) HN0.out (OwnB.nil _ _ _) rfl (Txs.nil _ _) (fun _ h=>by cases h) rfl (N3.out.mono fun _ _ f=>f.elim));have DB:=jH (zaf (a:=erA kr) (d':=0) (t':=0) (B':=none) (m:=0) (q:=0) (T':=none) BAZ.out);clear hK3))
  rw[HLD.out];generalize ans8 w3 gr (erA kr) none 0 0 none 0 0=wf at *;have d0:=DB.out.cell 0;have d1:=DB.out.cell 1;have d2:=DB.out.cell 2;have d3:=DB.out.cell 3;have d4:=DB.out.cell 4;have d5:=DB.out.cell 5;have d6:=DB.out.cell 6;have d7:=DB.out.cell 7;simp at d0 d1 d2 d3 d4 d5 d6 d7;refine bodyPost_ret (by simp[results,Tryz.results56,go_sem,d0,d1,d2,d3,d4,d5,d6,d7];try rfl) rfl ?_;rw[E9.out.1,E9.out.2];exact DD.out
end
section
open Go.RowKit
theorem most_any (w0:World) (gt p:Nat) (L:List ND) (w:World) (h:PT w0 w gt p L) (hp:p≤1000000):Calls Tryz.prog 95 #[.pointer (some ⟨gt,0,none⟩)] w (MNum w ((8*p:Nat):Int)):=by
 have y0:w.cell? ⟨gt,0,none⟩=some (.int .i64 p):=by obtain⟨_,_,_,hB,_⟩:=h;exact hB.cell 0
 have wp:IntKind.i64.wrap (8*((p:Nat):Int))=8*((p:Nat):Int):=by rw[IntKind.wrap_i64];omega
 clear h;go_enter Tryz.func95,Tryz.ntmps95;go_wp2;go_ret;exact⟨by simp,rfl⟩
def fE (k:Nat) (av nv:Int):Nat:=if k≠2 then 14 else if av < 0∨nv < 0 then 2 else 0
def fileV (ga pj:Nat):Nat→Value
 | 0=>.pointer (some ⟨ga,pj*5,none⟩)
 | _+1=>.pointer none
theorem fileat_any (w0:World) (gt p ga pj:Nat) (L:List ND) (q j d:Nat) (nm:ByteArray) (kk:Nat) (sp st:ByteArray) (av nv:Int) (Ab:Option Addr) (bl bc:Nat) (y:ND) (w:World) (h:PT w0 w gt p L) (ho:OrdN L) (hlen:L.length≤1000) (h0:j≠0) (hy:ndI L j=some y)
  (hCN:∀u,New w u→Calls Tryz.prog 72 #[.pointer (some ⟨gt,0,none⟩),.int .i64 j] u (fun e w'=>e=.returned (.pointer (some ⟨ga,pj*5,none⟩))∧New u w')):
  Calls Tryz.prog 94 #[.pointer (some ⟨gt,0,none⟩),.agg #[.int .i64 q,.string nm,.int .i64 j,.int .i64 d],.agg #[.int .u8 kk,.string sp,.string st,.int .i64 av,.int .i64 nv,.slice Ab bl bc]] w (fun e w'=>e=.returned (.tuple #[fileV ga pj (fE y.k av nv),.int .i64 (fE y.k av nv:Nat)])∧New w w'):=by
 obtain⟨w1,hw1⟩:∃w1,w1=(w.alloc (.cells #[.int .i64 q,.string nm,.int .i64 j,.int .i64 d] 87)).alloc (.cells #[.int .u8 kk,.string sp,.string st,.int .i64 av,.int .i64 nv,.slice Ab bl bc] 34):=⟨_,rfl⟩
 have N1:Hid (New w w1):=by rw[hw1];exact (kR.alloc _).alloc _
 have BX:Hid (Blk w1 w.heap.size 87 [.int .i64 q,.string nm,.int .i64 j,.int .i64 d]):=by rw[hw1];exact (Blk.made w _ _).alloc _
 have BC:Hid (Blk w1 (w.heap.size+1) 34 [.int .u8 kk,.string sp,.string st,.int .i64 av,.int .i64 nv,.slice Ab bl bc]):=by
  have:=Blk.made (w.alloc (.cells #[.int .i64 q,.string nm,.int .i64 j,.int .i64 d] 87)) 34 #[.int .u8 kk,.string sp,.string st,.int .i64 av,.int .i64 nv,.slice Ab bl bc]
  rw[World.size_alloc] at this;rw[hw1];exact this
 have HW:=jH hw1;obtain⟨kr,hkr⟩:∃kr,kr=kindE j y.k 2:=⟨_,rfl⟩
 have CK:Hid (Calls Tryz.prog 87 #[.pointer (some ⟨gt,0,none⟩),.agg #[.int .i64 q,.string nm,.int .i64 j,.int .i64 d],.int .u8 2] w1 (MNew w1 ((kr:Nat):Int))):=by
  rw[hkr];exact kind_node w0 gt p L q j d 2 nm y w1 (h.new N1.out) ho hlen h0 hy
 have CN:=jH hCN
 have HK:Hid (kr=if y.k=2 then 0 else 14):=by rw[hkr];unfold kindE;rw[Hid,if_neg h0]
 obtain⟨b0,b1,b2,b3⟩:=BX.out.p4;clear hw1 h ho hlen h0 hy hkr hCN;generalize y.k=yk at *;obtain⟨gk,hgk⟩:∃gk,gk=w.heap.size:=⟨_,rfl⟩
 by_cases hk2:yk=2
 ·have HK:Hid (kr=0):=by rw[Hid,HK.out,if_pos hk2]
  rw[HK.out] at CK
  by_cases hneg:av < 0∨nv < 0
  ·have HE:Hid (fE yk av nv=2):=by unfold fE;rw[Hid,if_neg (fun e=>e hk2),if_pos hneg]
   clear hk2 HK
   by_cases ha:av < 0
   ·have e1:decide (av < 0)=true:=decide_eq_true ha;clear hneg ha;go_enter Tryz.func94,Tryz.ntmps94
    go_upto_region 1 with fail
    rw[←HW.out];clear HW;rw[←hgk] at BX BC b0 b1 b2 b3 ⊢;clear hgk
    go_wp2_with (go_at_call 87;refine CK.out.mono ?_;rintro e w2 ⟨rfl,hK2⟩;have N2:=jH (N1.out.new hK2);have c3:=(BC.out.kept hK2 id).q3;have c4:=(BC.out.kept hK2 id).q4;clear hK2)
    go_ret2;exact⟨by rw[HE.out];rfl,N2.out⟩
   ·have e1:decide (av < 0)=false:=decide_eq_false ha;have e2:decide (nv < 0)=true:=decide_eq_true (hneg.resolve_left ha);clear hneg ha;go_enter Tryz.func94,Tryz.ntmps94
    go_upto_region 1 with fail
    rw[←HW.out];clear HW;rw[←hgk] at BX BC b0 b1 b2 b3 ⊢;clear hgk
    go_wp2_with (go_at_call 87;refine CK.out.mono ?_;rintro e w2 ⟨rfl,hK2⟩;have N2:=jH (N1.out.new hK2);have c3:=(BC.out.kept hK2 id).q3;have c4:=(BC.out.kept hK2 id).q4;clear hK2)
    go_ret2;exact⟨by rw[HE.out];rfl,N2.out⟩
  ·have HE:Hid (fE yk av nv=0):=by unfold fE;rw[Hid,if_neg (fun e=>e hk2),if_neg hneg]
   have e1:decide (av < 0)=false:=decide_eq_false fun e=>hneg (.inl e)
   have e2:decide (nv < 0)=false:=decide_eq_false fun e=>hneg (.inr e)
   clear hk2 HK hneg;go_enter Tryz.func94,Tryz.ntmps94
   go_upto_region 1 with fail
   rw[←HW.out];clear HW;rw[←hgk] at BX BC b0 b1 b2 b3 ⊢;clear hgk
   go_wp2_with (first
    | (go_at_call 87;refine CK.out.mono ?_;rintro e w2 ⟨rfl,hK2⟩;have N2:=jH (N1.out.new hK2);have c3:=(BC.out.kept hK2 id).q3;have c4:=(BC.out.kept hK2 id).q4;have b2:=(BX.out.kept hK2 id).q2;clear hK2)
    | (go_at_call 72;refine (CN.out w2 N2.out).mono ?_;rintro e w3 ⟨rfl,hK3⟩;have N3:=jH (N2.out.new hK3);clear hK3))
   go_ret2;exact⟨by rw[HE.out];rfl,N3.out⟩
 ·have HK:Hid (kr=14):=by rw[Hid,HK.out,if_neg hk2]
  rw[HK.out] at CK
  have HE:Hid (fE yk av nv=14):=by unfold fE;rw[Hid,if_pos hk2]
  clear hk2 HK;go_enter Tryz.func94,Tryz.ntmps94
  go_upto_region 1 with fail
  rw[←HW.out];clear HW;rw[←hgk] at BX BC b0 b1 b2 b3 ⊢;clear hgk
  go_wp2_with (go_at_call 87;refine CK.out.mono ?_;rintro e w2 ⟨rfl,hK2⟩;have N2:=jH (N1.out.new hK2);clear hK2)
  go_ret2;exact⟨by rw[HE.out];rfl,N2.out⟩
theorem file_on {w0 w:World} {gt p j:Nat} {L:List ND} {y:ND} (h:PT w0 w gt p L) (ho:OrdN L) (hlen:L.length≤1000) (h0:j≠0) (hy:ndI L j=some y) (q d kk bl bc:Nat) (nm sp st:ByteArray) (av nv:Int) (Ab:Option Addr):
  ∃(ga pj:Nat) (x:NE),x.n=y∧(∀u,New w u→Calls Tryz.prog 94 #[.pointer (some ⟨gt,0,none⟩),.agg #[.int .i64 q,.string nm,.int .i64 j,.int .i64 d],.agg #[.int .u8 kk,.string sp,.string st,.int .i64 av,.int .i64 nv,.slice Ab bl bc]] u (fun e w'=>e=.returned (.tuple #[fileV ga pj (fE y.k av nv),.int .i64 (fE y.k av nv:Nat)])∧New u w')) ∧
   (∀u,New w u→u.cell? ⟨ga,pj*5+4,none⟩=some (.slice x.B y.b.length x.d)∧u.frozen? ⟨ga,pj*5+4,none⟩=false∧Bts u x.B y.b.length y.b∧y.b.length≤x.d) ∧
   ∀u gb m b' u',New w u→OwnB u 5 w0.heap.size (some ⟨gb,0,none⟩) m b'→b'.length=m→u'=u.setCell ⟨ga,pj*5+4,none⟩ (.slice (some ⟨gb,0,none⟩) m m)→PT w0 u' gt p (bytE L j b')∧Kept (Tr u gt) u u':=by
 have h':=h;obtain⟨ga,c,es,hB,hO,hL,hD,hN,hgt⟩:=h;subst hL;obtain⟨x,hx,hxn,hxm⟩:=zbg hy;subst hxn
 have hle:es.length≤1000:=by rwa [zab] at hlen
 refine⟨ga,posI (nds es) j,x,rfl,fun u hu=>?_,fun u hu=>?_,fun u gb m b' u' hu hb hm he=>?_⟩
 ·refine fileat_any w0 gt p ga (posI (nds es) j) (nds es) q j d nm kk sp st av nv Ab bl bc x.n u (h'.new hu) ho hlen h0 hy fun v hv=>?_
  have:=zbq gt (.int .i64 p) ga 0 es.length c es j x.n v ((hB.kept hu id).kept hv id) (((hO.new hu).new hv).in_) (zab es) ho (by omega) hy
  rwa [Nat.zero_add] at this
 ·obtain⟨hk,q0,q1,q2,q3,q4⟩:=(hO.new hu).in_.get hx;rw[Nat.zero_add] at q4;exact⟨q4,(hO.new hu).free _,hk.2.1,hk.2.2.2⟩
 ·have hO:=hO.new hu;have hB:=hB.kept hu id;have hgaat:=hO.1.at_ _ rfl
  have hKS:Kept (·=ga) u u':=by rw[he];exact Kept.set1 _ _ _ _
  have hxO:=(hO.2 x hxm).box hKS hgaat.1;refine⟨⟨ga,c,es.set (posI (nds es) j) { x with n:={ x.n with b:=b' },B:=some ⟨gb,0,none⟩,d:=m },by rw[List.length_set];exact hB.kept hKS (hB.at_.ne_of hgaat.1 (by decide)),TOwn.set hO hx (j:=4) (by omega) (by subst hm;rfl) he ⟨hxO.1,?_⟩,?_,hD.set fun i y a b hi hy ha hb e2=>hD i _ y x a b hi hy hx ha hb e2,(hN.new hu).trans hKS fun i hi e2=>by have:=hgaat.2;subst e2;exact absurd hi (Nat.not_lt.2 this),hgt⟩,by rw[he];exact (Kept.set1 u ga _ _).mono fun b _ e=>by subst e;exact .inr (.inl hgaat.1)⟩
  ·exact hb.kept hKS fun a ha e2=>(hb.at_ a ha).1.ne_of hgaat.1 (by decide) e2
  ·rw[nds_set];exact (upd_set ho (zbc hx) fun n=>{ n with b:=b' }).symm.trans (congrArg (fun t=>updI (nds es) t fun n=>{ n with b:=b' }) (zaa hy).2)
theorem cut_cells (b:List Nat) (m:Nat):(b.map byt).take (Nat.min b.length m*1)++zer [.int .u8 0] (m - Nat.min b.length m)=(cutB b m).map byt:=by
 unfold cutB;rw[List.map_append,←zer_byt,List.map_take,Nat.mul_one]
 rcases Nat.le_total b.length m with h|h
 ·rw[show Nat.min b.length m=b.length from Nat.min_eq_left h,List.take_of_length_le (l:=b.map byt) (by simp),List.take_of_length_le (l:=b.map byt) (by simpa using h)]
 ·rw[show Nat.min b.length m=m from Nat.min_eq_right h,Nat.sub_self,show m - b.length=0 by omega]
end
end Go.Proofs.YtjjamoemheljdaaGreat
