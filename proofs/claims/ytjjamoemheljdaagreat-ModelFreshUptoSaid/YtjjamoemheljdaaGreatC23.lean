/-
  Layer 7: contracts (Yl Ym).
-/
import Derived.Test.YtjjamoemheljdaaGreatC22
namespace Go.Proofs.YtjjamoemheljdaaGreat
set_option maxRecDepth 100000
set_option maxHeartbeats 8000000
set_option linter.unusedSimpArgs false
set_option linter.unusedVariables false
section
open Go.RowKit
theorem ent_has {n:ND} {x:ByteArray} (h:entF n.ns x≠0):zbn x n.ns:=Classical.byContradiction fun hn=>h (entF_none hn)
theorem lose_on {T:TT} (h:Rt T) {g:List ByteArray} {q j:Nat} {y:ND} (hp:LkP T.l g q j) (h0:j≠0) (h1:j≠1) (hy:ndI T.l j=some y):
  ∃qn y2,ndI T.l q=some qn∧OrdS qn.ns∧qn.ns.length≤1000∧zbn (lst g) qn.ns∧ndI (delE T.l q (lst g)) j=some y2∧y2.l=y.l∧1≤y2.l∧y2.l≤1000000:=by
 have hg:g≠[]:=by
  rcases hp.here with ⟨_,_,h3⟩|⟨l,x,n,h3,_⟩
  ·exact absurd h3 h1
  ·rw[h3];simp
 obtain⟨qn,hq,_,hj,hos⟩:=dir_nd h hp hg;have hl:=h.l1 y (zaa hy).1;refine⟨qn,_,hq,hos,by have:=h.ns_le (zaa hq).1;omega,ent_has (by rw[←hj];exact h0),del_nd hy,?_,?_,?_⟩
 all_goals split<;>first|rfl|exact hl.1|exact hl.2
theorem unlink_any (w0:World) (gt p:Nat) (L:List ND) (q j d:Nat) (nm:ByteArray) (w:World) (h:PT w0 w gt p L) (hR:Rt ⟨p,L⟩) {g:List ByteArray} (hp:LkP L g q j) (hnm:lst g=nm) (h0:j≠0) {y:ND} (hy:ndI L j=some y):
  Calls Tryz.prog 57 #[.pointer (some ⟨gt,0,none⟩),.agg #[.int .i64 q,.string nm,.int .i64 j,.int .i64 d]] w (AnsP w0 w gt p ((ulF ⟨p,L⟩ g q j y).1.l) ((ulF ⟨p,L⟩ g q j y).2)):=by
 obtain⟨w1,hw1⟩:∃w1,w1=(w.alloc (.cells #[.int .i64 q,.string nm,.int .i64 j,.int .i64 d] 87)).alloc (.cells #[.int .i64 0,.int .i64 0,.int .i64 0,.int .u8 0,.int .i64 0,.int .i64 0,.slice none 0 0,.slice none 0 0] 41):=⟨_,rfl⟩
 have N1:Hid (New w w1):=by rw[hw1];exact (kR.alloc _).alloc _
 have BX:Hid (Blk w1 w.heap.size 87 [.int .i64 q,.string nm,.int .i64 j,.int .i64 d]):=by rw[hw1];exact (Blk.made w _ _).alloc _
 have BA:Hid (Blk w1 (w.heap.size+1) 41 [.int .i64 0,.int .i64 0,.int .i64 0,.int .u8 0,.int .i64 0,.int .i64 0,.slice none 0 0,.slice none 0 0]):=by
  have:=Blk.made (w.alloc (.cells #[.int .i64 q,.string nm,.int .i64 j,.int .i64 d] 87)) 41 #[.int .i64 0,.int .i64 0,.int .i64 0,.int .u8 0,.int .i64 0,.int .i64 0,.slice none 0 0,.slice none 0 0]
  rw[World.size_alloc] at this;rw[hw1];exact this
 have HW:=jH hw1;have HP:=jH h
 have HN0:Hid (New w0 w):=by obtain⟨_,_,_,_,_,_,_,h5,_⟩:=h;exact h5
 have HGT:Hid (gt < w.heap.size):=h.lt;clear hw1;obtain⟨kr,hkr⟩:∃kr,kr=kindE j y.k 2:=⟨_,rfl⟩
 have CK:Hid (Calls Tryz.prog 87 #[.pointer (some ⟨gt,0,none⟩),.agg #[.int .i64 q,.string nm,.int .i64 j,.int .i64 d],.int .u8 2] w1 (MNew w1 ((kr:Nat):Int))):=by
  rw[hkr];exact kind_node w0 gt p L q j d 2 nm y w1 (h.new N1.out) hR.ord (Nat.le_trans (show L.length≤48 from hR.len) (by omega)) h0 hy
 have HBAD:Hid (kr≠0→(ulF ⟨p,L⟩ g q j y).1.l=L∧(ulF ⟨p,L⟩ g q j y).2=erA kr):=fun hk=>by
  rw[hkr] at hk ⊢;unfold kindE at *;rw[if_neg h0] at *
  by_cases h2:y.k=2
  ·rw[if_pos h2] at hk;exact absurd rfl hk
  ·unfold ulF;rw[if_neg h2,if_pos h2];exact⟨rfl,rfl⟩
 have HOK:Hid (kr=0→(ulF ⟨p,L⟩ g q j y).1.l=zba L q nm j y.l∧(ulF ⟨p,L⟩ g q j y).2=erA 0):=fun hk=>by
  rw[hkr] at hk;unfold kindE at hk;rw[if_neg h0] at hk
  by_cases h2:y.k=2
  ·unfold ulF;rw[if_neg (fun e=>e h2),hnm];exact⟨rfl,rfl⟩
  ·rw[if_neg h2] at hk;cases hk
 have HLO:Hid (kr=0→∀u,PT w0 u gt p L→Calls Tryz.prog 89 #[.pointer (some ⟨gt,0,none⟩),.agg #[.int .i64 q,.string nm,.int .i64 j,.int .i64 d]] u (fun e w'=>e=.returned (.tuple #[])∧PT w0 w' gt p (zba L q nm j y.l)∧Kept (Tr u gt) u w')):=fun hk u hu=>by
  have h1:j≠1:=fun e=>by
   rw[hkr] at hk;unfold kindE at hk;rw[if_neg h0] at hk;obtain⟨r,hr1,hr2⟩:=hR.one;have hr1:ndI L 1=some r:=hr1;rw[←e,hy] at hr1
   injection hr1 with hr1
   subst hr1;rw[if_neg (by rw[hr2];decide)] at hk;cases hk
  obtain⟨qn,y2,g1,g2,g3,g4,g5,g6,g7,g8⟩:=lose_on hR hp h0 h1 hy;rw[hnm] at g4 g5;rw[←g6];exact mlose_any w0 gt p L q j d nm qn y2 u hu hR.ord (Nat.le_trans (show L.length≤48 from hR.len) (by omega)) g1 g2 g3 g4 g5 g7 g8
 clear h hR hp hnm h0 hy hkr;generalize zba L q nm j y.l=L9 at *;generalize (ulF ⟨p,L⟩ g q j y).1.l=LR at *;generalize (ulF ⟨p,L⟩ g q j y).2=AR at *;go_enter Tryz.func57,Tryz.ntmps57
 go_upto_region 1 with fail
 rw[←HW.out];clear HW;obtain⟨gr,hgr⟩:∃gr,gr=w.heap.size+1:=⟨_,rfl⟩;rw[←hgr] at BA ⊢
 have HGR:Hid (w.heap.size≤gr):=by rw[Hid,hgr];exact Nat.le_succ _
 have HTA:Hid (¬Tr w1 gt gr):=Tr.not BA.out.at_ (by decide) (by decide) (by have:=HGT.out;omega);have HTX:Hid (¬Tr w1 gt w.heap.size):=Tr.not BX.out.at_ (by decide) (by decide) (by have:=HGT.out;omega);clear hgr;obtain⟨b0,b1,b2,b3⟩:=BX.out.p4;obtain⟨gk,hgk⟩:∃gk,gk=w.heap.size:=⟨_,rfl⟩;rw[←hgk] at BX HTX b0 b1 b2 b3 ⊢;clear hgk;have RF:=jH (fun u=>zac kr u)
 by_cases hkr:kr=0
 ·have d0:(((kr:Nat):Int) != 0)=false:=bne_eq_false_iff_eq.2 (by omega);have E9:=jH (HOK.out hkr);have LO:=jH (HLO.out hkr);clear hkr HLO HOK HBAD RF
  go_wp2_with (first
   | (go_at_call 87;refine (CK.out).mono ?_;rintro e w2 ⟨rfl,hK2⟩;have N2:=jH (N1.out.new hK2);have M2:=jH hK2;obtain⟨b0,b1,b2,b3⟩:=(BX.out.kept hK2 (by first|exact id|exact HTX.out)).p4;clear hK2)
   | (go_at_call 89;refine (LO.out w2 (HP.out.new N2.out)).mono ?_;rintro e w3 ⟨rfl,hP3,hK3⟩;have HT3:=jH (Tr.back (i:=gr) (gt:=gt) M2.out (fun _ x=>False.elim x) BA.out.lt);have BAZ:=jH ((BA.out.kept M2.out id).kept hK3 (fun e=>HTA.out (HT3.out e)));obtain⟨t0,t1,t2,t3,t4,t5,t6,t7⟩:=BAZ.out.p8;obtain⟨f0,f1,f2,f3,f4,f5,f6,f7⟩:=BAZ.out.f8;have HLD:Hid ((((((((w3.setCell ⟨gr,0,none⟩ (.int .i64 0)).setCell ⟨gr,1,none⟩ (.int .i64 0)).setCell ⟨gr,2,none⟩ (.int .i64 0)).setCell ⟨gr,3,none⟩ (.int .u8 0)).setCell ⟨gr,4,none⟩ (.int .i64 0)).setCell ⟨gr,5,none⟩ (.int .i64 0)).setCell ⟨gr,6,none⟩ (.slice none 0 0)).setCell ⟨gr,7,none⟩ (.slice none 0 0)=ans8 w3 gr (erA 0) none 0 0 none 0 0):=rfl;have DD:=jH (zah (a:=erA 0) (w0:=w0) (w:=w) (gt:=gt) (p:=p) (L:=L9) (d':=0) (t':=0) (B':=none) (m:=0) (q:=0) (T':=none) BAZ.out HGR.out (hP3) HN0.out (OwnB.nil _ _ _) rfl (Txs.nil _ _) (fun _ h=>by cases h) rfl (Tr.new N2.out hK3));have DB:=jH (zaf (a:=erA 0) (d':=0) (t':=0) (B':=none) (m:=0) (q:=0) (T':=none) BAZ.out);clear hK3 hP3))
  rw[HLD.out];generalize ans8 w3 gr (erA 0) none 0 0 none 0 0=wf at *;have d0:=DB.out.cell 0;have d1:=DB.out.cell 1;have d2:=DB.out.cell 2;have d3:=DB.out.cell 3;have d4:=DB.out.cell 4;have d5:=DB.out.cell 5;have d6:=DB.out.cell 6;have d7:=DB.out.cell 7;simp at d0 d1 d2 d3 d4 d5 d6 d7;refine bodyPost_ret (by simp[results,Tryz.results57,go_sem,d0,d1,d2,d3,d4,d5,d6,d7];try rfl) rfl ?_;rw[E9.out.1,E9.out.2];exact DD.out
 ·have d0:(((kr:Nat):Int) != 0)=true:=bne_iff_ne.2 (by omega);have E9:=jH (HBAD.out hkr);clear hkr
  go_wp2_with (first
   | (go_at_call 87;refine (CK.out).mono ?_;rintro e w2 ⟨rfl,hK2⟩;have N2:=jH (N1.out.new hK2);have M2:=jH hK2;clear hK2)
   | (go_at_call 32;refine (RF.out _).mono ?_;rintro e w3 ⟨rfl,hK3⟩;have N3:=jH (N2.out.new hK3);have BAZ:=jH (BA.out.kept (M2.out.new hK3) id);obtain⟨t0,t1,t2,t3,t4,t5,t6,t7⟩:=BAZ.out.p8;obtain⟨f0,f1,f2,f3,f4,f5,f6,f7⟩:=BAZ.out.f8;have HLD:Hid ((((((((w3.setCell ⟨gr,0,none⟩ (.int .i64 (kr:Nat))).setCell ⟨gr,1,none⟩ (.int .i64 0)).setCell ⟨gr,2,none⟩ (.int .i64 0)).setCell ⟨gr,3,none⟩ (.int .u8 0)).setCell ⟨gr,4,none⟩ (.int .i64 0)).setCell ⟨gr,5,none⟩ (.int .i64 0)).setCell ⟨gr,6,none⟩ (.slice none 0 0)).setCell ⟨gr,7,none⟩ (.slice none 0 0)=ans8 w3 gr (erA kr) none 0 0 none 0 0):=rfl;have DD:=jH (zah (a:=erA kr) (w0:=w0) (w:=w) (gt:=gt) (p:=p) (L:=L) (d':=0) (t':=0) (B':=none) (m:=0) (q:=0) (T':=none) BAZ.out HGR.out (HP.out.new N3.out) HN0.out (OwnB.nil _ _ _) rfl (Txs.nil _ _) (fun _ h=>by cases h) rfl (N3.out.mono fun _ _ f=>f.elim));have DB:=jH (zaf (a:=erA kr) (d':=0) (t':=0) (B':=none) (m:=0) (q:=0) (T':=none) BAZ.out);clear hK3))
  rw[HLD.out];generalize ans8 w3 gr (erA kr) none 0 0 none 0 0=wf at *;have d0:=DB.out.cell 0;have d1:=DB.out.cell 1;have d2:=DB.out.cell 2;have d3:=DB.out.cell 3;have d4:=DB.out.cell 4;have d5:=DB.out.cell 5;have d6:=DB.out.cell 6;have d7:=DB.out.cell 7;simp at d0 d1 d2 d3 d4 d5 d6 d7;refine bodyPost_ret (by simp[results,Tryz.results57,go_sem,d0,d1,d2,d3,d4,d5,d6,d7];try rfl) rfl ?_;rw[E9.out.1,E9.out.2];exact DD.out
end
section
open Go.RowKit
theorem root_iff {T:TT} (h:Rt T) {gl:List ByteArray} {q j:Nat} (hp:LkP T.l gl q j) (h0:j≠0):gl.length=0↔j=1:=by
 rcases hp.here with ⟨e1,_,e3⟩|⟨l,x,n,e1,_,hn,_,hj⟩
 ·rw[e1,e3];simp
 ·refine⟨fun e=>by rw[e1] at e;simp at e,fun e=>?_⟩
  have:=h.root_none (zaa hn).1 (zcl (by rw[←hj];exact h0))
  exact absurd (hj.symm.trans e) this
theorem node_on {w0 w:World} {gt p j:Nat} {L:List ND} {y:ND} (h:PT w0 w gt p L) (ho:OrdN L) (hlen:L.length≤1000) (hy:ndI L j=some y):
  ∃(ga pj:Nat) (x:NE),x.n=y∧(∀u,New w u→Calls Tryz.prog 72 #[.pointer (some ⟨gt,0,none⟩),.int .i64 j] u (fun e w'=>e=.returned (.pointer (some ⟨ga,pj*5,none⟩))∧New u w')) ∧
   ∀u,New w u→u.cell? ⟨ga,pj*5,none⟩=some (.int .i64 y.i)∧u.cell? ⟨ga,pj*5+1,none⟩=some (.int .u8 y.k)∧u.cell? ⟨ga,pj*5+2,none⟩=some (.int .i64 y.l) ∧
    u.cell? ⟨ga,pj*5+3,none⟩=some (.slice x.A y.ns.length x.c)∧u.cell? ⟨ga,pj*5+4,none⟩=some (.slice x.B y.b.length x.d)∧NmIn u x.A y.ns∧Bts u x.B y.b.length y.b∧∀a,x.A=some a→At u a.block 65:=by
 obtain⟨ga,c,es,hB,hO,hL,hD,hN,hgt⟩:=h;subst hL;obtain⟨x,hx,hxn,hxm⟩:=zbg hy;subst hxn
 have hlen:es.length≤1000:=by rwa [zab] at hlen
 refine⟨ga,posI (nds es) j,x,rfl,fun u hu=>?_,fun u hu=>?_⟩
 ·have:=zbq gt (.int .i64 p) ga 0 es.length c es j x.n u (hB.kept hu id) ((hO.new hu).in_) (zab es) ho (by omega) hy
  rwa [Nat.zero_add] at this
 ·obtain⟨hk,q0,q1,q2,q3,q4⟩:=(hO.new hu).in_.get hx;rw[Nat.zero_add] at q0 q1 q2 q3 q4;exact⟨q0,q1,q2,q3,q4,hk.1,hk.2.1,fun a ha=>(((hO.new hu).2 x hxm).1.at_ a ha).1⟩
theorem rmdir_any (w0:World) (gt p:Nat) (L:List ND) (q j d:Nat) (nm:ByteArray) (w:World) (h:PT w0 w gt p L) (hR:Rt ⟨p,L⟩) {g:List ByteArray} (hp:LkP L g q j) (hnm:lst g=nm) (hd:g.length=d) (h0:j≠0) {y:ND} (hy:ndI L j=some y):
  Calls Tryz.prog 55 #[.pointer (some ⟨gt,0,none⟩),.agg #[.int .i64 q,.string nm,.int .i64 j,.int .i64 d]] w (AnsP w0 w gt p ((rmF ⟨p,L⟩ g q j y).1.l) ((rmF ⟨p,L⟩ g q j y).2)):=by
 obtain⟨w1,hw1⟩:∃w1,w1=(w.alloc (.cells #[.int .i64 q,.string nm,.int .i64 j,.int .i64 d] 87)).alloc (.cells #[.int .i64 0,.int .i64 0,.int .i64 0,.int .u8 0,.int .i64 0,.int .i64 0,.slice none 0 0,.slice none 0 0] 41):=⟨_,rfl⟩
 have N1:Hid (New w w1):=by rw[hw1];exact (kR.alloc _).alloc _
 have BX:Hid (Blk w1 w.heap.size 87 [.int .i64 q,.string nm,.int .i64 j,.int .i64 d]):=by rw[hw1];exact (Blk.made w _ _).alloc _
 have BA:Hid (Blk w1 (w.heap.size+1) 41 [.int .i64 0,.int .i64 0,.int .i64 0,.int .u8 0,.int .i64 0,.int .i64 0,.slice none 0 0,.slice none 0 0]):=by
  have:=Blk.made (w.alloc (.cells #[.int .i64 q,.string nm,.int .i64 j,.int .i64 d] 87)) 41 #[.int .i64 0,.int .i64 0,.int .i64 0,.int .u8 0,.int .i64 0,.int .i64 0,.slice none 0 0,.slice none 0 0]
  rw[World.size_alloc] at this;rw[hw1];exact this
 have HW:=jH hw1;have HP:=jH h
 have HN0:Hid (New w0 w):=by obtain⟨_,_,_,_,_,_,_,h5,_⟩:=h;exact h5
 have HGT:Hid (gt < w.heap.size):=h.lt;clear hw1;obtain⟨kr,hkr⟩:∃kr,kr=kindE j y.k 1:=⟨_,rfl⟩;have hlen:L.length≤1000:=Nat.le_trans (show L.length≤48 from hR.len) (by omega)
 have CK:Hid (Calls Tryz.prog 87 #[.pointer (some ⟨gt,0,none⟩),.agg #[.int .i64 q,.string nm,.int .i64 j,.int .i64 d],.int .u8 1] w1 (MNew w1 ((kr:Nat):Int))):=by
  rw[hkr];exact kind_node w0 gt p L q j d 1 nm y w1 (h.new N1.out) hR.ord hlen h0 hy
 have CR:Hid (∀u,Calls Tryz.prog 88 #[.agg #[.int .i64 q,.string nm,.int .i64 j,.int .i64 d]] u (fun e w'=>e=.returned (.bool (decide (d=0)))∧New u w')):=fun u=>isroot_any q nm j d u
 have hroot:=root_iff hR hp h0;rw[hd] at hroot
 have hkd:kr=0↔y.k=1:=by
  rw[hkr];unfold kindE;rw[if_neg h0]
  by_cases h2:y.k=1
  ·rw[if_pos h2];simp[h2]
  ·rw[if_neg h2];simp[h2]
 have hkb:kr≠0→kr=14:=fun hk=>by
  rw[hkr] at hk ⊢;unfold kindE at *;rw[if_neg h0] at *
  by_cases h2:y.k=1
  ·rw[if_pos h2] at hk;exact absurd rfl hk
  ·rw[if_neg h2]
 have HBAD:Hid (kr≠0→(rmF ⟨p,L⟩ g q j y).1.l=L∧(rmF ⟨p,L⟩ g q j y).2=erA kr):=fun hk=>by
  have h2:y.k≠1:=fun e=>hk (hkd.2 e)
  rw[hkb hk];unfold rmF;rw[if_pos h2];exact⟨rfl,rfl⟩
 have HB2:Hid (kr=0→d=0→(rmF ⟨p,L⟩ g q j y).1.l=L∧(rmF ⟨p,L⟩ g q j y).2=erA 2):=fun hk h2=>by
  unfold rmF;rw[if_neg (fun e=>e (hkd.1 hk)),if_pos (hroot.1 h2)];exact⟨rfl,rfl⟩
 have HB3:Hid (kr=0→d≠0→0 < y.ns.length→(rmF ⟨p,L⟩ g q j y).1.l=L∧(rmF ⟨p,L⟩ g q j y).2=erA 15):=fun hk h2 h3=>by
  unfold rmF;rw[if_neg (fun e=>e (hkd.1 hk)),if_neg (fun e=>h2 (hroot.2 e)),if_pos (List.length_pos_iff.1 h3)];exact⟨rfl,rfl⟩
 have HOK:Hid (kr=0→d≠0→¬0 < y.ns.length→(rmF ⟨p,L⟩ g q j y).1.l=zba L q nm j y.l∧(rmF ⟨p,L⟩ g q j y).2=erA 0):=fun hk h2 h3=>by
  unfold rmF;rw[if_neg (fun e=>e (hkd.1 hk)),if_neg (fun e=>h2 (hroot.2 e)),if_neg (fun e=>h3 (List.length_pos_iff.2 e)),hnm];exact⟨rfl,rfl⟩
 have HLO:Hid (d≠0→∀u,PT w0 u gt p L→Calls Tryz.prog 89 #[.pointer (some ⟨gt,0,none⟩),.agg #[.int .i64 q,.string nm,.int .i64 j,.int .i64 d]] u (fun e w'=>e=.returned (.tuple #[])∧PT w0 w' gt p (zba L q nm j y.l)∧Kept (Tr u gt) u w')):=fun hk u hu=>by
  obtain⟨qn,y2,g1,g2,g3,g4,g5,g6,g7,g8⟩:=lose_on hR hp h0 (fun e=>hk (hroot.2 e)) hy;rw[hnm] at g4 g5;rw[←g6];exact mlose_any w0 gt p L q j d nm qn y2 u hu hR.ord hlen g1 g2 g3 g4 g5 g7 g8
 obtain⟨ga,pj,x,_,hCN,hZC⟩:=node_on h hR.ord hlen hy;have CN:=jH hCN;have ZC:=jH hZC;clear h hR hp hnm h0 hy hkr hkd hkb hroot hd hlen hCN hZC;generalize zba L q nm j y.l=L9 at *;generalize (rmF ⟨p,L⟩ g q j y).1.l=LR at *;generalize (rmF ⟨p,L⟩ g q j y).2=AR at *;generalize y.ns.length=ln at *;go_enter Tryz.func55,Tryz.ntmps55
 go_upto_region 1 with fail
 rw[←HW.out];clear HW;obtain⟨gr,hgr⟩:∃gr,gr=w.heap.size+1:=⟨_,rfl⟩;rw[←hgr] at BA ⊢
 have HGR:Hid (w.heap.size≤gr):=by rw[Hid,hgr];exact Nat.le_succ _
 have HTA:Hid (¬Tr w1 gt gr):=Tr.not BA.out.at_ (by decide) (by decide) (by have:=HGT.out;omega);have HTX:Hid (¬Tr w1 gt w.heap.size):=Tr.not BX.out.at_ (by decide) (by decide) (by have:=HGT.out;omega);clear hgr;obtain⟨b0,b1,b2,b3⟩:=BX.out.p4;obtain⟨gk,hgk⟩:∃gk,gk=w.heap.size:=⟨_,rfl⟩;rw[←hgk] at BX HTX b0 b1 b2 b3 ⊢;clear hgk;have RF:=jH (fun u=>zac kr u)
 by_cases hkr:kr=0
 ·have d0:(((kr:Nat):Int) != 0)=false:=bne_eq_false_iff_eq.2 (by omega)
  by_cases hd0:d=0
  ·have E9:=jH (HB2.out hkr hd0)
   have CR:Hid (∀u,Calls Tryz.prog 88 #[.agg #[.int .i64 q,.string nm,.int .i64 j,.int .i64 d]] u (fun e w'=>e=.returned (.bool true)∧New u w')):=fun u=>by have:=CR.out u;rwa [decide_eq_true hd0] at this
   clear hkr hd0 HLO HOK HBAD HB2 HB3 RF CN ZC
   go_wp2_with (first
    | (go_at_call 87;refine (CK.out).mono ?_;rintro e w2 ⟨rfl,hK2⟩;have N2:=jH (N1.out.new hK2);have M2:=jH hK2;obtain⟨b0,b1,b2,b3⟩:=(BX.out.kept hK2 (by first|exact id|exact HTX.out)).p4;clear hK2)
    | (go_at_call 88;refine (CR.out _).mono ?_;rintro e w3 ⟨rfl,hK3⟩;have N3:=jH (N2.out.new hK3);have M3:=jH (M2.out.new hK3);obtain⟨b0,b1,b2,b3⟩:=(BX.out.kept (M2.out.new hK3) (by first|exact id|exact HTX.out)).p4;clear hK3)
    | (go_at_call 32;refine (zac 2 _).mono ?_;rintro e w4 ⟨rfl,hK4⟩;have N4:=jH (N3.out.new hK4);have BAZ:=jH (BA.out.kept (M3.out.new hK4) id);obtain⟨t0,t1,t2,t3,t4,t5,t6,t7⟩:=BAZ.out.p8;obtain⟨f0,f1,f2,f3,f4,f5,f6,f7⟩:=BAZ.out.f8;have HLD:Hid ((((((((w4.setCell ⟨gr,0,none⟩ (.int .i64 2)).setCell ⟨gr,1,none⟩ (.int .i64 0)).setCell ⟨gr,2,none⟩ (.int .i64 0)).setCell ⟨gr,3,none⟩ (.int .u8 0)).setCell ⟨gr,4,none⟩ (.int .i64 0)).setCell ⟨gr,5,none⟩ (.int .i64 0)).setCell ⟨gr,6,none⟩ (.slice none 0 0)).setCell ⟨gr,7,none⟩ (.slice none 0 0)=ans8 w4 gr (erA 2) none 0 0 none 0 0):=rfl;have DD:=jH (zah (a:=erA 2) (w0:=w0) (w:=w) (gt:=gt) (p:=p) (L:=L) (d':=0) (t':=0) (B':=none) (m:=0) (q:=0) (T':=none) BAZ.out HGR.out (HP.out.new N4.out) HN0.out (OwnB.nil _ _ _) rfl (Txs.nil _ _) (fun _ h=>by cases h) rfl (N4.out.mono fun _ _ f=>f.elim));have DB:=jH (zaf (a:=erA 2) (d':=0) (t':=0) (B':=none) (m:=0) (q:=0) (T':=none) BAZ.out);clear hK4))
   rw[HLD.out];generalize ans8 w4 gr (erA 2) none 0 0 none 0 0=wf at *;have d0:=DB.out.cell 0;have d1:=DB.out.cell 1;have d2:=DB.out.cell 2;have d3:=DB.out.cell 3;have d4:=DB.out.cell 4;have d5:=DB.out.cell 5;have d6:=DB.out.cell 6;have d7:=DB.out.cell 7;simp at d0 d1 d2 d3 d4 d5 d6 d7;refine bodyPost_ret (by simp[results,Tryz.results55,go_sem,d0,d1,d2,d3,d4,d5,d6,d7];try rfl) rfl ?_;rw[E9.out.1,E9.out.2];exact DD.out
  ·have CR:Hid (∀u,Calls Tryz.prog 88 #[.agg #[.int .i64 q,.string nm,.int .i64 j,.int .i64 d]] u (fun e w'=>e=.returned (.bool false)∧New u w')):=fun u=>by have:=CR.out u;rwa [decide_eq_false hd0] at this
   by_cases hln:0 < ln
   ·have E9:=jH (HB3.out hkr hd0 hln);have d1:decide ((0:Int) < ((ln:Nat):Int))=true:=decide_eq_true (by omega);have d2:decide (0 < ln)=true:=decide_eq_true hln;clear hkr hd0 HLO HOK HBAD HB2 HB3 RF
    go_wp2_with (first
     | (go_at_call 87;refine (CK.out).mono ?_;rintro e w2 ⟨rfl,hK2⟩;have N2:=jH (N1.out.new hK2);have M2:=jH hK2;obtain⟨b0,b1,b2,b3⟩:=(BX.out.kept hK2 (by first|exact id|exact HTX.out)).p4;clear hK2)
     | (go_at_call 88;refine (CR.out _).mono ?_;rintro e w3 ⟨rfl,hK3⟩;have N3:=jH (N2.out.new hK3);have M3:=jH (M2.out.new hK3);obtain⟨b0,b1,b2,b3⟩:=(BX.out.kept (M2.out.new hK3) (by first|exact id|exact HTX.out)).p4;clear hK3)
     | (go_at_call 72;refine (CN.out w3 N3.out).mono ?_;rintro e w4 ⟨rfl,hK4⟩;have N4:=jH (N3.out.new hK4);have M4:=jH (M3.out.new hK4);have z3:=(ZC.out w4 N4.out).2.2.2.1;obtain⟨b0,b1,b2,b3⟩:=(BX.out.kept M4.out (by first|exact id|exact HTX.out)).p4;clear hK4)
     | (go_at_call 32;refine (zac 15 _).mono ?_;rintro e w5 ⟨rfl,hK5⟩;have N5:=jH (N4.out.new hK5);have BAZ:=jH (BA.out.kept (M4.out.new hK5) id);obtain⟨t0,t1,t2,t3,t4,t5,t6,t7⟩:=BAZ.out.p8;obtain⟨f0,f1,f2,f3,f4,f5,f6,f7⟩:=BAZ.out.f8;have HLD:Hid ((((((((w5.setCell ⟨gr,0,none⟩ (.int .i64 15)).setCell ⟨gr,1,none⟩ (.int .i64 0)).setCell ⟨gr,2,none⟩ (.int .i64 0)).setCell ⟨gr,3,none⟩ (.int .u8 0)).setCell ⟨gr,4,none⟩ (.int .i64 0)).setCell ⟨gr,5,none⟩ (.int .i64 0)).setCell ⟨gr,6,none⟩ (.slice none 0 0)).setCell ⟨gr,7,none⟩ (.slice none 0 0)=ans8 w5 gr (erA 15) none 0 0 none 0 0):=rfl;have DD:=jH (zah (a:=erA 15) (w0:=w0) (w:=w) (gt:=gt) (p:=p) (L:=L) (d':=0) (t':=0) (B':=none) (m:=0) (q:=0) (T':=none) BAZ.out HGR.out (HP.out.new N5.out) HN0.out (OwnB.nil _ _ _) rfl (Txs.nil _ _) (fun _ h=>by cases h) rfl (N5.out.mono fun _ _ f=>f.elim));have DB:=jH (zaf (a:=erA 15) (d':=0) (t':=0) (B':=none) (m:=0) (q:=0) (T':=none) BAZ.out);clear hK5))
    rw[HLD.out];generalize ans8 w5 gr (erA 15) none 0 0 none 0 0=wf at *;have d0:=DB.out.cell 0;have d1:=DB.out.cell 1;have d2:=DB.out.cell 2;have d3:=DB.out.cell 3;have d4:=DB.out.cell 4;have d5:=DB.out.cell 5;have d6:=DB.out.cell 6;have d7:=DB.out.cell 7;simp at d0 d1 d2 d3 d4 d5 d6 d7;refine bodyPost_ret (by simp[results,Tryz.results55,go_sem,d0,d1,d2,d3,d4,d5,d6,d7];try rfl) rfl ?_;rw[E9.out.1,E9.out.2];exact DD.out
   ·have E9:=jH (HOK.out hkr hd0 hln);have LO:=jH (HLO.out hd0);have d1:decide ((0:Int) < ((ln:Nat):Int))=false:=decide_eq_false (by omega);have d2:decide (0 < ln)=false:=decide_eq_false hln;clear hkr hd0 hln HLO HOK HBAD HB2 HB3 RF
    go_wp2_with (first
     | (go_at_call 87;refine (CK.out).mono ?_;rintro e w2 ⟨rfl,hK2⟩;have N2:=jH (N1.out.new hK2);have M2:=jH hK2;obtain⟨b0,b1,b2,b3⟩:=(BX.out.kept hK2 (by first|exact id|exact HTX.out)).p4;clear hK2)
     | (go_at_call 88;refine (CR.out _).mono ?_;rintro e w3 ⟨rfl,hK3⟩;have N3:=jH (N2.out.new hK3);have M3:=jH (M2.out.new hK3);obtain⟨b0,b1,b2,b3⟩:=(BX.out.kept (M2.out.new hK3) (by first|exact id|exact HTX.out)).p4;clear hK3)
     | (go_at_call 72;refine (CN.out w3 N3.out).mono ?_;rintro e w4 ⟨rfl,hK4⟩;have N4:=jH (N3.out.new hK4);have M4:=jH (M3.out.new hK4);have z3:=(ZC.out w4 N4.out).2.2.2.1;obtain⟨b0,b1,b2,b3⟩:=(BX.out.kept M4.out (by first|exact id|exact HTX.out)).p4;clear hK4)
     | (go_at_call 89;refine (LO.out w4 (HP.out.new N4.out)).mono ?_;rintro e w5 ⟨rfl,hP5,hK5⟩;have HT5:=jH (Tr.back (i:=gr) (gt:=gt) M4.out (fun _ x=>False.elim x) BA.out.lt);have BAZ:=jH ((BA.out.kept M4.out id).kept hK5 (fun e=>HTA.out (HT5.out e)));obtain⟨t0,t1,t2,t3,t4,t5,t6,t7⟩:=BAZ.out.p8;obtain⟨f0,f1,f2,f3,f4,f5,f6,f7⟩:=BAZ.out.f8;have HLD:Hid ((((((((w5.setCell ⟨gr,0,none⟩ (.int .i64 0)).setCell ⟨gr,1,none⟩ (.int .i64 0)).setCell ⟨gr,2,none⟩ (.int .i64 0)).setCell ⟨gr,3,none⟩ (.int .u8 0)).setCell ⟨gr,4,none⟩ (.int .i64 0)).setCell ⟨gr,5,none⟩ (.int .i64 0)).setCell ⟨gr,6,none⟩ (.slice none 0 0)).setCell ⟨gr,7,none⟩ (.slice none 0 0)=ans8 w5 gr (erA 0) none 0 0 none 0 0):=rfl;have DD:=jH (zah (a:=erA 0) (w0:=w0) (w:=w) (gt:=gt) (p:=p) (L:=L9) (d':=0) (t':=0) (B':=none) (m:=0) (q:=0) (T':=none) BAZ.out HGR.out (hP5) HN0.out (OwnB.nil _ _ _) rfl (Txs.nil _ _) (fun _ h=>by cases h) rfl (Tr.new N4.out hK5));have DB:=jH (zaf (a:=erA 0) (d':=0) (t':=0) (B':=none) (m:=0) (q:=0) (T':=none) BAZ.out);clear hK5 hP5))
    rw[HLD.out];generalize ans8 w5 gr (erA 0) none 0 0 none 0 0=wf at *;have d0:=DB.out.cell 0;have d1:=DB.out.cell 1;have d2:=DB.out.cell 2;have d3:=DB.out.cell 3;have d4:=DB.out.cell 4;have d5:=DB.out.cell 5;have d6:=DB.out.cell 6;have d7:=DB.out.cell 7;simp at d0 d1 d2 d3 d4 d5 d6 d7;refine bodyPost_ret (by simp[results,Tryz.results55,go_sem,d0,d1,d2,d3,d4,d5,d6,d7];try rfl) rfl ?_;rw[E9.out.1,E9.out.2];exact DD.out
 ·have d0:(((kr:Nat):Int) != 0)=true:=bne_iff_ne.2 (by omega);have E9:=jH (HBAD.out hkr);clear hkr
  go_wp2_with (first
   | (go_at_call 87;refine (CK.out).mono ?_;rintro e w2 ⟨rfl,hK2⟩;have N2:=jH (N1.out.new hK2);have M2:=jH hK2;clear hK2)
   | (go_at_call 32;refine (RF.out _).mono ?_;rintro e w3 ⟨rfl,hK3⟩;have N3:=jH (N2.out.new hK3);have BAZ:=jH (BA.out.kept (M2.out.new hK3) id);obtain⟨t0,t1,t2,t3,t4,t5,t6,t7⟩:=BAZ.out.p8;obtain⟨f0,f1,f2,f3,f4,f5,f6,f7⟩:=BAZ.out.f8;have HLD:Hid ((((((((w3.setCell ⟨gr,0,none⟩ (.int .i64 (kr:Nat))).setCell ⟨gr,1,none⟩ (.int .i64 0)).setCell ⟨gr,2,none⟩ (.int .i64 0)).setCell ⟨gr,3,none⟩ (.int .u8 0)).setCell ⟨gr,4,none⟩ (.int .i64 0)).setCell ⟨gr,5,none⟩ (.int .i64 0)).setCell ⟨gr,6,none⟩ (.slice none 0 0)).setCell ⟨gr,7,none⟩ (.slice none 0 0)=ans8 w3 gr (erA kr) none 0 0 none 0 0):=rfl;have DD:=jH (zah (a:=erA kr) (w0:=w0) (w:=w) (gt:=gt) (p:=p) (L:=L) (d':=0) (t':=0) (B':=none) (m:=0) (q:=0) (T':=none) BAZ.out HGR.out (HP.out.new N3.out) HN0.out (OwnB.nil _ _ _) rfl (Txs.nil _ _) (fun _ h=>by cases h) rfl (N3.out.mono fun _ _ f=>f.elim));have DB:=jH (zaf (a:=erA kr) (d':=0) (t':=0) (B':=none) (m:=0) (q:=0) (T':=none) BAZ.out);clear hK3))
  rw[HLD.out];generalize ans8 w3 gr (erA kr) none 0 0 none 0 0=wf at *;have d0:=DB.out.cell 0;have d1:=DB.out.cell 1;have d2:=DB.out.cell 2;have d3:=DB.out.cell 3;have d4:=DB.out.cell 4;have d5:=DB.out.cell 5;have d6:=DB.out.cell 6;have d7:=DB.out.cell 7;simp at d0 d1 d2 d3 d4 d5 d6 d7;refine bodyPost_ret (by simp[results,Tryz.results55,go_sem,d0,d1,d2,d3,d4,d5,d6,d7];try rfl) rfl ?_;rw[E9.out.1,E9.out.2];exact DD.out
end
end Go.Proofs.YtjjamoemheljdaaGreat
