/-
  Layer 7: contracts (Ywa Yw).
-/
import Derived.Test.YtjjamoemheljdaaGreatC28
import Derived.Test.YtjjamoemheljdaaGreatC30
namespace Go.Proofs.YtjjamoemheljdaaGreat
set_option maxRecDepth 100000
set_option maxHeartbeats 8000000
set_option linter.unusedSimpArgs false
set_option linter.unusedVariables false
section
open Go.RowKit
theorem setCell_comm (w:World) (p q:Addr) (v u:Value) (h:p.block≠q.block):(w.setCell p v).setCell q u=(w.setCell q u).setCell p v:=by
 unfold World.setCell
 congr 1
 apply Array.ext
 ·simp
 ·intro i h1 h2;simp only[Array.getElem_modify]
  by_cases e1:p.block=i
  ·have e2:¬q.block=i:=fun e=>h (by rw[e1,e])
   simp[e1,e2]
  ·by_cases e2:q.block=i
   ·simp[e1,e2]
   ·simp[e1,e2]
theorem setCells_comm {p:Addr} {v:Value} {b:Nat} (h:p.block≠b):∀(vs:List Value) (o:Nat) (w:World),(w.setCell p v).setCells b o vs=(w.setCells b o vs).setCell p v
 | [],_,_=>rfl
 | x::r,o,w=>by rw[World.setCells,World.setCells,setCell_comm w p ⟨b,o,none⟩ v x h,setCells_comm h r (o+1)]
theorem MdP.sets {w w':World} {t:TypeId} {m:Nat} {a b b' c:List Value} {e:Ending} (h:MdP w t m (a++b++c) e w') (hl:b'.length=b.length) {o:Nat} (ho:o=a.length):MdP w t m (a++b'++c) e (w'.setCells w.heap.size o b'):=
 ⟨h.1,Blk.sets b' a b c w' o h.2.1 hl ho,Kept.sets b' o w' h.2.2 fun hh=>absurd hh (Nat.lt_irrefl _)⟩
theorem Bts.setS {u:World} {A:Option Addr} {n:Nat} {l:List Nat} (h:Bts u A n l) {a:Addr} {B:Option Addr} {k c:Nat} (ha:u.cell? a=some (.slice B k c)) (v:Value):Bts (u.setCell a v) A n l:=by
 obtain⟨hl,hb,hc⟩:=h;refine⟨hl,hb,fun h0=>?_⟩;obtain⟨g,o,e,hc⟩:=hc h0;refine⟨g,o,e,fun j x hx=>?_⟩;have h1:=hc j x hx;rw[World.cell?_setCell_other _ _ _ _ (fun e2=>by first|(rw[e2] at ha;rw[ha] at h1;exact Value.noConfusion (Option.some.inj h1))|(rw[←e2] at h1;rw[ha] at h1;exact Value.noConfusion (Option.some.inj h1)))];exact h1
theorem wr_parts (b:List Nat) (a M:Nat) (x:List Nat) (hM:M=Nat.max b.length (a+x.length)):∃B:List Nat,B.length=x.length∧cutB b M=cutB b a++B++b.drop (a+x.length):=by
 have hM:M=max b.length (a+x.length):=hM;refine⟨((cutB b M).drop a).take x.length,?_,?_⟩
 ·rw[List.length_take,List.length_drop,zbw];omega
 ·have e1:cutB b a=(cutB b M).take a:=by
   unfold cutB;rw[List.take_append,List.take_take,Nat.min_eq_left (show a≤M by omega),List.take_replicate]
   congr 2
   rw[List.length_take];omega
  have e2:b.drop (a+x.length)=(cutB b M).drop (a+x.length):=by
   unfold cutB
   rcases Nat.le_total b.length (a+x.length) with h|h
   ·have:M=a+x.length:=by omega
    rw[List.drop_of_length_le h,List.drop_of_length_le];rw[List.length_append,List.length_take,List.length_replicate];omega
   ·have:M=b.length:=by omega
    rw[this,List.take_length,Nat.sub_self,List.replicate_zero,List.append_nil]
  rw[e1,e2,←List.drop_drop,List.append_assoc,List.take_append_drop,List.take_append_drop]
theorem run_copy_by {w:World} {A:Option Addr} {n:Nat} {l:List Nat} (h:Bts w A n l) (h0:0 < n) (b o dLen dCap c:Nat) (hd:n≤dLen) (ty:TypeId) {cur:List Value} (hB:Blk w b 5 cur) (hf:o+n≤cur.length):
  (Builtin.copy_ #[32,32] ty #[.slice (some ⟨b,o,none⟩) dLen dCap,.slice A n c]).run Tryz.prog w=.ok (.int .i64 n) (w.setCells b o (l.map byt)):=by
 have hs:(Tryz.prog.info? 5).map (·.size)=some 1:=by
  obtain⟨i0,hi,_,hz1,_⟩:=info_parts zcg;rw[hi];simp[hz1]
 obtain⟨hl,hb,hc⟩:=h;obtain⟨g,o',e,hc2⟩:=hc h0;subst e;have hmin:Nat.min n dLen=n:=Nat.min_eq_left hd
 have:=zax (P:=Tryz.prog) w 32 32 ty 5 1 b o dLen dCap ⟨g,o',none⟩ n c (l.map byt) Tryz.underlying32 hs (by rw[hmin,Nat.mul_one];simpa using hl) (fun j v hv=>?_) (fun j hj=>?_) (fun j hj=>?_) (byt_one _)
 ·rw[hmin] at this;exact this
 ·rw[List.getElem?_map] at hv
  cases hx:l[j]? with
  | none=>rw[hx] at hv;cases hv
  | some x=>
   rw[hx] at hv
   have hv:byt x=v:=by simpa using hv
   rw[←hv];have h9:=hc2 j x hx;unfold byt
   have e9:(⟨g,o',none⟩:Addr).add j=⟨g,o'+j,none⟩:=by cases j<;>simp[Addr.add]
   rw[e9];exact h9
 ·have:o+j < cur.length:=by rw[List.length_map] at hj;omega
  have h2:=hB.cell (o+j);rw[h2];simp[this]
 ·exact hB.free _
end
section
open Go.RowKit
theorem mwrite_any (w0:World) (gt p:Nat) (L:List ND) (q j d:Nat) (nm:ByteArray) (kk:Nat) (sp st:ByteArray) (av nv:Int) (Ab:Option Addr) (bl bc:Nat) (w:World) (h:PT w0 w gt p L) (hR:Rt ⟨p,L⟩) (h0:j≠0) {y:ND} (hy:ndI L j=some y) (hk7:kk=7) (ab:List Nat) (hab:Bts w Ab bl ab) (hbl:bl≤140737488355328):
  Calls Tryz.prog 60 #[.pointer (some ⟨gt,0,none⟩),.agg #[.int .i64 q,.string nm,.int .i64 j,.int .i64 d],.agg #[.int .u8 kk,.string sp,.string st,.int .i64 av,.int .i64 nv,.slice Ab bl bc]] w (AnsP w0 w gt p ((bytF ⟨p,L⟩ ⟨kk,sp,st,av,nv,ab⟩ j y).1.l) ((bytF ⟨p,L⟩ ⟨kk,sp,st,av,nv,ab⟩ j y).2)):=by
 obtain⟨w1,hw1⟩:∃w1,w1=((w.alloc (.cells #[.int .i64 q,.string nm,.int .i64 j,.int .i64 d] 87)).alloc (.cells #[.int .u8 kk,.string sp,.string st,.int .i64 av,.int .i64 nv,.slice Ab bl bc] 34)).alloc (.cells #[.int .i64 0,.int .i64 0,.int .i64 0,.int .u8 0,.int .i64 0,.int .i64 0,.slice none 0 0,.slice none 0 0] 41):=⟨_,rfl⟩
 have N1:Hid (New w w1):=by rw[hw1];exact ((kR.alloc _).alloc _).alloc _
 have BX:Hid (Blk w1 w.heap.size 87 [.int .i64 q,.string nm,.int .i64 j,.int .i64 d]):=by rw[hw1];exact ((Blk.made w _ _).alloc _).alloc _
 have BC:Hid (Blk w1 (w.heap.size+1) 34 [.int .u8 kk,.string sp,.string st,.int .i64 av,.int .i64 nv,.slice Ab bl bc]):=by
  have:=Blk.made (w.alloc (.cells #[.int .i64 q,.string nm,.int .i64 j,.int .i64 d] 87)) 34 #[.int .u8 kk,.string sp,.string st,.int .i64 av,.int .i64 nv,.slice Ab bl bc]
  rw[World.size_alloc] at this;rw[hw1];exact this.alloc _
 have BA:Hid (Blk w1 (w.heap.size+1+1) 41 [.int .i64 0,.int .i64 0,.int .i64 0,.int .u8 0,.int .i64 0,.int .i64 0,.slice none 0 0,.slice none 0 0]):=by
  have:=Blk.made ((w.alloc (.cells #[.int .i64 q,.string nm,.int .i64 j,.int .i64 d] 87)).alloc (.cells #[.int .u8 kk,.string sp,.string st,.int .i64 av,.int .i64 nv,.slice Ab bl bc] 34)) 41 #[.int .i64 0,.int .i64 0,.int .i64 0,.int .u8 0,.int .i64 0,.int .i64 0,.slice none 0 0,.slice none 0 0]
  rw[World.size_alloc,World.size_alloc] at this;rw[hw1];exact this
 have HW:=jH hw1;have HP:=jH h
 have HN0:Hid (New w0 w):=by obtain⟨_,_,_,_,_,_,_,h5,_⟩:=h;exact h5
 have HGT:Hid (gt < w.heap.size):=h.lt;clear hw1;have hlen:L.length≤1000:=Nat.le_trans (show L.length≤48 from hR.len) (by omega);obtain⟨ga,pj,x,hxn,hFA,hZC,hST⟩:=file_on h hR.ord hlen h0 hy q d kk bl bc nm sp st av nv Ab;have FA:=jH hFA;have ZC:=jH hZC;have ST:=jH hST;have hpp:p≤255:=hR.p2;have hlb:ab.length=bl:=hab.1
 have hnil:ab=[]↔bl=0:=by rw[←hlb];exact List.length_eq_zero_iff.symm
 obtain⟨fe,hfe⟩:∃fe,fe=fE y.k av nv:=⟨_,rfl⟩
 have HBAD:Hid (fe≠0→(bytF ⟨p,L⟩ ⟨kk,sp,st,av,nv,ab⟩ j y).1.l=L∧(bytF ⟨p,L⟩ ⟨kk,sp,st,av,nv,ab⟩ j y).2=erA fe):=fun hk=>by
  rw[hfe] at hk ⊢;unfold fE at *
  by_cases h2:y.k≠2
  ·rw[if_pos h2];unfold bytF;rw[if_pos h2];exact⟨rfl,rfl⟩
  ·rw[if_neg h2] at hk ⊢
   by_cases h3:av < 0∨nv < 0
   ·rw[if_pos h3];unfold bytF;rw[if_neg h2,if_pos h3];exact⟨rfl,rfl⟩
   ·rw[if_neg h3] at hk;exact absurd rfl hk
 have hfz:fe=0→¬y.k≠2∧¬(av < 0∨nv < 0):=fun hk=>by
  rw[hfe] at hk;unfold fE at hk
  by_cases h2:y.k≠2
  ·rw[if_pos h2] at hk;cases hk
  ·rw[if_neg h2] at hk
   by_cases h3:av < 0∨nv < 0
   ·rw[if_pos h3] at hk;cases hk
   ·exact⟨h2,h3⟩
 have HNV:Hid (fe=0→∃a:Nat,av=a):=fun hk=>⟨av.toNat,by have:=(hfz hk).2;omega⟩
 have HEM:Hid (fe=0→bl=0→(bytF ⟨p,L⟩ ⟨kk,sp,st,av,nv,ab⟩ j y).1.l=L∧(bytF ⟨p,L⟩ ⟨kk,sp,st,av,nv,ab⟩ j y).2=erA 0):=fun hk hz=>by
  obtain⟨g1,g2⟩:=hfz hk;unfold bytF;rw[if_neg g1,if_neg g2,if_neg (by show ¬kk=9;omega),if_neg (by show ¬kk=8;omega),if_pos (hnil.2 hz)];exact⟨rfl,rfl⟩
 have HB3:Hid (fe=0→bl≠0→8*p < av.toNat+bl→(bytF ⟨p,L⟩ ⟨kk,sp,st,av,nv,ab⟩ j y).1.l=L∧(bytF ⟨p,L⟩ ⟨kk,sp,st,av,nv,ab⟩ j y).2=erA 3):=fun hk hz h3=>by
  obtain⟨g1,g2⟩:=hfz hk;unfold bytF;rw[if_neg g1,if_neg g2,if_neg (by show ¬kk=9;omega),if_neg (by show ¬kk=8;omega),if_neg (fun e=>hz (hnil.1 e)),if_pos (by rw[hlb];exact h3)];exact⟨rfl,rfl⟩
 have HOK:Hid (fe=0→bl≠0→¬8*p < av.toNat+bl→(bytF ⟨p,L⟩ ⟨kk,sp,st,av,nv,ab⟩ j y).1.l=bytE L j (wrB y.b av.toNat ab)∧(bytF ⟨p,L⟩ ⟨kk,sp,st,av,nv,ab⟩ j y).2={ erA 0 with n:=bl }):=fun hk hz h3=>by
  obtain⟨g1,g2⟩:=hfz hk;unfold bytF;rw[if_neg g1,if_neg g2,if_neg (by show ¬kk=9;omega),if_neg (by show ¬kk=8;omega),if_neg (fun e=>hz (hnil.1 e)),if_neg (by rw[hlb];exact h3),hlb];exact⟨rfl,rfl⟩
 rw[←hfe] at FA;have HBZ:Hid (y.b.length≤2040):=hR.b_le (zaa hy).1;have HAB:=jH hab;have HGA:Hid (ga < w.heap.size):=World.block_lt_of_cell? _ _ (hZC w kR).1
 have CM:Hid (∀u,New w u→∀n,Calls Tryz.prog 95 #[.pointer (some ⟨gt,0,none⟩)] (u.drewN n) (fun e w'=>e=.returned (.int .i64 (8*p:Nat))∧w'=u.drewN n)):=fun u hu n=>most_any w0 gt p L _ (h.new (hu.drewN n)) (by omega)
 have CS:Hid (∀u (m:Nat),New w u→m≤1000000→Calls Tryz.prog 79 #[.slice x.B y.b.length x.d,.int .i64 (m:Nat)] u (MdP u 5 m ((cutB y.b m).map byt))):=fun u m hu hm=>by
  have hb:=(hZC u hu).2.2.1
  have:=sizedBy_any x.B y.b.length x.d m (y.b.map byt) u (RowV.of_bts hb) (byt_one _) (by omega)
  have e:=cut_cells y.b m;rw[e] at this;exact this
 have HY8:∀v∈y.b,v < 256:=(hR.fin _ (zaa hy).1).2.2.1
 have WS:Hid (∀(a M:Nat) (v5 w7:World) (e:Ending),M=Nat.max y.b.length (a+bl)→M≤1000000→New w v5→New w1 v5→w0.heap.size≤v5.heap.size→MdP v5 5 M ((cutB y.b M).map byt) e w7 →
   ∃u,New w u∧New w1 u∧PT w0 ((w7.setCell ⟨ga,pj*5+4,none⟩ (.slice (some ⟨v5.heap.size,0,none⟩) M M)).setCells v5.heap.size a (ab.map byt)) gt p (bytE L j (wrB y.b a ab))∧Kept (Tr u gt) u ((w7.setCell ⟨ga,pj*5+4,none⟩ (.slice (some ⟨v5.heap.size,0,none⟩) M M)).setCells v5.heap.size a (ab.map byt))):=fun a M v5 w7 e hM hM2 hn hn1 hs hMP=>by
  obtain⟨B,hB,hcut⟩:=wr_parts y.b a M ab (by rw[hlb];exact hM);rw[hcut,List.map_append,List.map_append] at hMP;have h1:=hMP.sets (b':=ab.map byt) (o:=a) (by simp[hB]) (by rw[List.length_map,zbw])
  have e2:(cutB y.b a).map byt++ab.map byt++(y.b.drop (a+ab.length)).map byt=(wrB y.b a ab).map byt:=by
   unfold wrB;rw[List.map_append,List.map_append,List.append_assoc]
  rw[e2] at h1
  have hwl:(wrB y.b a ab).length=M:=by rw[wrB_len,hlb,hM]
  have h2:=h1.ownB hwl (fun v hv=>by
   unfold wrB at hv
   rcases List.mem_append.1 hv with hv|hv
   ·unfold cutB at hv
    rcases List.mem_append.1 hv with hv|hv
    ·exact HY8 v (List.mem_of_mem_take hv)
    ·have:=List.eq_of_mem_replicate hv;omega
   ·rcases List.mem_append.1 hv with hv|hv
    ·exact hab.2.1 v hv
    ·exact HY8 v (List.mem_of_mem_drop hv)) (by unfold maxLen;omega)
  have hnu:New w (w7.setCells v5.heap.size a (ab.map byt)):=hn.new h1.2.2
  have hne:ga≠v5.heap.size:=fun e=>by
   have:=(hZC w kR).1
   have h3:ga < w.heap.size:=World.block_lt_of_cell? _ _ this
   have:=hn.size
   omega
  obtain⟨h4,h5⟩:=hST (w7.setCells v5.heap.size a (ab.map byt)) v5.heap.size M (wrB y.b a ab) _ hnu (h2.mono hs) hwl rfl;rw[setCells_comm (p:=⟨ga,pj*5+4,none⟩) hne];exact⟨_,hnu,hn1.new h1.2.2,h4,h5⟩
 clear h hR h0 hy hfe hfz hlen hFA hST hZC hxn hk7 hab hlb hnil HY8;generalize (bytF ⟨p,L⟩ ⟨kk,sp,st,av,nv,ab⟩ j y).1.l=LR at *;generalize (bytF ⟨p,L⟩ ⟨kk,sp,st,av,nv,ab⟩ j y).2=AR at *;generalize y.b.length=bz at *;generalize y.b=yb at *;go_enter Tryz.func60,Tryz.ntmps60
 go_upto_region 1 with fail
 rw[←HW.out];clear HW;obtain⟨gr,hgr⟩:∃gr,gr=w.heap.size+1+1:=⟨_,rfl⟩;obtain⟨gc,hgc⟩:∃gc,gc=w.heap.size+1:=⟨_,rfl⟩;rw[←hgr] at BA ⊢;rw[←hgc] at BC ⊢
 have HGR:Hid (w.heap.size≤gr):=by rw[Hid,hgr];omega
 have HTA:Hid (¬Tr w1 gt gr):=Tr.not BA.out.at_ (by decide) (by decide) (by have:=HGT.out;omega);have HTX:Hid (¬Tr w1 gt w.heap.size):=Tr.not BX.out.at_ (by decide) (by decide) (by have:=HGT.out;omega);have HTC:Hid (¬Tr w1 gt gc):=Tr.not BC.out.at_ (by decide) (by decide) (by have:=HGT.out;omega)
 have HGC:Hid (w.heap.size≤gc):=by rw[Hid,hgc];omega
 clear hgr hgc;obtain⟨b0,b1,b2,b3⟩:=BX.out.p4;obtain⟨c0,c1,c2,c3,c4,c5⟩:=BC.out.p6;obtain⟨gk,hgk⟩:∃gk,gk=w.heap.size:=⟨_,rfl⟩;rw[←hgk] at BX HTX b0 b1 b2 b3 ⊢;clear hgk
 by_cases hf0:fe=0
 ·obtain⟨a,ha⟩:=HNV.out hf0;subst ha;subst hf0;clear HBAD;have EM:=jH (HEM.out rfl);have B3:=jH (HB3.out rfl);have OK:=jH (HOK.out rfl);rw[show ((a:Nat):Int).toNat=a from Int.toNat_natCast a] at B3 OK;clear HB3 HOK HNV HEM;have FA:Hid (∀u,New w u→Calls Tryz.prog 94 #[.pointer (some ⟨gt,0,none⟩),.agg #[.int .i64 q,.string nm,.int .i64 j,.int .i64 d],.agg #[.int .u8 kk,.string sp,.string st,.int .i64 (a:Nat),.int .i64 nv,.slice Ab bl bc]] u (fun e w'=>e=.returned (.tuple #[.pointer (some ⟨ga,pj*5,none⟩),.int .i64 0])∧New u w')):=FA.out
  by_cases hz:bl=0
  ·have E9:=jH (EM.out hz);have dz:(((bl:Nat):Int) == 0)=true:=beq_iff_eq.2 (by omega);clear EM B3 OK hz hbl WS CS CM
   go_wp2_with (go_at_call 94;refine (FA.out w1 N1.out).mono ?_;rintro e w2 ⟨rfl,hK2⟩;have N2:=jH (N1.out.new hK2);have M2:=jH hK2;obtain⟨c0,c1,c2,c3,c4,c5⟩:=(BC.out.kept hK2 (by first|exact id|exact HTC.out)).p6;clear hK2;have BAZ:=jH (BA.out.kept M2.out id);obtain⟨t0,t1,t2,t3,t4,t5,t6,t7⟩:=BAZ.out.p8;obtain⟨f0,f1,f2,f3,f4,f5,f6,f7⟩:=BAZ.out.f8;have HLD:Hid ((((((((w2.setCell ⟨gr,0,none⟩ (.int .i64 0)).setCell ⟨gr,1,none⟩ (.int .i64 0)).setCell ⟨gr,2,none⟩ (.int .i64 0)).setCell ⟨gr,3,none⟩ (.int .u8 0)).setCell ⟨gr,4,none⟩ (.int .i64 0)).setCell ⟨gr,5,none⟩ (.int .i64 0)).setCell ⟨gr,6,none⟩ (.slice none 0 0)).setCell ⟨gr,7,none⟩ (.slice none 0 0)=ans8 w2 gr (erA 0) none 0 0 none 0 0):=rfl;have DD:=jH (zah (a:=erA 0) (w0:=w0) (w:=w) (gt:=gt) (p:=p) (L:=L) (d':=0) (t':=0) (B':=none) (m:=0) (q:=0) (T':=none) BAZ.out HGR.out (HP.out.new N2.out) HN0.out (OwnB.nil _ _ _) rfl (Txs.nil _ _) (fun _ h=>by cases h) rfl (N2.out.mono fun _ _ f=>f.elim));have DB:=jH (zaf (a:=erA 0) (d':=0) (t':=0) (B':=none) (m:=0) (q:=0) (T':=none) BAZ.out))
   rw[HLD.out];generalize ans8 w2 gr (erA 0) none 0 0 none 0 0=wf at *;have d0:=DB.out.cell 0;have d1:=DB.out.cell 1;have d2:=DB.out.cell 2;have d3:=DB.out.cell 3;have d4:=DB.out.cell 4;have d5:=DB.out.cell 5;have d6:=DB.out.cell 6;have d7:=DB.out.cell 7;simp at d0 d1 d2 d3 d4 d5 d6 d7;refine bodyPost_ret (by simp[results,Tryz.results60,go_sem,d0,d1,d2,d3,d4,d5,d6,d7];try rfl) rfl ?_;rw[E9.out.1,E9.out.2];exact DD.out
  ·have dz:(((bl:Nat):Int) == 0)=false:=beq_eq_false_iff_ne.2 (by omega)
   have wq:IntKind.i64.wrap (8*((p:Nat):Int) - ((bl:Nat):Int))=8*((p:Nat):Int) - ((bl:Nat):Int):=by rw[IntKind.wrap_i64];omega
   by_cases h3:8*p < a+bl
   ·have E9:=jH (B3.out hz h3);have d1:decide (8*((p:Nat):Int) - ((bl:Nat):Int) < ((a:Nat):Int))=true:=decide_eq_true (by omega);clear B3 OK EM h3 hz hbl WS CS
    go_upto_region 6 with (go_at_call 94;refine (FA.out w1 N1.out).mono ?_;rintro e w2 ⟨rfl,hK2⟩;have N2:=jH (N1.out.new hK2);have M2:=jH hK2;obtain⟨c0,c1,c2,c3,c4,c5⟩:=(BC.out.kept hK2 (by first|exact id|exact HTC.out)).p6;clear hK2)
    go_quiet ((go_at_call 95;exact Calls.quiet_of_same (CM.out w2 N2.out _)))
    have N5:Hid (New w (w2.drewN nq)):=N2.out.drewN _;have M5:Hid (New w1 (w2.drewN nq)):=M2.out.drewN _;clear c0 c1 c2 c3 c4 c5;generalize w2.drewN nq=w5 at *
    go_wp2_with (go_at_call 32;refine (zac 3 _).mono ?_;rintro e w6 ⟨rfl,hK6⟩;have N6:=jH (N5.out.new hK6);have BAZ:=jH (BA.out.kept (M5.out.new hK6) id);obtain⟨t0,t1,t2,t3,t4,t5,t6,t7⟩:=BAZ.out.p8;obtain⟨f0,f1,f2,f3,f4,f5,f6,f7⟩:=BAZ.out.f8;have HLD:Hid ((((((((w6.setCell ⟨gr,0,none⟩ (.int .i64 3)).setCell ⟨gr,1,none⟩ (.int .i64 0)).setCell ⟨gr,2,none⟩ (.int .i64 0)).setCell ⟨gr,3,none⟩ (.int .u8 0)).setCell ⟨gr,4,none⟩ (.int .i64 0)).setCell ⟨gr,5,none⟩ (.int .i64 0)).setCell ⟨gr,6,none⟩ (.slice none 0 0)).setCell ⟨gr,7,none⟩ (.slice none 0 0)=ans8 w6 gr (erA 3) none 0 0 none 0 0):=rfl;have DD:=jH (zah (a:=erA 3) (w0:=w0) (w:=w) (gt:=gt) (p:=p) (L:=L) (d':=0) (t':=0) (B':=none) (m:=0) (q:=0) (T':=none) BAZ.out HGR.out (HP.out.new N6.out) HN0.out (OwnB.nil _ _ _) rfl (Txs.nil _ _) (fun _ h=>by cases h) rfl (N6.out.mono fun _ _ f=>f.elim));have DB:=jH (zaf (a:=erA 3) (d':=0) (t':=0) (B':=none) (m:=0) (q:=0) (T':=none) BAZ.out);clear hK6)
    rw[HLD.out];generalize ans8 w6 gr (erA 3) none 0 0 none 0 0=wf at *;have d0:=DB.out.cell 0;have d1:=DB.out.cell 1;have d2:=DB.out.cell 2;have d3:=DB.out.cell 3;have d4:=DB.out.cell 4;have d5:=DB.out.cell 5;have d6:=DB.out.cell 6;have d7:=DB.out.cell 7;simp at d0 d1 d2 d3 d4 d5 d6 d7;refine bodyPost_ret (by simp[results,Tryz.results60,go_sem,d0,d1,d2,d3,d4,d5,d6,d7];try rfl) rfl ?_;rw[E9.out.1,E9.out.2];exact DD.out
   ·have E9:=jH (OK.out hz h3);have d1:decide (8*((p:Nat):Int) - ((bl:Nat):Int) < ((a:Nat):Int))=false:=decide_eq_false (by omega);obtain⟨M,hM⟩:∃M,M=Nat.max bz (a+bl):=⟨_,rfl⟩;have hM':M=max bz (a+bl):=hM;have hbz:=HBZ.out
    have hM8:M≤2040:=by omega
    have hMa:a+bl≤M:=by omega
    have hq:max ((bz:Nat):Int) (((a:Nat):Int)+((bl:Nat):Int))=((M:Nat):Int):=by omega
    have wa:IntKind.i64.wrap (((a:Nat):Int)+((bl:Nat):Int))=((a:Nat):Int)+((bl:Nat):Int):=by rw[IntKind.wrap_i64];omega
    have HM8:=jH hM8;have HMA:=jH hMa
    have HBL0:Hid (0 < bl):=by show 0 < bl;omega
    have WS:=jH (fun v5 w7 e hn hn1 hs hMP=>WS.out a M v5 w7 e hM (by omega) hn hn1 hs hMP);clear B3 OK EM h3 hz hbl hM hM' hbz hM8 hMa
    go_upto_region 6 with (go_at_call 94;refine (FA.out w1 N1.out).mono ?_;rintro e w2 ⟨rfl,hK2⟩;have N2:=jH (N1.out.new hK2);have M2:=jH hK2;obtain⟨c0,c1,c2,c3,c4,c5⟩:=(BC.out.kept hK2 (by first|exact id|exact HTC.out)).p6;clear hK2)
    go_quiet ((go_at_call 95;exact Calls.quiet_of_same (CM.out w2 N2.out _)))
    have N5:Hid (New w (w2.drewN nq)):=N2.out.drewN _;have M5:Hid (New w1 (w2.drewN nq)):=M2.out.drewN _;clear c0 c1 c2 c3 c4 c5;generalize w2.drewN nq=w5 at *;have c3:=(BC.out.kept M5.out id).q3;have c5:=(BC.out.kept M5.out id).q5;obtain⟨z4,f4,_⟩:=ZC.out w5 N5.out;have HSZ:Hid (w0.heap.size≤w5.heap.size):=Nat.le_trans HN0.out.size N5.out.size
    go_upto_region 8 with fail
    have N6:Hid (New w w5.drew):=N5.out.drew;have M6:Hid (New w1 w5.drew):=M5.out.drew
    go_cut [] (fun wx=>Hid (∃w7:World,wx=w7.setCell ⟨ga,pj*5+4,none⟩ (.slice (some ⟨w5.heap.size,0,none⟩) M M)∧New w w7∧New w1 w7∧Blk w7 w5.heap.size 5 ((cutB yb M).map byt)∧∃u,New w u∧New w1 u∧PT w0 (wx.setCells w5.heap.size a (ab.map byt)) gt p (bytE L j (wrB yb a ab))∧Kept (Tr u gt) u (wx.setCells w5.heap.size a (ab.map byt))))
    case first=>
     go_region_law (first
      | (go_simp;go_at_call 79;refine (CS.out _ M (by first|exact N6.out|exact N5.out) (by have:=HM8.out;omega)).mono ?_;intro e w7 hMP;have N7:=jH (N6.out.new (by first|exact hMP.2.2|exact zbm hMP.2.2));have M7:=jH (M6.out.new (by first|exact hMP.2.2|exact zbm hMP.2.2));have EQ7:=hMP.1;have WS7:=jH (WS.out w5 w7 e N5.out M5.out HSZ.out (by first|exact hMP|exact⟨hMP.1,hMP.2.1,zbm hMP.2.2⟩));have BM7:=jH hMP.2.1;clear hMP;subst EQ7;obtain⟨z4,f4,_⟩:=ZC.out w7 N7.out))
     all_goals
      simp only[Exit.then];refine (‹∀(a':Act) (w':World),Met _ a' w'→_›) _ _ ?_
      go_meet
      case rel=>
       have h9:=WS7.out;have n9:=N7.out;have m9:=M7.out;have b9:=BM7.out;exact⟨w7,rfl,n9,m9,b9,h9⟩
    case rest=>
     obtain⟨w7,hw7,N7,M7,B7,u9,NU,MU,P9,K9⟩:=hcut.out;have N7:=jH N7;have B7:=jH B7;obtain⟨z7,_,_⟩:=ZC.out w7 N7.out;have N5S:Hid (w.heap.size≤w5.heap.size):=N5.out.size
     have hgb:w5.heap.size≠ga:=fun e=>by have:=HGA.out;have:=N5S.out;omega
     have hgc9:gc≠ga:=fun e=>by have:=HGA.out;have:=HGC.out;omega
     have BCc:Blk wc gc 34 [.int .u8 kk,.string sp,.string st,.int .i64 (a:Nat),.int .i64 nv,.slice Ab bl bc]:=by rw[hw7];exact (BC.out.kept M7 id).kept (Kept.set1 _ ga _ _) hgc9
     have c3:=BCc.q3;have c5:=BCc.q5
     have z4:wc.cell? ⟨ga,pj*5+4,none⟩=some (.slice (some ⟨w5.heap.size,0,none⟩) M M):=by rw[hw7];exact World.cell?_setCell_same' _ _ _ (by rw[z7];rfl)
     have HCP:Hid (∀ty,(Builtin.copy_ #[32,32] ty #[.slice (some ⟨w5.heap.size,a,none⟩) (M - a) (M - a),.slice Ab bl bc]).run Tryz.prog wc.drew=.ok (.int .i64 bl) ((wc.setCells w5.heap.size a (ab.map byt)).drew)):=fun ty=>by
      rw[drew_sets]
      have hb:Blk wc w5.heap.size 5 ((cutB yb M).map byt):=by rw[hw7];exact B7.out.kept (Kept.set1 _ ga _ _) hgb
      have ht:Bts wc Ab bl ab:=by rw[hw7];exact (HAB.out.new N7.out).setS z7 _
      exact run_copy_by (ht.new kR.drew) HBL0.out w5.heap.size a (M - a) (M - a) bc (by have:=HMA.out;omega) ty hb.drew (by rw[List.length_map,zbw];exact HMA.out)
     have hai:((a:Nat):Int)≤((M:Nat):Int):=by have:=HMA.out;omega
     have hma:(M=a)=False:=by have:=HMA.out;have:=HBL0.out;simp;omega
     have P9:=jH (P9.new kR.drew);have K9:=jH K9.drew;have NU:=jH NU;have MU:=jH MU;have GB:Hid (∃gb,gb=w5.heap.size):=⟨_,rfl⟩;clear hcut hw7 N7 M7 B7 z7 N5S hgb hgc9 BCc FA ZC ST WS CS CM;obtain⟨gb,hgb⟩:=GB.out;rw[←hgb] at z4 HCP P9 K9;clear hgb GB
     go_upto_region 9 with fail
     go_still_tail 9,(by kernel_rfl)
     go_wp2_with fail;rw[HCP.out];clear HCP c3 c5;generalize (wc.setCells gb a (ab.map byt)).drew=w9 at *;have c5:=(BC.out.kept (Tr.new MU.out K9.out) HTC.out).q5;have BAZ:=jH (BA.out.kept (Tr.new MU.out K9.out) HTA.out);obtain⟨t0,t1,t2,t3,t4,t5,t6,t7⟩:=BAZ.out.p8;obtain⟨f0,f1,f2,f3,f4,f5,f6,f7⟩:=BAZ.out.f8;have HLD:Hid ((((((((w9.setCell ⟨gr,0,none⟩ (.int .i64 0)).setCell ⟨gr,1,none⟩ (.int .i64 0)).setCell ⟨gr,2,none⟩ (.int .i64 bl)).setCell ⟨gr,3,none⟩ (.int .u8 0)).setCell ⟨gr,4,none⟩ (.int .i64 0)).setCell ⟨gr,5,none⟩ (.int .i64 0)).setCell ⟨gr,6,none⟩ (.slice none 0 0)).setCell ⟨gr,7,none⟩ (.slice none 0 0)=ans8 w9 gr ({ erA 0 with n:=bl }) none 0 0 none 0 0):=rfl
     have DD:=jH (zah (a:={ erA 0 with n:=bl }) (w0:=w0) (w:=w) (gt:=gt) (p:=p) (L:=(bytE L j (wrB yb a ab))) (d':=0) (t':=0) (B':=none) (m:=0) (q:=0) (T':=none) BAZ.out HGR.out (P9.out) HN0.out (OwnB.nil _ _ _) rfl (Txs.nil _ _) (fun _ h=>by cases h) rfl (Tr.new NU.out K9.out));have DB:=jH (zaf (a:={ erA 0 with n:=bl }) (d':=0) (t':=0) (B':=none) (m:=0) (q:=0) (T':=none) BAZ.out);go_wp2_with fail;rw[HLD.out];generalize ans8 w9 gr ({ erA 0 with n:=bl }) none 0 0 none 0 0=wf at *;have d0:=DB.out.cell 0;have d1:=DB.out.cell 1;have d2:=DB.out.cell 2;have d3:=DB.out.cell 3;have d4:=DB.out.cell 4;have d5:=DB.out.cell 5
     have d6:=DB.out.cell 6;have d7:=DB.out.cell 7;simp at d0 d1 d2 d3 d4 d5 d6 d7;refine bodyPost_ret (by simp[results,Tryz.results60,go_sem,d0,d1,d2,d3,d4,d5,d6,d7];try rfl) rfl ?_;rw[E9.out.1,E9.out.2];exact DD.out
 ·have hz:∃n,fe=n+1:=⟨fe - 1,by omega⟩;have d0:(((fe:Nat):Int) != 0)=true:=bne_iff_ne.2 (by omega);have E9:=jH (HBAD.out hf0);obtain⟨n,rfl⟩:=hz;have FA:Hid (∀u,New w u→Calls Tryz.prog 94 #[.pointer (some ⟨gt,0,none⟩),.agg #[.int .i64 q,.string nm,.int .i64 j,.int .i64 d],.agg #[.int .u8 kk,.string sp,.string st,.int .i64 av,.int .i64 nv,.slice Ab bl bc]] u (fun e w'=>e=.returned (.tuple #[.pointer none,.int .i64 (n+1:Nat)])∧New u w')):=FA.out;have RF:=jH (fun u=>zac (n+1) u);clear hf0 HNV HB3 HOK HBAD HEM hbl WS;generalize n+1=fe at *
  go_wp2_with (first
   | (go_at_call 94;refine (FA.out w1 N1.out).mono ?_;rintro e w2 ⟨rfl,hK2⟩;have N2:=jH (N1.out.new hK2);have M2:=jH hK2;obtain⟨c0,c1,c2,c3,c4,c5⟩:=(BC.out.kept hK2 (by first|exact id|exact HTC.out)).p6;clear hK2)
   | (go_at_call 32;refine (RF.out _).mono ?_;rintro e w3 ⟨rfl,hK3⟩;have N3:=jH (N2.out.new hK3);have BAZ:=jH (BA.out.kept (M2.out.new hK3) id);obtain⟨t0,t1,t2,t3,t4,t5,t6,t7⟩:=BAZ.out.p8;obtain⟨f0,f1,f2,f3,f4,f5,f6,f7⟩:=BAZ.out.f8;have HLD:Hid ((((((((w3.setCell ⟨gr,0,none⟩ (.int .i64 (fe:Nat))).setCell ⟨gr,1,none⟩ (.int .i64 0)).setCell ⟨gr,2,none⟩ (.int .i64 0)).setCell ⟨gr,3,none⟩ (.int .u8 0)).setCell ⟨gr,4,none⟩ (.int .i64 0)).setCell ⟨gr,5,none⟩ (.int .i64 0)).setCell ⟨gr,6,none⟩ (.slice none 0 0)).setCell ⟨gr,7,none⟩ (.slice none 0 0)=ans8 w3 gr (erA fe) none 0 0 none 0 0):=rfl;have DD:=jH (zah (a:=erA fe) (w0:=w0) (w:=w) (gt:=gt) (p:=p) (L:=L) (d':=0) (t':=0) (B':=none) (m:=0) (q:=0) (T':=none) BAZ.out HGR.out (HP.out.new N3.out) HN0.out (OwnB.nil _ _ _) rfl (Txs.nil _ _) (fun _ h=>by cases h) rfl (N3.out.mono fun _ _ f=>f.elim));have DB:=jH (zaf (a:=erA fe) (d':=0) (t':=0) (B':=none) (m:=0) (q:=0) (T':=none) BAZ.out);clear hK3))
  rw[HLD.out];generalize ans8 w3 gr (erA fe) none 0 0 none 0 0=wf at *;have d0:=DB.out.cell 0;have d1:=DB.out.cell 1;have d2:=DB.out.cell 2;have d3:=DB.out.cell 3;have d4:=DB.out.cell 4;have d5:=DB.out.cell 5;have d6:=DB.out.cell 6;have d7:=DB.out.cell 7;simp at d0 d1 d2 d3 d4 d5 d6 d7;refine bodyPost_ret (by simp[results,Tryz.results60,go_sem,d0,d1,d2,d3,d4,d5,d6,d7];try rfl) rfl ?_;rw[E9.out.1,E9.out.2];exact DD.out
end
end Go.Proofs.YtjjamoemheljdaaGreat
