/-
  Layer 7: contracts (Aa Ab Ac).
-/
import Derived.Test.YtbiihjdjbknibaaGreatC43
namespace Go.Proofs.YtbiihjdjbknibaaGreat
set_option maxRecDepth 100000
set_option maxHeartbeats 8000000
set_option linter.unusedSimpArgs false
set_option linter.unusedVariables false
section
set_option maxRecDepth 100000
open Go.RowKit
def rdOk (l:List Nat):Bool:=decide (sGetE l=0) && ((decide (sGetK l=2) && decide (geE (sGetL l)=0)) || (decide (sGetK l=3) && decide (gdE (sGetL l)=0)))
def rdC (l:List Nat):List CT:=if sGetK l=2 then geC (sGetL l) else []
def rdD (l:List Nat):Nat:=if sGetK l=3 then gdV (sGetL l) else 0
theorem rd_no {l:List Nat} (h:sGetE l≠0):rdOk l=false:=by unfold rdOk;rw[decide_eq_false h];rfl
theorem rd_2 {l:List Nat} (h:sGetE l=0) (hk:sGetK l=2):rdOk l=decide (geE (sGetL l)=0)∧rdC l=geC (sGetL l)∧rdD l=0:=by
 refine⟨?_,by unfold rdC;rw[if_pos hk],by unfold rdD;rw[if_neg (by omega)]⟩;unfold rdOk;rw[decide_eq_true h,decide_eq_true hk,decide_eq_false (p:=sGetK l=3) (by omega)];simp
theorem rd_3 {l:List Nat} (h:sGetE l=0) (hk:sGetK l=3):rdOk l=decide (gdE (sGetL l)=0)∧rdC l=[]∧rdD l=gdV (sGetL l):=by
 refine⟨?_,by unfold rdC;rw[if_neg (by omega)],by unfold rdD;rw[if_pos hk]⟩;unfold rdOk;rw[decide_eq_true h,decide_eq_true hk,decide_eq_false (p:=sGetK l=2) (by omega)];simp
theorem rd_x {l:List Nat} (h2:sGetK l≠2) (h3:sGetK l≠3):rdOk l=false:=by
 unfold rdOk;rw[decide_eq_false h2,decide_eq_false h3];simp
structure PV where
 p:Nat
 cs:List CT
 d:Nat
structure PE where
 p:Nat
 es:List CE
 A:Option Addr
 c:Nat
 d:Nat
def PE.cells (e:PE):List Value:=[.int .i64 (e.p:Nat),.slice e.A e.es.length e.c,.int .u64 (e.d:Nat)]
def PE.v (e:PE):PV:=⟨e.p,cts e.es,e.d⟩
def pes:List PE→List Value
 | []=>[]
 | e::r=>e.cells++pes r
def pvs (l:List PE):List PV:=l.map PE.v
theorem pe_len (e:PE):e.cells.length=3:=rfl
theorem pes_len:∀(l:List PE),(pes l).length=l.length*3
 | []=>rfl
 | e::r=>by simp only[pes,List.length_append,pe_len,pes_len r,List.length_cons];omega
theorem pes_append:∀(a b:List PE),pes (a++b)=pes a++pes b
 | [],b=>rfl
 | e::a,b=>by simp only[List.cons_append,pes,pes_append a b,List.append_assoc]
theorem pes_at:∀(l:List PE) (i j:Nat) (e:PE) (u:Value),l[i]?=some e→j < 3→e.cells[j]?=some u→(pes l)[i*3+j]?=some u
 | [],i,j,e,u,h,_,_=>by simp at h
 | x::r,0,j,e,u,h,hj,hu=>by
  simp at h;subst h;simp only[pes,Nat.zero_mul,Nat.zero_add];rw[List.getElem?_append_left (by rw[pe_len];exact hj)];exact hu
 | x::r,i+1,j,e,u,h,hj,hu=>by
  simp only[pes];rw[List.getElem?_append_right (by rw[pe_len];omega),pe_len,show (i+1)*3+j - 3=i*3+j by omega];exact pes_at r i j e u (by simpa using h) hj hu
def POwn (w:World) (B:Nat) (A:Option Addr) (c:Nat) (l:List PE):Prop:=
 OwnV w 47 3 B A l.length c (pes l)∧∀e∈l,COwn w B e.A e.c e.es
section
variable {w w':World} {A:Option Addr} {c B:Nat} {l:List PE}
theorem POwn.nil (w:World) (B:Nat):POwn w B none 0 []:=⟨OwnV.nil _ _ _ _,by simp⟩
theorem POwn.new (h:POwn w B A c l) (hk:New w w'):POwn w' B A c l:=⟨h.1.new hk,fun e he=>(h.2 e he).new hk⟩
theorem POwn.mono {B':Nat} (h:POwn w B A c l) (hB:B'≤B):POwn w B' A c l:=⟨h.1.mono hB,fun e he=>(h.2 e he).mono hB⟩
theorem POwn.at_ {i:Nat} (h:POwn w B A c l) (hi:i < l.length):∃(g:Nat) (e:PE),A=some ⟨g,0,none⟩∧l[i]?=some e ∧
  w.cell? ⟨g,i*3,none⟩=some (.int .i64 (e.p:Nat))∧w.cell? ⟨g,i*3+1,none⟩=some (.slice e.A e.es.length e.c)∧w.cell? ⟨g,i*3+2,none⟩=some (.int .u64 (e.d:Nat))∧COwn w B e.A e.c e.es:=by
 obtain⟨⟨h1,h2,h3,h4⟩,h5⟩:=h
 rcases h4 with ⟨_,h4⟩|⟨g,sp,rfl,hB,hb,_⟩
 ·omega
 have he:l[i]?=some l[i]:=List.getElem?_eq_getElem hi
 have key:∀j u,j < 3→l[i].cells[j]?=some u→w.cell? ⟨g,i*3+j,none⟩=some u:=fun j u hj hu=>by
  have:=pes_at l i j _ u he hj hu
  rw[hb.cell,List.getElem?_append_left (List.getElem?_eq_some_iff.1 this).1];exact this
 exact⟨g,l[i],rfl,he,key 0 _ (by omega) rfl,key 1 _ (by omega) rfl,key 2 _ (by omega) rfl,h5 _ (List.getElem_mem hi)⟩
end
def pgsU (f:Nat→List Nat):Nat→List PV
 | 0=>[]
 | k+1=>if rdOk (f (k+1))=true then pgsU f k++[⟨k+1,rdC (f (k+1)),rdD (f (k+1))⟩] else pgsU f k
theorem pgsU_len (f:Nat→List Nat):∀k,(pgsU f k).length≤k
 | 0=>Nat.le_refl _
 | k+1=>by
  unfold pgsU
  split
  ·have:=pgsU_len f k;rw[List.length_append];simp;omega
  ·have:=pgsU_len f k;omega
end
section
set_option maxRecDepth 100000
open Go.RowKit
def pcl (p:Int) (A:Option Addr) (n c:Nat) (d:Nat):List Value:=[.int .i64 p,.slice A n c,.int .u64 (d:Nat)]
theorem pg_store {w w':World} {g:Nat} (p0 p:Int) {A0 A:Option Addr} {n0 c0 n c:Nat} (d0 d:Nat) (h:Blk w g 47 (pcl p0 A0 n0 c0 d0))
  (hw:w'=((w.setCell ⟨g,0,none⟩ (.int .i64 p)).setCell ⟨g,1,none⟩ (.slice A n c)).setCell ⟨g,2,none⟩ (.int .u64 (d:Nat))):
  Blk w' g 47 (pcl p A n c d)∧Kept (·=g) w w':=by
 subst hw;exact⟨((h.put 0 (.int .i64 p)).put 1 (.slice A n c)).put 2 (.int .u64 (d:Nat)),((Kept.set1 w g _ _).setCell (p:=⟨g,_,none⟩) (fun _=>rfl) _).setCell (p:=⟨g,_,none⟩) (fun _=>rfl) _⟩
theorem pc3 {w:World} {g:Nat} {p:Int} {A:Option Addr} {n c d:Nat} (h:Blk w g 47 (pcl p A n c d)):
  w.cell? ⟨g,0,none⟩=some (.int .i64 p)∧w.cell? ⟨g,1,none⟩=some (.slice A n c)∧w.cell? ⟨g,2,none⟩=some (.int .u64 (d:Nat)):=
 ⟨h.cell 0,h.cell 1,h.cell 2⟩
theorem pf3 {w:World} {g:Nat} {p:Int} {A:Option Addr} {n c d:Nat} (h:Blk w g 47 (pcl p A n c d)):
  w.frozen? ⟨g,0,none⟩=false∧w.frozen? ⟨g,1,none⟩=false∧w.frozen? ⟨g,2,none⟩=false:=
 ⟨h.free 0,h.free 1,h.free 2⟩
theorem sGet_small {l:List Nat} (h:sGetE l=0):(sGetL l).length≤256:=by
 have h1:=(sGetE_ok h).1;unfold isPg at h1;unfold sGetL;rw[if_pos h,List.length_take,List.length_drop];omega
theorem own_nil_ {w:World} {B:Nat} {A:Option Addr} {c:Nat} {l:List Nat} (h:OwnB w 5 B A c l):A=none→c=0∧l.length=0:=by
 rcases h.2 with ⟨_,e1,e2⟩|⟨g,sp,e1,_⟩
 ·exact fun _=>⟨e1,by rw[e2];rfl⟩
 ·intro h;rw[h] at e1;cases e1
def RdP (w:World) (L:List Nat) (p:Int) (e:Ending) (w':World):Prop:=
 ∃(q:Int) (A:Option Addr) (n c d:Nat),e=.returned (.tuple #[.agg #[.int .i64 q,.slice A n c,.int .u64 (d:Nat)],.bool (rdOk L)])∧New w w' ∧
  (rdOk L=true→q=p∧d=rdD L∧∃es,n=es.length∧cts es=rdC L∧COwn w' w.heap.size A c es)
theorem rd_end_no {w u:World} {L:List Nat} {p:Int} (h:rdOk L=false) (q:Int) (A:Option Addr) (n c d:Nat) (k:New w u):
  RdP w L p (.returned (.tuple #[.agg #[.int .i64 q,.slice A n c,.int .u64 (d:Nat)],.bool false])) u:=
 ⟨q,A,n,c,d,by rw[h],k,fun h2=>by rw[h] at h2;cases h2⟩
theorem rd_end_yes {w u:World} {L:List Nat} {p:Int} {A:Option Addr} {n c d:Nat} {es:List CE} (h:rdOk L=true) (hd:d=rdD L) (hn:n=es.length) (hc:cts es=rdC L) (ho:COwn u w.heap.size A c es) (k:New w u):
  RdP w L p (.returned (.tuple #[.agg #[.int .i64 p,.slice A n c,.int .u64 (d:Nat)],.bool true])) u:=
 ⟨p,A,n,c,d,by rw[h],k,fun _=>⟨rfl,hd,es,hn,hc,ho⟩⟩
theorem read_any (Q:Nat→Prop) (g:Nat) (s:CSt) (b p:Int) (w:World) (h:NChip Q w g s):
  Calls Tryz.prog 69 #[.pointer (some ⟨g,0,none⟩),.int .i64 b,.int .i64 p] w (RdP w (readL s b p) p):=by
 obtain⟨w0,hw0⟩:∃w0,w0=w.alloc (.cells #[.int .i64 0,.slice none 0 0,.int .u64 0] 47):=⟨_,rfl⟩
 have n0:New w w0:=by rw[hw0];exact kR.alloc _
 have BZ:Hid (Blk w0 w.heap.size 47 (pcl 0 none 0 0 0)):=by rw[hw0];exact Blk.made w _ _
 have C0:=jH (nRead_any Q g s b p w0 (h.new n0));have K0:=jH n0;have HW0:=jH hw0;clear hw0 n0 h;generalize readL s b p=L at *;generalize readE s b p=re at *;have HNO:Hid (sGetE L≠0→rdOk L=false):=rd_no;have H2:Hid (sGetE L=0→sGetK L=2→rdOk L=decide (geE (sGetL L)=0)∧rdC L=geC (sGetL L)∧rdD L=0):=rd_2;have H3:Hid (sGetE L=0→sGetK L=3→rdOk L=decide (gdE (sGetL L)=0)∧rdC L=[]∧rdD L=gdV (sGetL L)):=rd_3;have HX:Hid (sGetK L≠2→sGetK L≠3→rdOk L=false):=rd_x;have HSM:Hid (sGetE L=0→(sGetL L).length≤256):=sGet_small
 have ENO:Hid (rdOk L=false→∀(q:Int) (A:Option Addr) (n c d:Nat) u,New w u→RdP w L p (.returned (.tuple #[.agg #[.int .i64 q,.slice A n c,.int .u64 (d:Nat)],.bool false])) u):=fun h q A n c d u k=>rd_end_no h q A n c d k
 have EYE:Hid (∀(A:Option Addr) (n c d:Nat) (es:List CE) u,rdOk L=true→d=rdD L→n=es.length→cts es=rdC L→COwn u w.heap.size A c es→New w u→RdP w L p (.returned (.tuple #[.agg #[.int .i64 p,.slice A n c,.int .u64 (d:Nat)],.bool true])) u):=fun A n c d es u h1 h2 h3 h4 h5 h6=>rd_end_yes h1 h2 h3 h4 h5 h6
 go_enter Tryz.func69,Tryz.ntmps69;go_wp2_with fail;rw[←HW0.out];clear HW0;generalize hgr:w.heap.size=gr at *;have HGR:=jH hgr;clear hgr;refine C0.out.mono ?_;rintro e w1 ⟨A1,c1,rfl,o1,k1⟩;have K1:=jH (K0.out.new k1);have BZ1:=jH (BZ.out.kept k1 id);have CG:=jH (sGet_any A1 L.length c1 L w1 o1.bts o1.le.1 (by have:=o1.le.2;unfold maxLen at this;omega));clear o1 k1 C0 K0 BZ;generalize L.length=ln at *;go_wp2_with fail;refine CG.out.mono ?_;rintro e w2 ⟨A2,c2,rfl,o2,k2⟩;have K2:=jH (K1.out.new k2);have BZ2:=jH (BZ1.out.kept k2 id);have O2:=jH o2;clear o2 k2 CG K1 BZ1
 by_cases h0:sGetE L=0
 ·have hsm:=HSM.out h0;have ON:=jH (own_nil_ O2.out);have H2':=jH (H2.out h0);have H3':=jH (H3.out h0);rw[h0];clear HNO H2 H3 HSM h0;generalize sGetK L=k at *;generalize sGetL L=bd at *;generalize hbl:bd.length=bl at *;have HBL:=jH hbl;clear hbl
  have T2:Hid (Bts w2 A2 bl bd):=by have:=O2.out.bts;rwa [HBL.out] at this
  clear O2;obtain⟨w3,hw3⟩:∃w3,w3=w2.alloc (.cells #[.int .i64 p,.slice none 0 0,.int .u64 0] 47):=⟨_,rfl⟩
  have n3:New w2 w3:=by rw[hw3];exact kR.alloc _
  have BX3:Hid (Blk w3 w2.heap.size 47 (pcl p none 0 0 0)):=by rw[hw3];exact Blk.made w2 _ _
  have K3:=jH (K2.out.new n3);have BZ3:=jH (BZ2.out.kept n3 id);have T3:=jH (T2.out.new n3);have hlt2:=BZ2.out.lt;have HW3:=jH hw3;clear n3 hw3 T2 BZ2 K2
  go_upto_region 6 with fail
  rw[←HW3.out];clear HW3
  by_cases k2:k=2
  ·obtain⟨r1,r2,r3⟩:=H2'.out k2;subst k2;have CR:=jH (recGet_any A2 bl c2 bd w3 T3.out (by omega) ON.out);have R1:=jH r1;have R2:=jH r2;have R3:=jH r3;clear r1 r2 r3 H2' H3' HX;go_wp2_with fail;refine CR.out.mono ?_;rintro e w4 ⟨A4,c4,es4,rfl,e4,o4,k4⟩;have K4:=jH (K3.out.new k4);have BX4:=jH (BX3.out.kept k4 id);have BZ4:=jH (BZ3.out.kept k4 id)
   have HS3:Hid (gr≤w3.heap.size):=by have:=K3.out.size;have:=HGR.out;rw[Hid];omega
   have O4:Hid (COwn w4 gr A4 c4 es4):=o4.mono HS3.out;have E4:=jH e4;clear e4 o4 k4 K3 BX3 BZ3 T3 CR;obtain⟨w5,hw5⟩:∃w5,w5=w4.setCell ⟨w2.heap.size,1,none⟩ (.slice A4 es4.length c4):=⟨_,rfl⟩
   have k5:Kept (·=w2.heap.size) w4 w5:=by rw[hw5];exact Kept.set1 w4 _ _ _
   have BX5:Hid (Blk w5 w2.heap.size 47 (pcl p A4 es4.length c4 0)):=by rw[hw5];exact BX4.out.put 1 (.slice A4 es4.length c4)
   have BZ5:=jH (BZ4.out.kept k5 (by omega))
   have K5:Hid (New w w5):=K4.out.trans k5 fun i hi e=>by have:=HGR.out;omega
   have O5:Hid (COwn w5 gr A4 c4 es4):=O4.out.kept k5 (fun b e ht=>by subst e;exact ht.ne_of BX4.out.at_ (by decide) rfl) (fun b e ht=>by subst e;exact ht.ne_of BX4.out.at_ (by decide) rfl);have HW5:=jH hw5;obtain⟨x0,x1,x2⟩:=pc3 BX4.out;obtain⟨g0,g1,g2⟩:=pf3 BX4.out;clear k5 hw5 O4 K4 BZ4;generalize hel:es4.length=el at *;have HEL:=jH hel;clear hel
   go_upto_region 12 with fail
   rw[←HW5.out];clear HW5 x0 x1 x2 g0 g1 g2 BX4;obtain⟨x0,x1,x2⟩:=pc3 BX5.out
   by_cases hg:geE bd=0
   ·have hok:rdOk L=true:=R1.out.trans (decide_eq_true hg);rw[hg];clear ENO hg;obtain⟨c0,c1',c2'⟩:=pc3 BZ5.out;obtain⟨f0,f1,f2⟩:=pf3 BZ5.out;obtain⟨w9,hw9⟩:∃w9,w9=((w5.setCell ⟨gr,0,none⟩ (.int .i64 p)).setCell ⟨gr,1,none⟩ (.slice A4 el c4)).setCell ⟨gr,2,none⟩ (.int .u64 0):=⟨_,rfl⟩;obtain⟨bs,ks⟩:=pg_store 0 p 0 0 BZ5.out hw9
    have K9:Hid (New w w9):=K5.out.trans ks fun i hi e=>by have:=HGR.out;omega
    have O9:COwn w9 gr A4 c4 es4:=O5.out.kept ks (fun b e ht=>by subst e;exact ht.ne_of BZ5.out.at_ (by decide) rfl) (fun b e ht=>by subst e;exact ht.ne_of BZ5.out.at_ (by decide) rfl);have E9:=jH (EYE.out A4 el c4 0 es4 w9 hok R3.out.symm HEL.out.symm (E4.out.trans R2.out.symm) O9 K9.out);clear O9;obtain⟨d0,d1,d2⟩:=pc3 bs;have HW9:=jH hw9;clear hw9 bs ks K9;go_wp2;rw[←HW9.out];clear HW9 c0 c1' c2' f0 f1 f2
    (try simp only[Exit.inBlock,Exit.then])
    refine bodyPost_ret (by simp[results,Tryz.results69,go_sem,d0,d1,d2];try rfl) rfl ?_;exact E9.out
   ·have hok:rdOk L=false:=R1.out.trans (decide_eq_false hg);have b0:(geE bd == 0)=false:=beq_eq_false_iff_ne.2 hg;clear EYE hg;generalize geE bd=ge at *;obtain⟨c0,c1',c2'⟩:=pc3 BZ5.out;obtain⟨f0,f1,f2⟩:=pf3 BZ5.out;obtain⟨w9,hw9⟩:∃w9,w9=((w5.setCell ⟨gr,0,none⟩ (.int .i64 p)).setCell ⟨gr,1,none⟩ (.slice A4 el c4)).setCell ⟨gr,2,none⟩ (.int .u64 0):=⟨_,rfl⟩;obtain⟨bs,ks⟩:=pg_store 0 p 0 0 BZ5.out hw9
    have K9:Hid (New w w9):=K5.out.trans ks fun i hi e=>by have:=HGR.out;omega
    have E9:=jH (ENO.out hok p A4 el c4 0 w9 K9.out);obtain⟨d0,d1,d2⟩:=pc3 bs;have HW9:=jH hw9;clear hw9 bs ks K9;go_wp2;rw[←HW9.out];clear HW9 c0 c1' c2' f0 f1 f2
    (try simp only[Exit.inBlock,Exit.then])
    refine bodyPost_ret (by simp[results,Tryz.results69,go_sem,d0,d1,d2];try rfl) rfl ?_;exact E9.out
  ·by_cases k3:k=3
   ·obtain⟨r1,r2,r3⟩:=H3'.out k3;subst k3;have CR:=jH (getDrop_any A2 bl c2 bd w3 T3.out (by omega) ON.out);have R1:=jH r1;have R2:=jH r2;have R3:=jH r3;clear r1 r2 r3 H2' H3' HX k2;go_wp2_with fail;refine CR.out.mono ?_;rintro e w4 ⟨rfl,k4⟩;have K4:=jH (K3.out.new k4);have BX4:=jH (BX3.out.kept k4 id);have BZ4:=jH (BZ3.out.kept k4 id);clear k4 K3 BX3 BZ3 T3 CR;generalize gdV bd=dv at *;obtain⟨w5,hw5⟩:∃w5,w5=w4.setCell ⟨w2.heap.size,2,none⟩ (.int .u64 (dv:Nat)):=⟨_,rfl⟩
    have k5:Kept (·=w2.heap.size) w4 w5:=by rw[hw5];exact Kept.set1 w4 _ _ _
    have BX5:Hid (Blk w5 w2.heap.size 47 (pcl p none 0 0 dv)):=by rw[hw5];exact BX4.out.put 2 (.int .u64 (dv:Nat))
    have BZ5:=jH (BZ4.out.kept k5 (by omega))
    have K5:Hid (New w w5):=K4.out.trans k5 fun i hi e=>by have:=HGR.out;omega
    have HW5:=jH hw5;obtain⟨x0,x1,x2⟩:=pc3 BX4.out;obtain⟨g0,g1,g2⟩:=pf3 BX4.out;clear k5 hw5 K4 BZ4
    go_upto_region 12 with fail
    rw[←HW5.out];clear HW5 x0 x1 x2 g0 g1 g2 BX4;obtain⟨x0,x1,x2⟩:=pc3 BX5.out
    by_cases hg:gdE bd=0
    ·have hok:rdOk L=true:=R1.out.trans (decide_eq_true hg);rw[hg];clear ENO hg;obtain⟨c0,c1',c2'⟩:=pc3 BZ5.out;obtain⟨f0,f1,f2⟩:=pf3 BZ5.out;obtain⟨w9,hw9⟩:∃w9,w9=((w5.setCell ⟨gr,0,none⟩ (.int .i64 p)).setCell ⟨gr,1,none⟩ (.slice none 0 0)).setCell ⟨gr,2,none⟩ (.int .u64 (dv:Nat)):=⟨_,rfl⟩;obtain⟨bs,ks⟩:=pg_store 0 p 0 dv BZ5.out hw9
     have K9:Hid (New w w9):=K5.out.trans ks fun i hi e=>by have:=HGR.out;omega
     have E9:=jH (EYE.out none 0 0 dv [] w9 hok R3.out.symm rfl R2.out.symm (COwn.nil _ _) K9.out);obtain⟨d0,d1,d2⟩:=pc3 bs;have HW9:=jH hw9;clear hw9 bs ks K9;go_wp2;rw[←HW9.out];clear HW9 c0 c1' c2' f0 f1 f2
     (try simp only[Exit.inBlock,Exit.then])
     refine bodyPost_ret (by simp[results,Tryz.results69,go_sem,d0,d1,d2];try rfl) rfl ?_;exact E9.out
    ·have hok:rdOk L=false:=R1.out.trans (decide_eq_false hg);have b0:(gdE bd == 0)=false:=beq_eq_false_iff_ne.2 hg;clear EYE hg;generalize gdE bd=ge at *;obtain⟨c0,c1',c2'⟩:=pc3 BZ5.out;obtain⟨f0,f1,f2⟩:=pf3 BZ5.out;obtain⟨w9,hw9⟩:∃w9,w9=((w5.setCell ⟨gr,0,none⟩ (.int .i64 p)).setCell ⟨gr,1,none⟩ (.slice none 0 0)).setCell ⟨gr,2,none⟩ (.int .u64 (dv:Nat)):=⟨_,rfl⟩;obtain⟨bs,ks⟩:=pg_store 0 p 0 dv BZ5.out hw9
     have K9:Hid (New w w9):=K5.out.trans ks fun i hi e=>by have:=HGR.out;omega
     have E9:=jH (ENO.out hok p none 0 0 dv w9 K9.out);obtain⟨d0,d1,d2⟩:=pc3 bs;have HW9:=jH hw9;clear hw9 bs ks K9;go_wp2;rw[←HW9.out];clear HW9 c0 c1' c2' f0 f1 f2
     (try simp only[Exit.inBlock,Exit.then])
     refine bodyPost_ret (by simp[results,Tryz.results69,go_sem,d0,d1,d2];try rfl) rfl ?_;exact E9.out
   ·have hok:=HX.out k2 k3;have d2':((k:Int) == 2)=false:=beq_eq_false_iff_ne.2 (by omega);have d3':((k:Int) == 3)=false:=beq_eq_false_iff_ne.2 (by omega);clear H2' H3' HX EYE k2 k3 T3;obtain⟨c0,c1',c2'⟩:=pc3 BZ3.out;obtain⟨f0,f1,f2⟩:=pf3 BZ3.out;obtain⟨w9,hw9⟩:∃w9,w9=((w3.setCell ⟨gr,0,none⟩ (.int .i64 0)).setCell ⟨gr,1,none⟩ (.slice none 0 0)).setCell ⟨gr,2,none⟩ (.int .u64 0):=⟨_,rfl⟩;obtain⟨bs,ks⟩:=pg_store 0 0 0 0 BZ3.out hw9
    have K9:Hid (New w w9):=K3.out.trans ks fun i hi e=>by have:=HGR.out;omega
    have E9:=jH (ENO.out hok 0 none 0 0 0 w9 K9.out);obtain⟨d0,d1,d2⟩:=pc3 bs;have HW9:=jH hw9;clear hw9 bs ks K9;go_wp2;rw[←HW9.out];clear HW9 c0 c1' c2' f0 f1 f2
    (try simp only[Exit.inBlock,Exit.then])
    refine bodyPost_ret (by simp[results,Tryz.results69,go_sem,d0,d1,d2];try rfl) rfl ?_;exact E9.out
 ·have E:=jH (ENO.out (HNO.out h0));have b0:(sGetE L != 0)=true:=bne_iff_ne.2 h0;clear HNO H2 H3 HX HSM ENO EYE h0 O2;generalize sGetE L=se at *;generalize sGetK L=k at *;generalize (sGetL L).length=bl at *;obtain⟨c0,c1',c2'⟩:=pc3 BZ2.out;obtain⟨f0,f1,f2⟩:=pf3 BZ2.out;obtain⟨w9,hw9⟩:∃w9,w9=((w2.setCell ⟨gr,0,none⟩ (.int .i64 0)).setCell ⟨gr,1,none⟩ (.slice none 0 0)).setCell ⟨gr,2,none⟩ (.int .u64 0):=⟨_,rfl⟩;obtain⟨bs,ks⟩:=pg_store 0 0 0 0 BZ2.out hw9;have E9:=jH (E.out 0 none 0 0 0 w9 (K2.out.trans ks fun i hi e=>by have:=HGR.out;omega));obtain⟨d0,d1,d2⟩:=pc3 bs;have HW9:=jH hw9;clear hw9 bs ks E
  go_wp2;rw[←HW9.out];clear HW9 c0 c1' c2' f0 f1 f2
  (try simp only[Exit.inBlock,Exit.then])
  refine bodyPost_ret (by simp[results,Tryz.results69,go_sem,d0,d1,d2];try rfl) rfl ?_;exact E9.out
end
section
set_option maxRecDepth 100000
open Go.RowKit
theorem info_page:(Tryz.prog.info? 47).map (fun i=>(i.zero,i.size,i.bytes))=some (some (.agg #[.int .i64 0,.slice none 0 0,.int .u64 0]),3,40):=by kernel_rfl
theorem wpList_append_page {w:World} {ops:Array Oper} {rest:List Oper} {o:Oper} {a:Act} {Q:Exit→Act→World→Prop} (hgd:o.guard=none) (s x:Operand)
  (ho:o.op=.call { callee:=.builtin .append,args:=#[s,x],argTypes:=#[40,40] })
  (B:Nat) (A:Option Addr) (k ch:Nat) (vs:List Value) (hsv:a.eval s=.slice A k ch) (hown:OwnV w 47 3 B A k ch vs)
  (g c':Nat) (us:List Value) (hx:a.eval x=.slice (some ⟨g,0,none⟩) 1 c') (hb:Blk w g 47 us) (hul:us.length=3) (h1:∀u∈us,u.oneCell'=true) (hn:(k+1)*40≤140737488355328) (hbase:B≤w.heap.size)
  (h:∀A2 c2 w',Hid (OwnV w' 47 3 B A2 (k+1) c2 (vs++us))→Hid (Kept (InRow A) w w')→wpList Tryz.prog ops Q rest (a.put o.dst (.slice A2 (k+1) c2)) w'):
  wpList Tryz.prog ops Q (o::rest) a w:=by
 obtain⟨i0,hi,hz0,hz1,hz2⟩:=info_parts info_page
 have hr:RowV w (some ⟨g,0,none⟩) 1 i0.size us:=by
  rw[hz1];exact⟨by rw[hul],fun _=>⟨g,0,rfl,fun j v hj=>by rw[Nat.zero_add,hb.cell];exact hj⟩⟩
 have ho':OwnV w 47 i0.size B A k ch vs:=by rw[hz1];exact hown
 refine wpList_append_rowV w hgd s x 40 ho 47 i0 (.agg #[.int .i64 0,.slice none 0 0,.int .u64 0]) Tryz.underlying40 hi hz0 (by rw[hz1];rfl) (by rw[hz1];omega) B A k ch vs hsv ho' (some ⟨g,0,none⟩) 1 c' us hx hr h1 (by rw[hz2];omega) (by omega) hbase ?_;intro A2 c2 w' h3 h4 h5;refine h A2 c2 w' (by have:=h3.out;rw[hz1] at this;exact this) ?_
 refine (Kept.refl (InRow A) w).grown h4.out fun q _ hA=>?_
 obtain⟨a,ha,e⟩:=Option.map_eq_some_iff.1 hA;exact⟨a,ha,e⟩
theorem pcl_one (p:Int) (A:Option Addr) (n c d:Nat):∀u∈pcl p A n c d,u.oneCell'=true:=by
 intro u hu;simp[pcl] at hu
 rcases hu with rfl|rfl|rfl<;>rfl
theorem pvs_append (a b:List PE):pvs (a++b)=pvs a++pvs b:=by unfold pvs;rw[List.map_append]
theorem POwn.more {w w':World} {B c c2 k:Nat} {A A2:Option Addr} {l:List PE} {x:PE} (h:POwn w B A c l) (hx:COwn w B x.A x.c x.es) (hk:l.length=k) (k7:Kept (InRow A) w w')
  (o7:OwnV w' 47 3 B A2 (k+1) c2 (pes l++x.cells)):POwn w' B A2 c2 (l++[x]):=by
 have hK:∀(e:PE),COwn w B e.A e.c e.es→COwn w' B e.A e.c e.es:=fun e he=>he.kept k7
  (fun b ⟨a,ha,e2⟩ ht=>ht.ne_of (e2 ▸ (h.1.at_ a ha).1) (by decide) rfl) (fun b ⟨a,ha,e2⟩ ht=>ht.ne_of (e2 ▸ (h.1.at_ a ha).1) (by decide) rfl)
 refine⟨?_,fun e he=>?_⟩
 ·rw[List.length_append,pes_append,hk];simpa [pes] using o7
 ·rcases List.mem_append.1 he with he|he
  ·exact hK e (h.2 e he)
  ·simp only[List.mem_cons,List.not_mem_nil,or_false] at he;subst he;exact hK e hx
def PsP (w:World) (l:List PV) (e:Ending) (w':World):Prop:=∃A c pl,e=.returned (.slice A pl.length c)∧pvs pl=l∧POwn w' w.heap.size A c pl∧New w w'
theorem pagesOf_any (Q:Nat→Prop) (g:Nat) (s:CSt) (b:Int) (w:World) (h:NChip Q w g s):
  Calls Tryz.prog 33 #[.pointer (some ⟨g,0,none⟩),.int .i64 b] w (PsP w (pgsU (fun q=>readL s b (q:Nat)) (s.np - 1))):=by
 have hok:s.Ok:=by obtain⟨_,_,_,_,_,_,_,_,h⟩:=h;exact h.ok
 have hnp1:=hok.np1;have hnp2:=hok.np2;have H:=jH h
 have HGe:=fun u hu=>jH (nGeo_any Q g s u (h.new hu))
 have wn:IntKind.i64.wrap ((s.np:Int) - 1)=((s.np - 1:Nat):Int):=by rw[IntKind.wrap_i64];omega
 clear h hok;generalize hF:(fun q:Nat=>readL s b (q:Nat))=F at *
 have HF:Hid (∀q:Nat,readL s b (q:Nat)=F q):=fun q=>by rw[←hF]
 have CRd:=fun (k:Nat) u hu=>jH (read_any Q g s b ((k+1:Nat):Int) u (H.out.new hu))
 clear hF
 have hm32:s.np - 1≤32:=by omega
 have hfd:∀w:World,(Instr.field 51 (.agg #[.int .i64 (s.nb:Nat),.int .i64 (s.np:Nat),.int .i64 (s.nz:Nat),.int .i64 (s.ns:Nat)]) 1).run Tryz.prog w=.ok (.int .i64 (s.np:Nat)) w:=fun _=>by kernel_rfl
 generalize hm:s.np - 1=m at *;clear hm;go_enter Tryz.func33,Tryz.ntmps33;go_wp2_with fail;refine (HGe _ kR).out.mono ?_;rintro e w1 ⟨rfl,k1⟩;have K1:=jH k1;clear k1 HGe;go_wp2_with fail
 go_loopw [5,13] (fun o i wr=>∃(k:Nat) (A':Option Addr) (c':Nat) (pl:List PE) (n':Nat),k≤m∧i=.int .i64 k∧o=.slice A' n' c'∧n'≤k∧Hid (pl.length=n')∧Hid (POwn wr w.heap.size A' c' pl)∧Hid (pvs pl=pgsU F k)∧Hid (New w wr)) (fun _ i _=>m - (intOf i).toNat)
 case atStart=>exact⟨0,none,0,[],0,Nat.zero_le _,rfl,rfl,Nat.le_refl _,rfl,POwn.nil _ _,rfl,K1⟩
 case round=>
  obtain⟨k,A',c',pl,n',hk,rfl,rfl,hn',HLN,VO,VC,VN⟩:=hrel;clear K1
  by_cases hlt:k < m
  ·have wk:IntKind.i64.wrap (1+(k:Int))=((k+1:Nat):Int):=by rw[IntKind.wrap_i64];omega
   have CR:=CRd k wr VN.out;rw[HF.out] at CR;have HST:Hid (pgsU F (k+1)=if rdOk (F (k+1))=true then pgsU F k++[⟨k+1,rdC (F (k+1)),rdD (F (k+1))⟩] else pgsU F k):=rfl
   have HB:Hid (n'+1≤33):=by rw[Hid];omega
   go_wp2_with fail;refine CR.out.mono ?_;rintro e w2 ⟨q,A3,n3,c3,d3,rfl,k2,h2⟩;have N2:=jH (VN.out.new k2);have V2:=jH (VO.out.new k2);have H2:=jH h2;have hsz:w.heap.size≤wr.heap.size:=VN.out.size;obtain⟨w3,hw3⟩:∃w3,w3=w2.alloc (.cells #[.int .i64 q,.slice A3 n3 c3,.int .u64 (d3:Nat)] 47):=⟨_,rfl⟩
   have m3:New w2 w3:=by rw[hw3];exact kR.alloc _
   have BX3:Hid (Blk w3 w2.heap.size 47 (pcl q A3 n3 c3 d3)):=by rw[hw3];exact Blk.made w2 _ _
   have N3:=jH (N2.out.new m3);have V3:=jH (V2.out.new m3);have M3:=jH m3;have HW3:=jH hw3;clear k2 h2 hw3 m3 CR VO VN N2 V2
   go_upto_region 6 with fail
   rw[←HW3.out];clear HW3;cases hr:rdOk (F (k+1))
   ·have HC:Hid (pvs pl=pgsU F (k+1)):=by rw[Hid,HST.out,hr,if_neg (by decide)];exact VC.out
    clear H2 HST VC BX3 hr;go_wp2;go_roundw
    case rel=>exact⟨k+1,A',c',pl,n',by omega,by go_num,rfl,by omega,HLN,V3,HC,N3⟩
    case measure=>simp[intOf];omega
   ·obtain⟨e1,e2,es3,e3,e4,o3⟩:=H2.out hr;have O3:Hid (COwn w3 w.heap.size A3 c3 es3):=(o3.mono hsz).new M3.out
    have HC:Hid (pvs pl++[⟨k+1,cts es3,d3⟩]=pgsU F (k+1)):=by rw[Hid,HST.out,hr,if_pos rfl,VC.out,e4,e2]
    have E1:=jH e1;have E3:=jH e3;clear H2 HST VC hr e1 e2 e3 e4 o3;obtain⟨x0,x1,x2⟩:=pc3 BX3.out;obtain⟨w4,hw4⟩:∃w4,w4=w3.alloc (.cells #[.int .i64 q,.slice A3 n3 c3,.int .u64 (d3:Nat)] 47):=⟨_,rfl⟩
    have m4:New w3 w4:=by rw[hw4];exact kR.alloc _
    have BY4:Hid (Blk w4 w3.heap.size 47 (pcl q A3 n3 c3 d3)):=by rw[hw4];exact Blk.made w3 _ _
    have V4:=jH (V3.out.new m4);have O4:=jH (O3.out.new m4);have N4:=jH (N3.out.new m4)
    have W4:Hid (OwnV w4 47 3 w.heap.size A' n' c' (pes pl)):=by have:=V4.out.1;rwa [HLN.out] at this
    have HW4:=jH hw4;clear m4 hw4 V3 O3 N3;have hb:=HB.out
    go_wp2_with (at_builtin;rw[←HW4.out];refine wpList_append_page rfl _ _ rfl w.heap.size A' n' c' (pes pl) rfl W4.out w3.heap.size 1 (pcl q A3 n3 c3 d3) rfl BY4.out rfl (pcl_one _ _ _ _ _) (by omega) N4.out.size ?_)
    intro A5 c5 w5 O5 K5;have V5:Hid (POwn w5 w.heap.size A5 c5 (pl++[⟨k+1,es3,A3,c3,d3⟩])):=POwn.more V4.out O4.out HLN.out K5.out (by have:=O5.out;rw[E1.out,E3.out] at this;exact this);have N5:Hid (New w w5):=new_row N4.out W4.out K5.out
    have HC2:Hid (pvs (pl++[(⟨k+1,es3,A3,c3,d3⟩:PE)])=pgsU F (k+1)):=by rw[Hid,pvs_append];exact HC.out
    have HLN2:Hid ((pl++[(⟨k+1,es3,A3,c3,d3⟩:PE)]).length=n'+1):=by rw[Hid,List.length_append,HLN.out];rfl
    clear O5 K5 V4 O4 N4 W4 HW4 HC BX3 BY4 x0 x1 x2 HLN E1 E3;go_wp2;go_roundw
    case rel=>exact⟨k+1,A5,c5,_,n'+1,by omega,by go_num,rfl,by omega,HLN2,V5,HC2,N5⟩
    case measure=>simp[intOf];omega
  ·have hkm:k=m:=by omega
   have E9:Hid (PsP w (pgsU F m) (.returned (.slice A' n' c')) wr):=⟨A',c',pl,by rw[HLN.out],by rw[←hkm];exact VC.out,VO.out,VN.out⟩;clear VO VC VN;go_wp2;go_ret;exact E9.out
end
end Go.Proofs.YtbiihjdjbknibaaGreat
