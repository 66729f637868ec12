/-
  Layer 7: contracts (Yu).
-/
import Derived.Test.YtjjamoemheljdaaGreatC29
namespace Go.Proofs.YtjjamoemheljdaaGreat
set_option maxRecDepth 100000
set_option maxHeartbeats 8000000
set_option linter.unusedSimpArgs false
set_option linter.unusedVariables false
section
open Go.RowKit
theorem may_any (w0:World) (gt p:Nat) (L:List ND) (q j d r v d2:Nat) (nm nm2:ByteArray) (y:ND) (w:World) (h:PT w0 w gt p L) (hR:Rt ⟨p,L⟩) (hy:ndI L j=some y) (hv:v≠0→∃z,ndI L v=some z):
  Calls Tryz.prog 90 #[.pointer (some ⟨gt,0,none⟩),.agg #[.int .i64 q,.string nm,.int .i64 j,.int .i64 (d:Nat)],.agg #[.int .i64 r,.string nm2,.int .i64 v,.int .i64 d2]] w (MNew w ((wayE ⟨p,L⟩ v y:Nat):Int)):=by
 obtain⟨w1,hw1⟩:∃w1,w1=(w.alloc (.cells #[.int .i64 q,.string nm,.int .i64 j,.int .i64 (d:Nat)] 87)).alloc (.cells #[.int .i64 r,.string nm2,.int .i64 v,.int .i64 d2] 87):=⟨_,rfl⟩
 have N1:Hid (New w w1):=by rw[hw1];exact (kR.alloc _).alloc _
 have BX:Hid (Blk w1 w.heap.size 87 [.int .i64 q,.string nm,.int .i64 j,.int .i64 (d:Nat)]):=by rw[hw1];exact (Blk.made w _ _).alloc _
 have BY:Hid (Blk w1 (w.heap.size+1) 87 [.int .i64 r,.string nm2,.int .i64 v,.int .i64 d2]):=by
  have:=Blk.made (w.alloc (.cells #[.int .i64 q,.string nm,.int .i64 j,.int .i64 (d:Nat)] 87)) 87 #[.int .i64 r,.string nm2,.int .i64 v,.int .i64 d2]
  rw[World.size_alloc] at this;rw[hw1];exact this
 have HW:=jH hw1;have hlen:L.length≤1000:=Nat.le_trans (show L.length≤48 from hR.len) (by omega)
 have CT:Hid (∀u,Calls Tryz.prog 83 #[.agg #[.int .i64 r,.string nm2,.int .i64 v,.int .i64 d2]] u (fun e w'=>e=.returned (.bool (decide (v≠0)))∧New u w')):=fun u=>zbh r nm2 v d2 u
 by_cases hv0:v=0
 ·have HE:Hid (wayE ⟨p,L⟩ v y=0):=by unfold wayE;rw[Hid,if_pos hv0]
  have CT:Hid (∀u,Calls Tryz.prog 83 #[.agg #[.int .i64 r,.string nm2,.int .i64 v,.int .i64 d2]] u (fun e w'=>e=.returned (.bool false)∧New u w')):=fun u=>by have:=CT.out u;rwa [decide_eq_false (fun e=>e hv0)] at this
  generalize wayE ⟨p,L⟩ v y=we at *;clear hw1 h hR hy hv hlen hv0;go_enter Tryz.func90,Tryz.ntmps90
  go_upto_region 1 with fail
  rw[←HW.out];clear HW;generalize w.heap.size=gk at *;obtain⟨c0,c1,c2,c3⟩:=BY.out.p4
  go_wp2_with (go_at_call 83;refine (CT.out _).mono ?_;rintro e w2 ⟨rfl,hK⟩;have N2:=jH (N1.out.new hK);clear hK)
  go_ret;exact⟨by rw[HE.out];rfl,N2.out⟩
 ·obtain⟨z,hz⟩:=hv hv0
  have CT:Hid (∀u,Calls Tryz.prog 83 #[.agg #[.int .i64 r,.string nm2,.int .i64 v,.int .i64 d2]] u (fun e w'=>e=.returned (.bool true)∧New u w')):=fun u=>by have:=CT.out u;rwa [decide_eq_true hv0] at this
  have HE:Hid (wayE ⟨p,L⟩ v y=if z.k≠y.k then 14 else if 0 < z.ns.length then 15 else 0):=by
   unfold wayE;rw[Hid,if_neg hv0]
   show (match ndI L v with|none=>0|some x=>if x.k≠y.k then 14 else if x.ns≠[] then 15 else 0)=_
   rw[hz];simp only[ne_eq,List.length_pos_iff]
  obtain⟨ga1,pj1,x1,_,hCN1,hZC1⟩:=node_on h hR.ord hlen hy;obtain⟨ga2,pj2,x2,_,hCN2,hZC2⟩:=node_on h hR.ord hlen hz;have CN1:=jH hCN1;have CN2:=jH hCN2
  have Z1:Hid (∀u,New w u→u.cell? ⟨ga1,pj1*5+1,none⟩=some (.int .u8 y.k)):=fun u hu=>(hZC1 u hu).2.1
  have Z2:Hid (∀u,New w u→u.cell? ⟨ga2,pj2*5+1,none⟩=some (.int .u8 z.k)∧u.cell? ⟨ga2,pj2*5+3,none⟩=some (.slice x2.A z.ns.length x2.c)):=fun u hu=>⟨(hZC2 u hu).2.1,(hZC2 u hu).2.2.2.1⟩
  generalize wayE ⟨p,L⟩ v y=we at *;clear hw1 h hR hy hv hlen hv0 hz hCN1 hCN2 hZC1 hZC2;generalize y.k=yk at *;generalize z.k=zk at *;generalize z.ns.length=zl at *;go_enter Tryz.func90,Tryz.ntmps90
  go_upto_region 1 with fail
  rw[←HW.out];clear HW;generalize w.heap.size=gk at *;obtain⟨c0,c1,c2,c3⟩:=BY.out.p4
  go_upto_region 3 with (go_at_call 83;refine (CT.out _).mono ?_;rintro e w2 ⟨rfl,hK⟩;have N2:=jH (N1.out.new hK);have M2:=jH hK;clear hK)
  clear c0 c1 c2 c3;have b2:=(BX.out.kept M2.out id).q2;have c2:=(BY.out.kept M2.out id).q2
  have p0:=fun d os=>cell_regrown b2 d os
  have p1:=fun d os=>cell_regrown c2 d os
  have cB:=jH (fun (d:Nat) (os:Array Obj)=>Calls.regrown_of (d:=d) (os:=os) ((CN1.out (Go.Sort.grow (redrawn w2 d) os) (zan N2.out d os)).mono fun e w' hh=>⟨hh.1,hh.2.below⟩));have cC:=jH (fun (d:Nat) (os:Array Obj)=>Calls.regrown_of (d:=d) (os:=os) ((CN2.out (Go.Sort.grow (redrawn w2 d) os) (zan N2.out d os)).mono fun e w' hh=>⟨hh.1,hh.2.below⟩));clear b2 c2;refine wp_region_quiet_below (by kernel_rfl) (by kernel_rfl) ?_
  repeat (first|go_big_quiet_step (fail)|quiet_step (fail))
  (first|go_big_quiet_step (first|(go_at_call 72;exact cB.out _ _))|quiet_step (first|(go_at_call 72;exact cB.out _ _)))
  repeat (first|go_big_quiet_step (fail)|quiet_step (fail))
  (first|go_big_quiet_step (first|(go_at_call 72;exact cC.out _ _))|quiet_step (first|(go_at_call 72;exact cC.out _ _)))
  repeat (first|go_big_quiet_step (fail)|quiet_step (fail))
  refine wpQuiet_nil ?_;intro _ hw';obtain⟨⟨dq,osq⟩,hw''⟩:=hw';subst hw'';have N5:Hid (New w (Go.Sort.grow (redrawn w2 dq) osq)):=zan N2.out dq osq;clear cB cC p0 p1;generalize Go.Sort.grow (redrawn w2 dq) osq=w5 at *;have y1:=Z1.out w5 N5.out;obtain⟨y2,y3⟩:=Z2.out w5 N5.out
  by_cases hk:zk=yk
  ·have d1:(((yk:Nat):Int) != ((zk:Nat):Int))=false:=bne_eq_false_iff_eq.2 (by omega)
   by_cases hl:0 < zl
   ·have d2':decide (0 < zl)=true:=decide_eq_true hl;have d3:decide ((0:Int) < ((zl:Nat):Int))=true:=decide_eq_true (by omega)
    have HE:Hid (we=15):=by rw[Hid,HE.out,if_neg (fun e=>e hk),if_pos hl]
    clear hk hl
    go_upto_region 4 with fail
    go_quiet (fail);have N6:Hid (New w (w5.drewN nq)):=N5.out.drewN _;clear y1 y2 y3;generalize w5.drewN nq=w6 at *;obtain⟨_,y3⟩:=Z2.out w6 N6.out;go_wp2_with fail;go_ret;exact⟨by rw[HE.out];rfl,N6.out⟩
   ·have d2':decide (0 < zl)=false:=decide_eq_false hl;have d3:decide ((0:Int) < ((zl:Nat):Int))=false:=decide_eq_false (by omega)
    have HE:Hid (we=0):=by rw[Hid,HE.out,if_neg (fun e=>e hk),if_neg hl]
    clear hk hl
    go_upto_region 4 with fail
    go_quiet (fail);have N6:Hid (New w (w5.drewN nq)):=N5.out.drewN _;clear y1 y2 y3;generalize w5.drewN nq=w6 at *;obtain⟨_,y3⟩:=Z2.out w6 N6.out;go_wp2_with fail;go_ret;exact⟨by rw[HE.out];rfl,N6.out⟩
  ·have d1:(((yk:Nat):Int) != ((zk:Nat):Int))=true:=bne_iff_ne.2 (by omega)
   have HE:Hid (we=14):=by rw[Hid,HE.out,if_pos hk]
   clear hk
   go_upto_region 4 with fail
   go_quiet (fail);have N6:Hid (New w (w5.drewN nq)):=N5.out.drewN _;clear y1 y2 y3;generalize w5.drewN nq=w6 at *;go_wp2_with fail;go_ret;exact⟨by rw[HE.out];rfl,N6.out⟩
end
end Go.Proofs.YtjjamoemheljdaaGreat
