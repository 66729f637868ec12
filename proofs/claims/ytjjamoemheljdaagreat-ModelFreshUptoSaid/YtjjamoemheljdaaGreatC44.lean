/-
  Layer 7: contracts (Qb Qc).
-/
import Derived.Test.YtjjamoemheljdaaGreatC41
import Derived.Test.YtjjamoemheljdaaGreatC30
import Derived.Test.YtjjamoemheljdaaGreatC43
namespace Go.Proofs.YtjjamoemheljdaaGreat
set_option maxRecDepth 100000
set_option maxHeartbeats 8000000
set_option linter.unusedSimpArgs false
set_option linter.unusedVariables false
section
open Go.RowKit
theorem rren_old (p:Nat) (A:Option Addr) (n c B:Nat) (es:List NE) (G1 G2:Option Addr) (n1 n2 c1 c2:Nat) (g1 g2:List (List UInt8)) (q j r v:Nat) (y:ND) (w:World) (h:TOwn w B A c es) (hn:es.length=n) (hB:B≤w.heap.size) (hR:Rt ⟨p,nds es⟩) (h1:Txs w G1 n1 g1) (h2:Txs w G2 n2 g2) (ha1:∀x,G1=some x→At w x.block 9) (ha2:∀x,G2=some x→At w x.block 9)
    (hn1:n1≤6) (hn2:n2≤6) (h0:j≠0) (hy:ndI (nds es) j=some y) (hp1:LkP (nds es) (g1.map baL) q j) (hp2:LkP (nds es) (g2.map baL) r v) (hv:0 < v):
    Calls Tryz.prog 40 #[.agg #[.int .i64 p,.slice A n c],.slice G1 n1 c1,.slice G2 n2 c2,.int .i64 q,.int .i64 j,.int .i64 r,.int .i64 (v:Nat)] w
      (RenP w p B A (mvF ⟨p,nds es⟩ (g1.map baL) (g2.map baL) q j r v y).1.l (mvF ⟨p,nds es⟩ (g1.map baL) (g2.map baL) q j r v y).2.e):=by
  have hm48:n≤48:=by have:=hR.len;rwa [zab,hn] at this
  obtain⟨z,hz,hzy,hzm⟩:=zbg hy
  have hpl:posI (nds es) j < n:=by have:=(List.getElem?_eq_some_iff.1 hz).1;rwa [hn] at this
  obtain⟨w1,hw1⟩:∃w1,w1=(w.alloc (.cells #[.int .i64 p,.slice A n c] 25)).alloc (.cells #[.int .i64 0,.slice none 0 0] 25):=⟨_,rfl⟩
  have nw1:New w w1:=by rw[hw1];exact (kR.alloc _).alloc _
  have BK:Hid (Blk w1 w.heap.size 25 [.int .i64 p,.slice A n c]):=by rw[hw1];exact (Blk.made w _ _).alloc _
  have BR:Hid (Blk w1 (w.heap.size+1) 25 [.int .i64 0,.slice none 0 0]):=by
    have:=Blk.made (w.alloc (.cells #[.int .i64 p,.slice A n c] 25)) 25 #[.int .i64 0,.slice none 0 0]
    rw[World.size_alloc] at this;rw[hw1];exact this
  have H:=jH (h.new nw1);have N1:=jH nw1;have HW:=jH hw1;have LN:=jH hn;have HB:=jH hB;have RR:=jH hR;have HY:=jH hy
  have CNy:Hid (∀u,New w1 u→Calls Tryz.prog 25 #[.agg #[.int .i64 p,.slice A n c],.int .i64 j] u (zaw u ((posI (nds es) j:Nat):Int))):=fun u hu=>by
    have:=zam p A n c es j u ((h.new nw1).new hu).in_ hn (by omega)
    rwa [zaz hy] at this
  have CB:Hid (∀u,New w1 u→Calls Tryz.prog 69 #[.slice G2 n2 c2,.slice G1 n1 c1] u (QuietT u (decide (n1 < n2∧g2.take n1=g1)))):=fun u hu=>
    begins_any G2 G1 n2 n1 c2 c1 g2 g1 u ((h2.new nw1).new hu) ((h1.new nw1).new hu) (by unfold maxLen;omega)
  have CD:Hid (∀u,New w1 u→Calls Tryz.prog 70 #[.agg #[.int .i64 p,.slice A n c],.int .i64 j,.int .i64 8] u (zaw u ((hgt (nds es) 8 j:Nat):Int))):=fun u hu=>
    rbelow_any p A n c es 8 j y u ((h.new nw1).new hu).in_ hn hR (by omega) hy
  obtain⟨ga,oa,z',eA,_⟩:=(h.new nw1).in_.pos (i:=posI (nds es) j) (by rw[hn];exact hpl)
  have ON:oa=0:=by
    have:=h.1.2.2.2
    rcases this with ⟨e,_⟩|⟨g',sp,e,_⟩
    · rw[e] at eA;cases eA
    · rw[e] at eA;injection eA with eA;injection eA with _ e2;exact e2.symm
  subst ON;subst eA
  have ZC:Hid (∀u,New w1 u→u.cell? ⟨w.heap.size,0,none⟩=some (.int .i64 p)∧u.cell? ⟨w.heap.size,1,none⟩=some (.slice (some ⟨ga,0,none⟩) n c)∧u.cell? ⟨ga,posI (nds es) j*5,none⟩=some (.int .i64 z.n.i)∧u.cell? ⟨ga,posI (nds es) j*5+1,none⟩=some (.int .u8 z.n.k)∧u.cell? ⟨ga,posI (nds es) j*5+2,none⟩=some (.int .i64 z.n.l) ∧
      u.cell? ⟨ga,posI (nds es) j*5+3,none⟩=some (.slice z.A z.n.ns.length z.c)∧u.cell? ⟨ga,posI (nds es) j*5+4,none⟩=some (.slice z.B z.n.b.length z.d)):=fun u hu=>by
    have b:=BK.out.kept hu id
    have:=((H.out.new hu).in_.get hz).2
    rw[Nat.zero_add] at this;exact⟨b.cell 0,b.cell 1,this⟩
  have FE:Hid (∀(u:World) (x:Nat),New w1 u→RenP w p B (some ⟨ga,0,none⟩) (nds es) x (.returned (.tuple #[.agg #[.int .i64 p,.slice (some ⟨ga,0,none⟩) n c],.int .i64 (x:Nat)])) ((u.setCell ⟨w.heap.size+1,0,none⟩ (.int .i64 p)).setCell ⟨w.heap.size+1,1,none⟩ (.slice (some ⟨ga,0,none⟩) n c)) ∧
      Blk ((u.setCell ⟨w.heap.size+1,0,none⟩ (.int .i64 p)).setCell ⟨w.heap.size+1,1,none⟩ (.slice (some ⟨ga,0,none⟩) n c)) (w.heap.size+1) 25 [.int .i64 p,.slice (some ⟨ga,0,none⟩) n c]):=fun u x hu=>
    ren_fin (H.out.new hu) hn rfl ((nw1.new hu).mono fun _ _ f=>f.elim) (Nat.le_succ _) (BR.out.kept hu id)
  have T1:Hid (∀u,New w1 u→Txs u G1 n1 g1):=fun u hu=>(h1.new nw1).new hu
  have T2:Hid (∀u,New w1 u→Txs u G2 n2 g2):=fun u hu=>(h2.new nw1).new hu
  have AT1:Hid (∀x,G1=some x→At w1 x.block 9):=fun x hx=>(ha1 x hx).kept nw1 id
  have AT2:Hid (∀x,G2=some x→At w1 x.block 9):=fun x hx=>(ha2 x hx).kept nw1 id
  have LG1:=jH h1.len;have LG2:=jH h2.len;have HJ:=jH h0;have HZY:=jH hzy;obtain⟨M,hM⟩:∃M,M=mvF ⟨p,nds es⟩ (g1.map baL) (g2.map baL) q j r v y:=⟨_,rfl⟩;rw[←hM];have HM:=jH hM;have HP1:=jH hp1;have HP2:=jH hp2;clear hM h nw1 hw1 hn hR hB h1 h2 ha1 ha2 hz hzy hzm hy hp1 hp2 h0;generalize posI (nds es) j=pj at *;go_enter Tryz.func40,Tryz.ntmps40
  go_upto_region 1 with fail
  rw[←HW.out];clear HW;obtain⟨gk,hgk⟩:∃gk,gk=w.heap.size:=⟨_,rfl⟩;rw[←hgk] at BK BR ZC FE ⊢;have GK:=jH hgk;clear hgk;have NU:Hid (New w1 w1):=kR
  rcases Nat.eq_zero_or_pos n1 with z1|z1
  · have d1:(((n1:Nat):Int) == 0)=true:=beq_iff_eq.2 (by omega)
    have hg:g1=[]:=List.eq_nil_of_length_eq_zero (by rw[LG1.out];exact z1)
    have EM:Hid (M=(⟨p,nds es⟩,erA 2)):=by
      rw[Hid,HM.out];unfold mvF;rw[if_pos (.inl (by rw[hg];rfl))]
    have BRZ:=BR.out.kept NU.out id;obtain⟨f0,f1⟩:=BRZ.f2;obtain⟨r0,r1⟩:=BRZ.p2;have FIN:=jH (FE.out w1 2 NU.out);obtain⟨b0,b1,_⟩:=ZC.out w1 NU.out;clear BRZ;go_wp2_with fail;obtain⟨w9,hw9⟩:∃w9,w9=(w1.setCell ⟨gk+1,0,none⟩ (.int .i64 p)).setCell ⟨gk+1,1,none⟩ (.slice (some ⟨ga,0,none⟩) n c):=⟨_,rfl⟩;rw[←hw9];rw[←hw9] at FIN;obtain⟨d0,d1⟩:=FIN.out.2.p2;refine bodyPost_ret (by simp[results,Tryz.results40,go_sem,d0,d1];try rfl) rfl ?_;rw[EM.out];exact FIN.out.1
  have d1:(((n1:Nat):Int) == 0)=false:=beq_eq_false_iff_ne.2 (by omega)
  have HG1:Hid (g1.map baL≠[]):=fun e=>by have:=congrArg List.length e;rw[List.length_map,LG1.out] at this;simp at this;omega
  rcases Nat.eq_zero_or_pos n2 with z2|z2
  · have d2:(((n2:Nat):Int) == 0)=true:=beq_iff_eq.2 (by omega)
    have hg:g2=[]:=List.eq_nil_of_length_eq_zero (by rw[LG2.out];exact z2)
    have EM:Hid (M=(⟨p,nds es⟩,erA 2)):=by
      rw[Hid,HM.out];unfold mvF;rw[if_pos (.inr (.inl (by rw[hg];rfl)))]
    have BRZ:=BR.out.kept NU.out id;obtain⟨f0,f1⟩:=BRZ.f2;obtain⟨r0,r1⟩:=BRZ.p2;have FIN:=jH (FE.out w1 2 NU.out);obtain⟨b0,b1,_⟩:=ZC.out w1 NU.out;clear BRZ;go_wp2_with fail;obtain⟨w9,hw9⟩:∃w9,w9=(w1.setCell ⟨gk+1,0,none⟩ (.int .i64 p)).setCell ⟨gk+1,1,none⟩ (.slice (some ⟨ga,0,none⟩) n c):=⟨_,rfl⟩;rw[←hw9];rw[←hw9] at FIN;obtain⟨d0,d1⟩:=FIN.out.2.p2;refine bodyPost_ret (by simp[results,Tryz.results40,go_sem,d0,d1];try rfl) rfl ?_;rw[EM.out];exact FIN.out.1
  have d2:(((n2:Nat):Int) == 0)=false:=beq_eq_false_iff_ne.2 (by omega)
  have HG2:Hid (g2.map baL≠[]):=fun e=>by have:=congrArg List.length e;rw[List.length_map,LG2.out] at this;simp at this;omega
  have HBG:Hid (begL (g2.map baL) (g1.map baL)↔n1 < n2∧g2.take n1=g1):=by
    have:=begL_map g1 g2
    rwa [LG1.out,LG2.out] at this
  by_cases hb:n1 < n2∧g2.take n1=g1
  · rw[decide_eq_true hb] at CB
    have HB2:Hid (begL (g2.map baL) (g1.map baL)):=HBG.out.2 hb;clear hb;go_wp2_with fail;refine (CB.out _ NU.out).mono ?_;rintro e wq ⟨dq,rfl,rfl⟩;have NQ:Hid (New w1 (w1.drewN dq)):=NU.out.drewN dq;clear NU CB;generalize w1.drewN dq=u at *
    have EM:Hid (M=(⟨p,nds es⟩,erA 2)):=by
      rw[Hid,HM.out];unfold mvF;rw[if_pos (.inr (.inr HB2.out))]
    have BRZ:=BR.out.kept NQ.out id;obtain⟨f0,f1⟩:=BRZ.f2;obtain⟨r0,r1⟩:=BRZ.p2;have FIN:=jH (FE.out u 2 NQ.out);obtain⟨b0,b1,_⟩:=ZC.out u NQ.out;clear BRZ;go_wp2_with fail;obtain⟨w9,hw9⟩:∃w9,w9=(u.setCell ⟨gk+1,0,none⟩ (.int .i64 p)).setCell ⟨gk+1,1,none⟩ (.slice (some ⟨ga,0,none⟩) n c):=⟨_,rfl⟩;rw[←hw9];rw[←hw9] at FIN;obtain⟨d0,d1⟩:=FIN.out.2.p2;refine bodyPost_ret (by simp[results,Tryz.results40,go_sem,d0,d1];try rfl) rfl ?_;rw[EM.out];exact FIN.out.1
  rw[decide_eq_false hb] at CB
  have HB2:Hid (¬begL (g2.map baL) (g1.map baL)):=fun e=>hb (HBG.out.1 e)
  have HGO:Hid (¬(g1.map baL=[]∨g2.map baL=[]∨begL (g2.map baL) (g1.map baL))):=by
    rintro (e|e|e)
    · exact HG1.out e
    · exact HG2.out e
    · exact HB2.out e
  clear hb HBG HB2;go_wp2_with fail;refine (CB.out _ NU.out).mono ?_;rintro e wq ⟨dq,rfl,rfl⟩;have NQ:Hid (New w1 (w1.drewN dq)):=NU.out.drewN dq;clear NU CB;generalize w1.drewN dq=u at *
  by_cases hjv:j=v
  · have d3:(((j:Nat):Int) == ((v:Nat):Int))=true:=beq_iff_eq.2 (by omega)
    have HJV:=jH hjv;clear hjv
    have EM:Hid (M=(⟨p,nds es⟩,erA 0)):=by
      rw[Hid,HM.out];unfold mvF;rw[if_neg HGO.out,if_pos HJV.out]
    have BRZ:=BR.out.kept NQ.out id;obtain⟨f0,f1⟩:=BRZ.f2;obtain⟨r0,r1⟩:=BRZ.p2;have FIN:=jH (FE.out u 0 NQ.out);obtain⟨b0,b1,_⟩:=ZC.out u NQ.out;clear BRZ;go_wp2_with fail;obtain⟨w9,hw9⟩:∃w9,w9=(u.setCell ⟨gk+1,0,none⟩ (.int .i64 p)).setCell ⟨gk+1,1,none⟩ (.slice (some ⟨ga,0,none⟩) n c):=⟨_,rfl⟩;rw[←hw9];rw[←hw9] at FIN;obtain⟨d0,d1⟩:=FIN.out.2.p2;refine bodyPost_ret (by simp[results,Tryz.results40,go_sem,d0,d1];try rfl) rfl ?_;rw[EM.out];exact FIN.out.1
  have d3:(((j:Nat):Int) == ((v:Nat):Int))=false:=beq_eq_false_iff_ne.2 (by omega);have HJV:=jH hjv;clear hjv
  have s0:(pj:Int) < (n:Int):=by omega
  have s1:(0:Int)≤(pj:Int):=by omega
  have CNr:=jH (fun (uu:World) (hu:New u uu)=>CNy.out uu (NQ.out.new hu));have ZCr:=jH (fun (uu:World) (hu:New u uu)=>ZC.out uu (NQ.out.new hu));have NUr:Hid (New u u):=kR;obtain⟨b0,b1,z0,z1,z2,z3,z4⟩:=ZCr.out u NUr.out;have hga:ga < u.heap.size:=World.block_lt_of_cell? u _ z0;have hgk:gk < u.heap.size:=World.block_lt_of_cell? u _ b0
  have MK:Hid (∀(wC:World),New wC (wC.alloc (.cells #[.int .i64 z.n.i,.int .u8 z.n.k,.int .i64 z.n.l,.slice z.A z.n.ns.length z.c,.slice z.B z.n.b.length z.d] 53))∧Blk (wC.alloc (.cells #[.int .i64 z.n.i,.int .u8 z.n.k,.int .i64 z.n.l,.slice z.A z.n.ns.length z.c,.slice z.B z.n.b.length z.d] 53)) wC.heap.size 53 [.int .i64 z.n.i,.int .u8 z.n.k,.int .i64 z.n.l,.slice z.A z.n.ns.length z.c,.slice z.B z.n.b.length z.d]):=fun wC=>⟨kR.alloc _,Blk.made wC _ _⟩
  have ZB:Hid (∀wx:World,wx.heap.size=u.heap.size→∀wC,New (wx.alloc (.cells #[.int .i64 0,.int .u8 0,.int .i64 0,.slice none 0 0,.slice none 0 0] 53)) wC→Blk wC u.heap.size 53 [.int .i64 0,.int .u8 0,.int .i64 0,.slice none 0 0,.slice none 0 0]):=fun wx hx wC hC=>by
    have:=(Blk.made wx 53 #[.int .i64 0,.int .u8 0,.int .i64 0,.slice none 0 0,.slice none 0 0]).kept hC id
    rwa [hx] at this
  have hgx:u.heap.size≤u.heap.size:=Nat.le_refl _
  have SETN:Hid (∀wC:World,New u wC→New u (((((wC.setCell ⟨u.heap.size,0,none⟩ (.int .i64 z.n.i)).setCell ⟨u.heap.size,1,none⟩ (.int .u8 z.n.k)).setCell ⟨u.heap.size,2,none⟩ (.int .i64 z.n.l)).setCell ⟨u.heap.size,3,none⟩ (.slice z.A z.n.ns.length z.c)).setCell ⟨u.heap.size,4,none⟩ (.slice z.B z.n.b.length z.d))):=fun wC hC=>
    (((((hC.setCell (p:=⟨u.heap.size,0,none⟩) (fun hh=>absurd hh (Nat.not_lt.2 hgx)) _).setCell (p:=⟨u.heap.size,1,none⟩) (fun hh=>absurd hh (Nat.not_lt.2 hgx)) _).setCell (p:=⟨u.heap.size,2,none⟩) (fun hh=>absurd hh (Nat.not_lt.2 hgx)) _).setCell (p:=⟨u.heap.size,3,none⟩) (fun hh=>absurd hh (Nat.not_lt.2 hgx)) _).setCell (p:=⟨u.heap.size,4,none⟩) (fun hh=>absurd hh (Nat.not_lt.2 hgx)) _)
  have SETB:Hid (∀wC:World,Blk wC u.heap.size 53 [.int .i64 0,.int .u8 0,.int .i64 0,.slice none 0 0,.slice none 0 0]→Blk (((((wC.setCell ⟨u.heap.size,0,none⟩ (.int .i64 z.n.i)).setCell ⟨u.heap.size,1,none⟩ (.int .u8 z.n.k)).setCell ⟨u.heap.size,2,none⟩ (.int .i64 z.n.l)).setCell ⟨u.heap.size,3,none⟩ (.slice z.A z.n.ns.length z.c)).setCell ⟨u.heap.size,4,none⟩ (.slice z.B z.n.b.length z.d)) u.heap.size 53 [.int .i64 z.n.i,.int .u8 z.n.k,.int .i64 z.n.l,.slice z.A z.n.ns.length z.c,.slice z.B z.n.b.length z.d]):=fun wC hC=>
    (((((hC.put 0 (.int .i64 z.n.i)).put 1 (.int .u8 z.n.k)).put 2 (.int .i64 z.n.l)).put 3 (.slice z.A z.n.ns.length z.c)).put 4 (.slice z.B z.n.b.length z.d))
  clear hgx
  go_upto_region 5 with fail
  go_cut [16] (fun v wx=>∃gx:Nat,v=.pointer (some ⟨gx,0,none⟩)∧Hid (New u wx)∧Hid (Blk wx gx 53 [.int .i64 z.n.i,.int .u8 z.n.k,.int .i64 z.n.l,.slice z.A z.n.ns.length z.c,.slice z.B z.n.b.length z.d]))
  case first=>
    go_region_law (first
      | (go_simp;go_at_call 25;refine (CNr.out _ (by first|exact NUr.out|exact NUr.out.drew)).mono ?_;rintro e wC ⟨rfl,k4⟩;have NC:Hid (New u wC):=(by first|exact NUr.out.new k4|exact NUr.out.drew.new k4);clear k4;obtain⟨t0,t1,t2,t3,t4,t5,t6⟩:=ZCr.out wC NC.out;have hgc:ga < wC.heap.size:=World.block_lt_of_cell? wC _ t2;have hgkc:gk < wC.heap.size:=World.block_lt_of_cell? wC _ t1)
      | (go_simp;go_at_call 25;refine (CNr.out _ (by first|exact NUr.out.alloc _|exact NUr.out.drew.alloc _)).mono ?_;rintro e wC ⟨rfl,k4⟩;have NC:Hid (New u wC):=(by first|exact (NUr.out.alloc _).new k4|exact (NUr.out.drew.alloc _).new k4);have BZ:=ZB.out u rfl wC (by first|exact k4|exact zbm k4);clear k4;obtain⟨t0,t1,t2,t3,t4,t5,t6⟩:=ZCr.out wC NC.out;obtain⟨f0,f1,f2,f3,f4⟩:=BZ.f5;have y0:=BZ.cell 0;have y1:=BZ.cell 1;have y2:=BZ.cell 2;have y3:=BZ.cell 3;have y4:=BZ.cell 4))
    all_goals
      simp only[Exit.then];refine (‹∀(a':Act) (w':World),Met _ a' w'→_›) _ _ ?_
      go_meet
      case rel=>
        first
          | (have hb:=SETB.out wC BZ
             have hn:=SETN.out wC NC.out
             exact⟨u.heap.size,rfl,hn,hb⟩)
          | (have hn:=NC.out.new (MK.out wC).1
             have hb:=(MK.out wC).2
             exact⟨wC.heap.size,rfl,hn,hb⟩)
  case rest=>
    obtain⟨gx1,rfl,NX1,BX1⟩:=hcut;clear b0 b1 z0 z1 z2 z3 z4 hga hgk MK SETN SETB ZB CNr ZCr NUr;have NW1:Hid (New w1 wc):=NQ.out.new NX1.out
    rcases Nat.eq_zero_or_pos v with zv|zv
    · exact absurd hv (by omega)
    · have d4:(((v:Nat):Int) != 0)=true:=bne_iff_ne.2 (by omega)
      obtain⟨x,hx⟩:=zce RR.out HP2.out (by omega);have hx:ndI (nds es) v=some x:=hx;obtain⟨zx,hzx,hzxy,hzxm⟩:=zbg hx
      have hplx:posI (nds es) v < n:=by have:=(List.getElem?_eq_some_iff.1 hzx).1;rwa [LN.out] at this
      have CNx:Hid (∀u,New w1 u→Calls Tryz.prog 25 #[.agg #[.int .i64 p,.slice (some ⟨ga,0,none⟩) n c],.int .i64 (v:Nat)] u (zaw u ((posI (nds es) v:Nat):Int))):=fun u hu=>by
        have:=zam p (some ⟨ga,0,none⟩) n c es v u (H.out.new hu).in_ LN.out (by omega)
        rwa [zaz hx] at this
      have ZX:Hid (∀u,New w1 u→u.cell? ⟨gk,0,none⟩=some (.int .i64 p)∧u.cell? ⟨gk,1,none⟩=some (.slice (some ⟨ga,0,none⟩) n c)∧u.cell? ⟨ga,posI (nds es) v*5,none⟩=some (.int .i64 zx.n.i)∧u.cell? ⟨ga,posI (nds es) v*5+1,none⟩=some (.int .u8 zx.n.k)∧u.cell? ⟨ga,posI (nds es) v*5+2,none⟩=some (.int .i64 zx.n.l) ∧
          u.cell? ⟨ga,posI (nds es) v*5+3,none⟩=some (.slice zx.A zx.n.ns.length zx.c)∧u.cell? ⟨ga,posI (nds es) v*5+4,none⟩=some (.slice zx.B zx.n.b.length zx.d)):=fun u hu=>by
        have b:=BK.out.kept hu id
        have:=((H.out.new hu).in_.get hzx).2
        rw[Nat.zero_add] at this;exact⟨b.cell 0,b.cell 1,this⟩
      have HX:=jH hx;have HZX:=jH hzxy;clear hx hzx hzxy hzxm;generalize posI (nds es) v=pv at *
      have s2:(pv:Int) < (n:Int):=by omega
      have s3:(0:Int)≤(pv:Int):=by omega
      generalize wc=wd at *;have CNr:=jH (fun (uu:World) (hu:New wd uu)=>CNx.out uu (NW1.out.new hu));have ZCr:=jH (fun (uu:World) (hu:New wd uu)=>ZX.out uu (NW1.out.new hu));have NUr:Hid (New wd wd):=kR;obtain⟨b0,b1,z0,z1,z2,z3,z4⟩:=ZCr.out wd NUr.out;have hga:ga < wd.heap.size:=World.block_lt_of_cell? wd _ z0;have hgk:gk < wd.heap.size:=World.block_lt_of_cell? wd _ b0
      have MK:Hid (∀(wC:World),New wC (wC.alloc (.cells #[.int .i64 zx.n.i,.int .u8 zx.n.k,.int .i64 zx.n.l,.slice zx.A zx.n.ns.length zx.c,.slice zx.B zx.n.b.length zx.d] 53))∧Blk (wC.alloc (.cells #[.int .i64 zx.n.i,.int .u8 zx.n.k,.int .i64 zx.n.l,.slice zx.A zx.n.ns.length zx.c,.slice zx.B zx.n.b.length zx.d] 53)) wC.heap.size 53 [.int .i64 zx.n.i,.int .u8 zx.n.k,.int .i64 zx.n.l,.slice zx.A zx.n.ns.length zx.c,.slice zx.B zx.n.b.length zx.d]):=fun wC=>⟨kR.alloc _,Blk.made wC _ _⟩
      have ZB:Hid (∀wx:World,wx.heap.size=wd.heap.size→∀wC,New (wx.alloc (.cells #[.int .i64 0,.int .u8 0,.int .i64 0,.slice none 0 0,.slice none 0 0] 53)) wC→Blk wC wd.heap.size 53 [.int .i64 0,.int .u8 0,.int .i64 0,.slice none 0 0,.slice none 0 0]):=fun wx hx wC hC=>by
        have:=(Blk.made wx 53 #[.int .i64 0,.int .u8 0,.int .i64 0,.slice none 0 0,.slice none 0 0]).kept hC id
        rwa [hx] at this
      have hgx:wd.heap.size≤wd.heap.size:=Nat.le_refl _
      have SETN:Hid (∀wC:World,New wd wC→New wd (((((wC.setCell ⟨wd.heap.size,0,none⟩ (.int .i64 zx.n.i)).setCell ⟨wd.heap.size,1,none⟩ (.int .u8 zx.n.k)).setCell ⟨wd.heap.size,2,none⟩ (.int .i64 zx.n.l)).setCell ⟨wd.heap.size,3,none⟩ (.slice zx.A zx.n.ns.length zx.c)).setCell ⟨wd.heap.size,4,none⟩ (.slice zx.B zx.n.b.length zx.d))):=fun wC hC=>
        (((((hC.setCell (p:=⟨wd.heap.size,0,none⟩) (fun hh=>absurd hh (Nat.not_lt.2 hgx)) _).setCell (p:=⟨wd.heap.size,1,none⟩) (fun hh=>absurd hh (Nat.not_lt.2 hgx)) _).setCell (p:=⟨wd.heap.size,2,none⟩) (fun hh=>absurd hh (Nat.not_lt.2 hgx)) _).setCell (p:=⟨wd.heap.size,3,none⟩) (fun hh=>absurd hh (Nat.not_lt.2 hgx)) _).setCell (p:=⟨wd.heap.size,4,none⟩) (fun hh=>absurd hh (Nat.not_lt.2 hgx)) _)
      have SETB:Hid (∀wC:World,Blk wC wd.heap.size 53 [.int .i64 0,.int .u8 0,.int .i64 0,.slice none 0 0,.slice none 0 0]→Blk (((((wC.setCell ⟨wd.heap.size,0,none⟩ (.int .i64 zx.n.i)).setCell ⟨wd.heap.size,1,none⟩ (.int .u8 zx.n.k)).setCell ⟨wd.heap.size,2,none⟩ (.int .i64 zx.n.l)).setCell ⟨wd.heap.size,3,none⟩ (.slice zx.A zx.n.ns.length zx.c)).setCell ⟨wd.heap.size,4,none⟩ (.slice zx.B zx.n.b.length zx.d)) wd.heap.size 53 [.int .i64 zx.n.i,.int .u8 zx.n.k,.int .i64 zx.n.l,.slice zx.A zx.n.ns.length zx.c,.slice zx.B zx.n.b.length zx.d]):=fun wC hC=>
        (((((hC.put 0 (.int .i64 zx.n.i)).put 1 (.int .u8 zx.n.k)).put 2 (.int .i64 zx.n.l)).put 3 (.slice zx.A zx.n.ns.length zx.c)).put 4 (.slice zx.B zx.n.b.length zx.d))
      clear hgx
      go_upto_region 7 with fail
      go_cut [17] (fun v wx=>∃gx:Nat,v=.pointer (some ⟨gx,0,none⟩)∧Hid (New wd wx)∧Hid (Blk wx gx 53 [.int .i64 zx.n.i,.int .u8 zx.n.k,.int .i64 zx.n.l,.slice zx.A zx.n.ns.length zx.c,.slice zx.B zx.n.b.length zx.d]))
      case first=>
        go_region_law (first
          | (go_simp;go_at_call 25;refine (CNr.out _ (by first|exact NUr.out|exact NUr.out.drew)).mono ?_;rintro e wC ⟨rfl,k4⟩;have NC:Hid (New wd wC):=(by first|exact NUr.out.new k4|exact NUr.out.drew.new k4);clear k4;obtain⟨t0,t1,t2,t3,t4,t5,t6⟩:=ZCr.out wC NC.out;have hgc:ga < wC.heap.size:=World.block_lt_of_cell? wC _ t2;have hgkc:gk < wC.heap.size:=World.block_lt_of_cell? wC _ t1)
          | (go_simp;go_at_call 25;refine (CNr.out _ (by first|exact NUr.out.alloc _|exact NUr.out.drew.alloc _)).mono ?_;rintro e wC ⟨rfl,k4⟩;have NC:Hid (New wd wC):=(by first|exact (NUr.out.alloc _).new k4|exact (NUr.out.drew.alloc _).new k4);have BZ:=ZB.out wd rfl wC (by first|exact k4|exact zbm k4);clear k4;obtain⟨t0,t1,t2,t3,t4,t5,t6⟩:=ZCr.out wC NC.out;obtain⟨f0,f1,f2,f3,f4⟩:=BZ.f5;have y0:=BZ.cell 0;have y1:=BZ.cell 1;have y2:=BZ.cell 2;have y3:=BZ.cell 3;have y4:=BZ.cell 4))
        all_goals
          simp only[Exit.then];refine (‹∀(a':Act) (w':World),Met _ a' w'→_›) _ _ ?_
          go_meet
          case rel=>
            first
              | (have hb:=SETB.out wC BZ
                 have hn:=SETN.out wC NC.out
                 exact⟨wd.heap.size,rfl,hn,hb⟩)
              | (have hn:=NC.out.new (MK.out wC).1
                 have hb:=(MK.out wC).2
                 exact⟨wC.heap.size,rfl,hn,hb⟩)
      case rest=>
        obtain⟨gx2,rfl,NX2,BX2⟩:=hcut;clear b0 b1 z0 z1 z2 z3 z4 hga hgk MK SETN SETB ZB CNr ZCr NUr;have NW2:Hid (New w1 wc):=NW1.out.new NX2.out;have y0:=(BX1.out.kept NX2.out id).q1;have y1:=BX2.out.q1;have y2:=BX2.out.q3
        by_cases hk:zx.n.k=z.n.k
        · have d5:(((zx.n.k:Nat):Int) != ((z.n.k:Nat):Int))=false:=bne_eq_false_iff_eq.2 (by omega)
          by_cases hl:zx.n.ns=[]
          · have d6:decide (0 < zx.n.ns.length)=false:=decide_eq_false (by rw[hl];simp)
            have WE:Hid (wayE ⟨p,nds es⟩ v y=0):=by
              unfold wayE;rw[Hid,if_neg (by omega)]
              show (match ndI (nds es) v with|none=>0|some x=>if x.k≠y.k then 14 else if x.ns≠[] then 15 else 0)=0
              rw[HX.out];simp only;rw[←HZX.out,←HZY.out,if_neg (by simpa using hk),if_neg (by simpa using hl)]
            clear hk hl BX1 BX2 ZX CNx HZX;generalize zx.n.ns.length=lx at *;generalize zx.n.k=kx at *;generalize z.n.k=kz at *;have NR:=NW2;obtain⟨P1,P2,⟨q1,hq1,hs1,hl1⟩,⟨r2,hr2,hno,hs2,hl2⟩⟩:=mv_parts RR.out HP1.out HP2.out HJ.out HG1.out HG2.out WE.out;have P2:=jH P2;have Q1:=jH (And.intro hq1 (And.intro hs1 hl1));have R2:=jH (And.intro hr2 (And.intro hno (And.intro hs2 hl2)));have P1:=jH P1;clear hq1 hs1 hl1 hr2 hno hs2 hl2;obtain⟨b0,b1,_⟩:=ZC.out wc NR.out;go_wp2_with fail;refine (CD.out _ NR.out).mono ?_;rintro e wB ⟨rfl,kB⟩;have NB:Hid (New w1 wB):=NR.out.new kB;have hg8:hgt (nds es) 8 j≤8:=hgt_max _ _ _
            clear kB b0 b1 CD
            by_cases hlim:6 < n2+hgt (nds es) 8 j
            · have d7:decide (6 < ((n2:Nat):Int)+((hgt (nds es) 8 j:Nat):Int))=true:=decide_eq_true (by omega)
              have HLIM:=jH hlim
              have EM:Hid (M=(⟨p,nds es⟩,erA 3)):=by
                rw[Hid,HM.out];unfold mvF;rw[if_neg HGO.out,if_neg HJV.out,if_neg (by rw[WE.out];omega),if_pos (by rw[List.length_map,LG2.out];exact HLIM.out)]
              have BRZ:=BR.out.kept NB.out id;obtain⟨f0,f1⟩:=BRZ.f2;obtain⟨r0,r1⟩:=BRZ.p2;have FIN:=jH (FE.out wB 3 NB.out);obtain⟨b0,b1,_⟩:=ZC.out wB NB.out;clear BRZ;clear hlim
              go_upto_if 69 with fail
              generalize hqq:(Exit.then _ _:Exit→Act→World→Prop)=QQ
              repeat clear ‹∀(a':Act) (w':World),Code.wp _ _ _ a' w'→_›
              go_wp2_with fail;rw[←hqq];clear hqq;simp only[Exit.then];obtain⟨w9,hw9⟩:∃w9,w9=(wB.setCell ⟨gk+1,0,none⟩ (.int .i64 p)).setCell ⟨gk+1,1,none⟩ (.slice (some ⟨ga,0,none⟩) n c):=⟨_,rfl⟩;rw[←hw9];rw[←hw9] at FIN;obtain⟨d0,d1⟩:=FIN.out.2.p2;refine bodyPost_ret (by simp[results,Tryz.results40,go_sem,d0,d1];try rfl) rfl ?_;rw[EM.out];exact FIN.out.1
            have d7:decide (6 < ((n2:Nat):Int)+((hgt (nds es) 8 j:Nat):Int))=false:=decide_eq_false (by omega)
            have EM:Hid (M=(⟨p,moveE (zbk ⟨p,nds es⟩ r (lst (g2.map baL)) v) q (lst (g1.map baL)) r (lst (g2.map baL)) j⟩,erA 0)):=by
              rw[Hid,HM.out];unfold mvF;rw[if_neg HGO.out,if_neg HJV.out,if_neg (by rw[WE.out];omega),if_neg (by rw[List.length_map,LG2.out];exact hlim)]
            clear hlim
            go_upto_region 15 with fail
            obtain⟨k1,hk1⟩:∃k,n1=k+1:=⟨n1 - 1,by omega⟩;obtain⟨k2,hk2⟩:∃k,n2=k+1:=⟨n2 - 1,by omega⟩;subst hk1 hk2;obtain⟨gg1,o1,x1,eG1,hx1,_⟩:=(T1.out w1 kR).at_ (j:=k1) (by omega);obtain⟨gg2,o2,x2,eG2,hx2,_⟩:=(T2.out w1 kR).at_ (j:=k2) (by omega);subst eG1 eG2
            have S1:Hid (∀u,Txs u (some ⟨gg1,o1,none⟩) (k1+1) g1→u.cell? ⟨gg1,o1+k1,none⟩=some (.string (baL x1))):=fun u hu=>by
              obtain⟨b',o',x',e,hx',hc⟩:=hu.at_ (j:=k1) (by omega)
              injection e with e;injection e with e1 e2;subst e1 e2;rw[hx1] at hx';injection hx' with hx';subst hx';exact hc
            have S2:Hid (∀u,Txs u (some ⟨gg2,o2,none⟩) (k2+1) g2→u.cell? ⟨gg2,o2+k2,none⟩=some (.string (baL x2))):=fun u hu=>by
              obtain⟨b',o',x',e,hx',hc⟩:=hu.at_ (j:=k2) (by omega)
              injection e with e;injection e with e1 e2;subst e1 e2;rw[hx2] at hx';injection hx' with hx';subst hx';exact hc
            have E1:Hid (lst (g1.map baL)=baL x1):=lst_map LG1.out hx1;have E2:Hid (lst (g2.map baL)=baL x2):=lst_map LG2.out hx2;clear hx1 hx2
            have sk1:((k1:Nat):Int) < ((k1:Nat):Int)+1:=by omega
            have sk2:((k2:Nat):Int) < ((k2:Nat):Int)+1:=by omega
            have wk1:IntKind.i64.wrap ((k1:Nat):Int)=((k1:Nat):Int):=by rw[IntKind.wrap_i64];omega
            have wk2:IntKind.i64.wrap ((k2:Nat):Int)=((k2:Nat):Int):=by rw[IntKind.wrap_i64];omega
            have ST:Hid (St w wB p B gk (some ⟨ga,0,none⟩) (some ⟨gg1,o1,none⟩) (some ⟨gg2,o2,none⟩) (k1+1) (k2+1) g1 g2 (some ⟨ga,0,none⟩) c es):=
              ⟨by rw[LN.out];exact BK.out.kept NB.out id,BR.out.kept NB.out id,H.out.new NB.out,(N1.out.new NB.out).mono fun _ _ f=>f.elim,.inl rfl,T1.out wB NB.out,T2.out wB NB.out,fun x hx=>(AT1.out x hx).kept NB.out id,fun x hx=>(AT2.out x hx).kept NB.out id,by rw[GK.out];exact Nat.le_refl _⟩
            rw[E1.out,E2.out] at EM;clear FE CNy T1 T2
            obtain⟨rn,hr,hro,hrl,hlv⟩:∃rn,ndI (nds es) r=some rn∧OrdS rn.ns∧rn.ns.length≤300∧zbk ⟨p,nds es⟩ r (lst (g2.map baL)) v=lsN (entF rn.ns (lst (g2.map baL))) (delE (nds es) r (lst (g2.map baL))):=by
              rcases P1.out with ⟨e,_⟩|⟨_,e⟩
              · omega
              · exact e
            rw[E2.out] at Q1;rw[E1.out,E2.out] at R2;rw[E2.out] at P2 hlv;have Q0:=jH (And.intro hr (And.intro hro hrl));have HLV:=jH hlv;clear P1 H HM ZC HP1 HP2 hr hro hrl hlv;obtain⟨b0,b1⟩:=ST.out.bk.p2;have c0:=S2.out wB ST.out.t2
            skip
            go_still_tail 8,(by kernel_rfl)
            change wpList _ _ _ _ _ wB.drew
            have ST:=jH ST.out.drew;clear b0 b1 c0;generalize wB.drew=wBd at *;have CL:=jH (rless_any p (some ⟨ga,0,none⟩) _ c B es r (baL x2) false rn wBd ST.out.tr (Nat.le_trans HB.out ST.out.kw.size) rfl (by have:=RR.out.len;rw[zab] at this;omega) RR.out.ord Q0.out.1 Q0.out.2.1 Q0.out.2.2 RR.out.l1);go_wp2_with fail;refine CL.out.mono ?_;rintro e wE1 ⟨A1,cc,es1,rfl,hL2,TR2,K2,HA2⟩;obtain⟨wB2,hwF⟩:∃wF,wF=(wE1.setCell ⟨gk,0,none⟩ (.int .i64 p)).setCell ⟨gk,1,none⟩ (.slice A1 es1.length cc):=⟨_,rfl⟩;have ST2:=jH (ST.out.step TR2 K2 HA2);rw[←hwF] at ST2;have BE:=ST.out.bk.kept K2 (ST.out.far ST.out.bk.at_ (by decide))
            obtain⟨f0,f1⟩:=BE.f2;obtain⟨e0,e1⟩:=BE.p2;have HWF:=jH hwF;have hL2:=jH hL2;clear CL ST TR2 K2 HA2 BE hwF;have ST:=ST2;clear ST2
            have HL:Hid (nds es1=zbk ⟨p,nds es⟩ r (baL x2) v):=by rw[Hid,HLV.out];exact hL2
            clear hL2;rw[←HL.out] at Q1 R2 P2 EM;clear HL;obtain⟨b0,b1⟩:=ST.out.bk.p2;have c0:=S1.out wB2 ST.out.t1
            go_upto_region 16 with fail
            rw[←HWF.out];clear HWF e0 e1 f0 f1
            go_still_tail 8,(by kernel_rfl)
            change wpList _ _ _ _ _ wB2.drew
            have ST:=jH ST.out.drew;clear b0 b1 c0;generalize wB2.drew=wB2d at *;have CL:=jH (rless_any p (A1) _ cc B es1 q (baL x1) true q1 wB2d ST.out.tr (Nat.le_trans HB.out ST.out.kw.size) rfl (by have:=P2.out.len;rw[zab] at this;omega) P2.out.ord Q1.out.1 Q1.out.2.1 Q1.out.2.2 P2.out.l1);go_wp2_with fail;refine CL.out.mono ?_;rintro e wE ⟨A2,cc2,es2,rfl,hL2,TR2,K2,HA2⟩;obtain⟨wF,hwF⟩:∃wF,wF=(wE.setCell ⟨gk,0,none⟩ (.int .i64 p)).setCell ⟨gk,1,none⟩ (.slice A2 es2.length cc2):=⟨_,rfl⟩;have ST2:=jH (ST.out.step TR2 K2 HA2);rw[←hwF] at ST2;have BE:=ST.out.bk.kept K2 (ST.out.far ST.out.bk.at_ (by decide))
            obtain⟨f0,f1⟩:=BE.f2;obtain⟨e0,e1⟩:=BE.p2;have HWF:=jH hwF;have hL2:=jH hL2;clear CL ST TR2 K2 HA2 BE hwF;have ST:=ST2;clear ST2;have HL2:Hid (nds es2=delE (nds es1) q (baL x1)):=hL2;clear hL2
            go_upto_region 17 with fail
            rw[←HWF.out];clear HWF e0 e1 f0 f1;obtain⟨b0,b1⟩:=ST.out.bk.p2;have c0:=S2.out wF ST.out.t2
            go_still_tail 9,(by kernel_rfl)
            change wpList _ _ _ _ _ wF.drew
            have ST:=jH ST.out.drew;clear b0 b1 c0;generalize wF.drew=wg at *
            have OR2:Hid (OrdN (nds es2)):=by rw[Hid,HL2.out];exact zcq (fun _ _=>rfl) P2.out.ord
            have LE2:Hid (es2.length≤48):=by
              have h1:(nds es1).length≤48:=P2.out.len;have h2:=congrArg List.length HL2.out;rw[zab,delE,zcv] at h2;rw[Hid];omega
            rw[←HL2.out] at R2;have CW:=jH (rwith_any p A2 _ cc2 B es2 r j (baL x2) r2 wg ST.out.tr (Nat.le_trans HB.out ST.out.kw.size) rfl (by have:=LE2.out;omega) OR2.out R2.out.1 R2.out.2.2.1 R2.out.2.1 R2.out.2.2.2);go_wp2_with fail;refine CW.out.mono ?_;rintro e wH ⟨es3,rfl,hL3,TR3,K3⟩;have BE:=ST.out.br.kept K3 (ST.out.far ST.out.br.at_ (by decide))
            have HL3:nds es3=moveE (nds es1) q (baL x1) r (baL x2) j:=by rw[hL3,HL2.out];rfl
            have FIN:=jH (ren_fin (x:=0) (p:=p) (gr:=gk+1) TR3 rfl HL3 (ST.out.kept K3) (Nat.le_succ_of_le ST.out.kz) BE);obtain⟨f0,f1⟩:=BE.f2;obtain⟨e0,e1⟩:=BE.p2;clear CW TR3 K3 BE hL3 HL3 HL2 R2 Q1 P2;go_wp2_with fail;obtain⟨w9,hw9⟩:∃w9,w9=(wH.setCell ⟨gk+1,0,none⟩ (.int .i64 p)).setCell ⟨gk+1,1,none⟩ (.slice A2 es3.length cc2):=⟨_,rfl⟩;rw[←hw9];rw[←hw9] at FIN;obtain⟨d0,d1⟩:=FIN.out.2.p2;refine bodyPost_ret (by simp[results,Tryz.results40,go_sem,d0,d1];try rfl) rfl ?_;rw[EM.out];exact FIN.out.1
          · have d6:decide (0 < zx.n.ns.length)=true:=decide_eq_true (List.length_pos_iff.2 hl)
            have WE:Hid (wayE ⟨p,nds es⟩ v y=15):=by
              unfold wayE;rw[Hid,if_neg (by omega)]
              show (match ndI (nds es) v with|none=>0|some x=>if x.k≠y.k then 14 else if x.ns≠[] then 15 else 0)=15
              rw[HX.out];simp only;rw[←HZX.out,←HZY.out,if_neg (by simpa using hk),if_pos hl]
            clear hk hl BX1 BX2 ZX CNx HZX;generalize zx.n.ns.length=lx at *;generalize zx.n.k=kx at *;generalize z.n.k=kz at *
            have EM:Hid (M=(⟨p,nds es⟩,erA 15)):=by
              rw[Hid,HM.out];unfold mvF;rw[if_neg HGO.out,if_neg HJV.out,if_pos (by rw[WE.out];omega),WE.out]
            have BRZ:=BR.out.kept NW2.out id;obtain⟨f0,f1⟩:=BRZ.f2;obtain⟨r0,r1⟩:=BRZ.p2;have FIN:=jH (FE.out wc 15 NW2.out);obtain⟨b0,b1,_⟩:=ZC.out wc NW2.out;clear BRZ
            go_upto_if 61 with fail
            generalize hqq:(Exit.then _ _:Exit→Act→World→Prop)=QQ
            repeat clear ‹∀(a':Act) (w':World),Code.wp _ _ _ a' w'→_›
            go_wp2_with fail;rw[←hqq];clear hqq;simp only[Exit.then];obtain⟨w9,hw9⟩:∃w9,w9=(wc.setCell ⟨gk+1,0,none⟩ (.int .i64 p)).setCell ⟨gk+1,1,none⟩ (.slice (some ⟨ga,0,none⟩) n c):=⟨_,rfl⟩;rw[←hw9];rw[←hw9] at FIN;obtain⟨d0,d1⟩:=FIN.out.2.p2;refine bodyPost_ret (by simp[results,Tryz.results40,go_sem,d0,d1];try rfl) rfl ?_;rw[EM.out];exact FIN.out.1
        · have d5:(((zx.n.k:Nat):Int) != ((z.n.k:Nat):Int))=true:=bne_iff_ne.2 (by omega)
          have WE:Hid (wayE ⟨p,nds es⟩ v y=14):=by
            unfold wayE;rw[Hid,if_neg (by omega)]
            show (match ndI (nds es) v with|none=>0|some x=>if x.k≠y.k then 14 else if x.ns≠[] then 15 else 0)=14
            rw[HX.out];simp only;rw[←HZX.out,←HZY.out,if_pos hk]
          clear hk BX1 BX2 ZX CNx HZX;generalize zx.n.ns.length=lx at *;generalize zx.n.k=kx at *;generalize z.n.k=kz at *
          have EM:Hid (M=(⟨p,nds es⟩,erA 14)):=by
            rw[Hid,HM.out];unfold mvF;rw[if_neg HGO.out,if_neg HJV.out,if_pos (by rw[WE.out];omega),WE.out]
          have BRZ:=BR.out.kept NW2.out id;obtain⟨f0,f1⟩:=BRZ.f2;obtain⟨r0,r1⟩:=BRZ.p2;have FIN:=jH (FE.out wc 14 NW2.out);obtain⟨b0,b1,_⟩:=ZC.out wc NW2.out;clear BRZ
          go_upto_if 56 with fail
          generalize hqq:(Exit.then _ _:Exit→Act→World→Prop)=QQ
          repeat clear ‹∀(a':Act) (w':World),Code.wp _ _ _ a' w'→_›
          go_wp2_with fail;rw[←hqq];clear hqq;simp only[Exit.then];obtain⟨w9,hw9⟩:∃w9,w9=(wc.setCell ⟨gk+1,0,none⟩ (.int .i64 p)).setCell ⟨gk+1,1,none⟩ (.slice (some ⟨ga,0,none⟩) n c):=⟨_,rfl⟩;rw[←hw9];rw[←hw9] at FIN;obtain⟨d0,d1⟩:=FIN.out.2.p2;refine bodyPost_ret (by simp[results,Tryz.results40,go_sem,d0,d1];try rfl) rfl ?_;rw[EM.out];exact FIN.out.1
theorem rren_any (p:Nat) (A:Option Addr) (n c B:Nat) (es:List NE) (G1 G2:Option Addr) (n1 n2 c1 c2:Nat) (g1 g2:List (List UInt8)) (q j r v:Nat) (y:ND) (w:World) (h:TOwn w B A c es) (hn:es.length=n) (hB:B≤w.heap.size) (hR:Rt ⟨p,nds es⟩) (h1:Txs w G1 n1 g1) (h2:Txs w G2 n2 g2) (ha1:∀x,G1=some x→At w x.block 9) (ha2:∀x,G2=some x→At w x.block 9)
    (hn1:n1≤6) (hn2:n2≤6) (h0:j≠0) (hy:ndI (nds es) j=some y) (hp1:LkP (nds es) (g1.map baL) q j) (hp2:LkP (nds es) (g2.map baL) r v):
    Calls Tryz.prog 40 #[.agg #[.int .i64 p,.slice A n c],.slice G1 n1 c1,.slice G2 n2 c2,.int .i64 q,.int .i64 j,.int .i64 r,.int .i64 v] w
      (RenP w p B A (mvF ⟨p,nds es⟩ (g1.map baL) (g2.map baL) q j r v y).1.l (mvF ⟨p,nds es⟩ (g1.map baL) (g2.map baL) q j r v y).2.e):=
  (Nat.eq_zero_or_pos v).elim (fun e=>rren_new p A n c B es G1 G2 n1 n2 c1 c2 g1 g2 q j r v y w h hn hB hR h1 h2 ha1 ha2 hn1 hn2 h0 hy hp1 hp2 e) (fun e=>rren_old p A n c B es G1 G2 n1 n2 c1 c2 g1 g2 q j r v y w h hn hB hR h1 h2 ha1 ha2 hn1 hn2 h0 hy hp1 hp2 e)
end
section
open Go.RowKit
theorem lose_less {T:TT} (h:Rt T) {g:List ByteArray} {q j:Nat} {y:ND} (hp:LkP T.l g q j) (h0:j≠0) (h1:j≠1) (hy:ndI T.l j=some y) (hz:y.ns=[]):
  ∃qn,ndI T.l q=some qn∧OrdS qn.ns∧qn.ns.length≤300∧lessL false (entF qn.ns (lst g)) (delE T.l q (lst g))=zba T.l q (lst g) j y.l∧g≠[]:=by
 obtain⟨_,_,_,_,_,hg⟩:=hp.ent h1 h0;obtain⟨qn,hq,hqk,hje,hqo⟩:=dir_nd h hp hg;obtain⟨hqm,hqi⟩:=zaa hq;obtain⟨hym,hyi⟩:=zaa hy
 have hent:(lst g,j)∈qn.ns:=by rw[hje];exact zcl (by rw[←hje];exact h0)
 have hne:y.i≠q:=fun e=>by
  have:=zbe h.ord hqm hym (by rw[hqi,e])
  subst this;rw[hz] at hent;cases hent
 refine⟨qn,hq,hqo,by have:=h.ns_le hqm;omega,?_,hg⟩;have hxm:y∈delE T.l q (lst g):=zap.2 (.inr ⟨hym,hne⟩)
 have hl:∀m∈delE T.l q (lst g),1≤m.l:=fun m hm=>by
  rcases zap.1 hm with ⟨z,hz,_,rfl⟩|⟨hz,_⟩
  ·exact (h.l1 z hz).1
  ·exact (h.l1 m hz).1
 have ho:OrdN (delE T.l q (lst g)):=zcq (fun _ _=>rfl) h.ord
 have:=lsN_lose ho hxm hl
 rw[hyi] at this;rw[←hje];exact this
theorem zda {w wb wd we:World} {A:Option Addr} {c gr ga:Nat} {es:List NE} {l1 l2:List Value} (HT:TOwn wb w.heap.size A c es) (K3:Kept (zak A) wd we) (NWD:New wb wd) (NW:New w wb) (BR:Blk wb gr 25 l1) (BA:Blk wb ga 41 l2):
  Kept (zak none) w we∧Blk we gr 25 l1∧Blk we ga 41 l2:=by
 have FAR:∀(g:Nat) (t:TypeId),At wd g t→53≠t→¬zak A g:=fun g t hg hne ⟨a,ha,e⟩=>by
  have:=((HT.new NWD).1.at_ _ ha).1
  rw[e] at this;exact this.ne_of hg hne rfl
 have h1:=BR.kept NWD id;have h2:=BA.kept NWD id;refine⟨((NW.new NWD).mono (fun _ _ f=>f.elim)).trans K3 fun i hi hb=>?_,h1.kept K3 (FAR _ _ h1.at_ (by decide)),h2.kept K3 (FAR _ _ h2.at_ (by decide))⟩;obtain⟨a,ha,e⟩:=hb;exact absurd hi (by rw[←e];exact Nat.not_lt.2 (HT.1.at_ _ ha).2)
theorem rbytes_any (K:Nat) (hK:K=7∨K=8∨K=9) (p:Nat) (A:Option Addr) (n c B:Nat) (es:List NE) (j:Nat) (y:ND) (sp st:ByteArray) (av nv:Int) (Ab:Option Addr) (bl bc:Nat) (ab:List Nat) (w:World) (h:TOwn w B A c es) (hn:es.length=n) (hB:B≤w.heap.size) (hR:Rt ⟨p,nds es⟩) (hy:ndI (nds es) j=some y) (hab:Bts w Ab bl ab):
  Calls Tryz.prog 41 #[.agg #[.int .i64 p,.slice A n c],.int .i64 j,.agg #[.int .u8 K,.string sp,.string st,.int .i64 av,.int .i64 nv,.slice Ab bl bc]] w
   (DoP w p B A (bytF ⟨p,nds es⟩ ⟨K,sp,st,av,nv,ab⟩ j y).1.l (bytF ⟨p,nds es⟩ ⟨K,sp,st,av,nv,ab⟩ j y).2):=by
 have hm:n≤1000:=by have:=hR.len;rw[zab,hn] at this;omega
 have hp:p≤255:=hR.p2;have ho:OrdN (nds es):=hR.ord;obtain⟨hym,_⟩:=zaa hy
 by_cases hk:y.k=2
 ·have hyb:y.b.length≤1000000:=by
   have:=(zbd (hR.fin y hym) (by omega)).2.2.2.2
   have:y.b.length≤8*p:=this
   omega
  by_cases hneg:av < 0∨nv < 0
  ·have e:bytF ⟨p,nds es⟩ ⟨K,sp,st,av,nv,ab⟩ j y=(⟨p,nds es⟩,erA 2):=by
    unfold bytF;rw[if_neg (by omega),if_pos hneg]
   rw[e]
   have:=rbytes_bad p A n c B es j K y sp st av nv Ab bl bc w h hn hm hy (.inr hneg)
   unfold badE at this;rwa [if_neg (by omega)] at this
  ·obtain⟨a',rfl⟩:∃a':Nat,av=(a':Int):=⟨av.toNat,by omega⟩;obtain⟨n',rfl⟩:∃n':Nat,nv=(n':Int):=⟨nv.toNat,by omega⟩
   have ta:((a':Nat):Int).toNat=a':=by omega
   have tn:((n':Nat):Int).toNat=n':=by omega
   have hl:=hab.1
   rcases hK with rfl|rfl|rfl
   ·by_cases hb:ab=[]
    ·have e:bytF ⟨p,nds es⟩ ⟨7,sp,st,a',n',ab⟩ j y=(⟨p,nds es⟩,erA 0):=by
      unfold bytF;rw[if_neg (by omega),if_neg hneg,if_neg (by simp),if_neg (by simp),if_pos hb]
     rw[e];subst hb;exact rbytes_lim p A n c B es j 7 y sp st a' n' Ab bl bc w h hn hm hy hp 0 hk (.inr (.inl ⟨rfl,hl.symm,rfl⟩))
    ·have hbl:0 < bl:=by rw[←hl];exact List.length_pos_iff.2 hb
     by_cases hlim:8*p < a'+bl
     ·have e:bytF ⟨p,nds es⟩ ⟨7,sp,st,a',n',ab⟩ j y=(⟨p,nds es⟩,erA 3):=by
       unfold bytF;rw[if_neg (by omega),if_neg hneg,if_neg (by simp),if_neg (by simp),if_neg hb,if_pos (by show 8*p < ((a':Nat):Int).toNat+ab.length;rw[ta,hl];exact hlim)]
      rw[e];exact rbytes_lim p A n c B es j 7 y sp st a' n' Ab bl bc w h hn hm hy hp 3 hk (.inr (.inr ⟨rfl,hbl,hlim,rfl⟩))
     ·have e:bytF ⟨p,nds es⟩ ⟨7,sp,st,a',n',ab⟩ j y=(⟨p,bytE (nds es) j (wrB y.b a' ab)⟩,{ erA 0 with n:=ab.length }):=by
       unfold bytF;rw[if_neg (by omega),if_neg hneg,if_neg (by simp),if_neg (by simp),if_neg hb,if_neg (by show ¬8*p < ((a':Nat):Int).toNat+ab.length;rw[ta,hl];exact hlim)]
       rfl
      rw[e,hl];exact rbytes_write p A n c B es j y sp st a' n' Ab bl bc ab w h hn hB ho (by omega) hbl hab hm hy hk hyb hp
   ·by_cases hlim:8*p < n'
    ·have e:bytF ⟨p,nds es⟩ ⟨8,sp,st,a',n',ab⟩ j y=(⟨p,nds es⟩,erA 3):=by
      unfold bytF;rw[if_neg (by omega),if_neg hneg,if_neg (by simp),if_pos (by simp),if_pos (by show 8*p < ((n':Nat):Int).toNat;rw[tn];exact hlim)]
     rw[e];exact rbytes_lim p A n c B es j 8 y sp st a' n' Ab bl bc w h hn hm hy hp 3 hk (.inl ⟨rfl,hlim,rfl⟩)
    ·have e:bytF ⟨p,nds es⟩ ⟨8,sp,st,a',n',ab⟩ j y=(⟨p,bytE (nds es) j (cutB y.b n')⟩,erA 0):=by
      unfold bytF;rw[if_neg (by omega),if_neg hneg,if_neg (by simp),if_pos (by simp),if_neg (by show ¬8*p < ((n':Nat):Int).toNat;rw[tn];exact hlim)]
      rfl
     rw[e];exact rbytes_cut p A n c B es j y sp st a' n' Ab bl bc w h hn hB ho (by omega) hm hy hk hp
   ·have e:bytF ⟨p,nds es⟩ ⟨9,sp,st,a',n',ab⟩ j y=(⟨p,nds es⟩,{ erA 0 with b:=(y.b.drop a').take n' }):=by
     unfold bytF;rw[if_neg (by omega),if_neg hneg,if_pos (by simp)]
     rfl
    rw[e];exact rbytes_read p A n c B es j y sp st a' n' Ab bl bc w h hn hm hy hk hyb hp
 ·have e:bytF ⟨p,nds es⟩ ⟨K,sp,st,av,nv,ab⟩ j y=(⟨p,nds es⟩,erA 14):=by
   unfold bytF;rw[if_pos hk]
  rw[e]
  have:=rbytes_bad p A n c B es j K y sp st av nv Ab bl bc w h hn hm hy (.inl hk)
  unfold badE at this;rwa [if_pos hk] at this
theorem by_facts {w wb wd we:World} {p c gr ga:Nat} {A:Option Addr} {es:List NE} {L:List ND} {a:AN} {e:Ending} {l1 l2:List Value} (HT:TOwn wb w.heap.size A c es) (NWD:New wb wd) (NW:New w wb) (BR:Blk wb gr 25 l1) (BA:Blk wb ga 41 l2) (h:DoP wd p w.heap.size A L a e we):
  ∃(A':Option Addr) (c':Nat) (es':List NE) (B':Option Addr) (d':Nat) (T':Option Addr) (t':Nat),
   e=.returned (.tuple #[.agg #[.int .i64 p,.slice A' es'.length c'],
    .agg #[.int .i64 a.e,.int .i64 a.i,.int .i64 a.n,.int .u8 a.k,.int .i64 a.l,.int .i64 a.s,.slice B' a.b.length d',.slice T' a.ns.length t']]) ∧
   nds es'=L∧TOwn we w.heap.size A' c' es'∧OwnB we 5 w.heap.size B' d' a.b∧Txs we T' a.ns.length a.g∧(∀x,T'=some x→At we x.block 9)∧Kept (zak none) w we∧Blk we gr 25 l1∧Blk we ga 41 l2:=by
 obtain⟨A',c',es',B',d',T',t',h1,h2,h3,h4,h5,h6,h7⟩:=h;obtain⟨f1,f2,f3⟩:=zda HT h6 NWD NW BR BA;exact⟨A',c',es',B',d',T',t',h1,h2,h3,h4.mono (Nat.le_trans NW.size NWD.size),h5,h7,f1,f2,f3⟩
end
end Go.Proofs.YtjjamoemheljdaaGreat
