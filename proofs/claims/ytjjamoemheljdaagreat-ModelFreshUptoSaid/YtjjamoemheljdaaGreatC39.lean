/-
  Layer 7: contracts (Pq).
-/
import Derived.Test.YtjjamoemheljdaaGreatC13
namespace Go.Proofs.YtjjamoemheljdaaGreat
set_option maxRecDepth 100000
set_option maxHeartbeats 8000000
set_option linter.unusedSimpArgs false
set_option linter.unusedVariables false
section
open Go.RowKit
theorem hgtN_take {f:Nat→Nat} {ns:List (ByteArray×Nat)} {t:Nat} {e:ByteArray×Nat} (he:ns[t]?=some e):hgtN f (ns.take (t+1))=max (hgtN f (ns.take t)) (1+f e.2):=by
  induction ns generalizing t with
  | nil=>simp at he
  | cons x r ih=>
    cases t with
    | zero=>simp at he;subst he;simp[hgtN]
    | succ t=>
      rw[List.take_succ_cons,List.take_succ_cons,hgtN,hgtN,ih (t:=t) (by simpa using he)];omega
theorem hgtN_max {f:Nat→Nat} {m:Nat} (hf:∀j,f j≤m):∀(ns:List (ByteArray×Nat)),hgtN f ns≤m+1
  | []=>Nat.zero_le _
  | e::r=>by
    have:=hgtN_max hf r
    have:=hf e.2
    unfold hgtN;omega
theorem hgt_max (L:List ND):∀(f j:Nat),hgt L f j≤f
  | 0,_=>Nat.le_refl _
  | f+1,j=>by
    unfold hgt
    cases ndI L j with
    | none=>exact Nat.zero_le _
    | some n=>exact hgtN_max (hgt_max L f) n.ns
theorem rbelow_any (p:Nat) (A:Option Addr) (n c:Nat) (es:List NE) (f:Nat):∀(j:Nat) (y:ND) (w:World),TIn w A es→es.length=n→Rt ⟨p,nds es⟩→f≤8→ndI (nds es) j=some y →
    Calls Tryz.prog 70 #[.agg #[.int .i64 p,.slice A n c],.int .i64 j,.int .i64 f] w (zaw w ((hgt (nds es) f j:Nat):Int)):=by
  induction f using Nat.strongRecOn with
  | ind f ih=>
  intro j y w h hn hR hf8 hy
  have hm48:n≤48:=by have:=hR.len;rwa [zab,hn] at this
  obtain⟨w1,hw1⟩:∃w1,w1=w.alloc (.cells #[.int .i64 p,.slice A n c] 25):=⟨_,rfl⟩;obtain⟨n1,hb⟩:=box2 hw1;have B:=jH hb;have H:=jH (h.new n1);have N1:=jH n1;have HW:=jH hw1;have LN:=jH hn;have RR:=jH hR
  have IH:Hid (∀(f' i:Nat) (z:ND) (u:World),f' < f→New w1 u→ndI (nds es) i=some z→Calls Tryz.prog 70 #[.agg #[.int .i64 p,.slice A n c],.int .i64 (i:Nat),.int .i64 (f':Nat)] u (zaw u ((hgt (nds es) f' i:Nat):Int))):=fun f' i z u hf hu hz=>ih f' hf i z u ((h.new n1).new hu) hn hR (by omega) hz
  have CN:Hid (∀u,New w1 u→Calls Tryz.prog 25 #[.agg #[.int .i64 p,.slice A n c],.int .i64 j] u (zaw u ((posI (nds es) j:Nat):Int))):=fun u hu=>by
    have:=zam p A n c es j u ((h.new n1).new hu) hn (by omega)
    rwa [zaz hy] at this
  clear h n1 hw1 hb hn hR ih;obtain⟨z,hz,hzy,hzm⟩:=zbg hy;have CNy:=CN;have NU:Hid (New w1 w1):=kR
  have hpl:posI (nds es) j < n:=by have:=(List.getElem?_eq_some_iff.1 hz).1;rwa [LN.out] at this
  obtain⟨ga,oa,z',eA,_⟩:=H.out.pos (i:=posI (nds es) j) (by rw[LN.out];exact hpl);subst eA
  have HH:Hid (∀f',f=f'+1→hgt (nds es) f j=hgtN (hgt (nds es) f') z.n.ns):=fun f' e=>by
    rw[e,hgt,hy,hzy]
  have H0:Hid (f=0→hgt (nds es) f j=0):=fun e=>by rw[e];rfl
  go_enter Tryz.func70,Tryz.ntmps70;go_wp2_with fail;rw[←HW.out];clear HW;generalize w.heap.size=gk at *;obtain⟨b0,b1⟩:=B.out w1 NU.out
  have ZC:Hid (∀u,New w1 u→u.cell? ⟨gk,1,none⟩=some (.slice (some ⟨ga,oa,none⟩) n c)∧u.cell? ⟨ga,oa+posI (nds es) j*5,none⟩=some (.int .i64 z.n.i)∧u.cell? ⟨ga,oa+posI (nds es) j*5+1,none⟩=some (.int .u8 z.n.k)∧u.cell? ⟨ga,oa+posI (nds es) j*5+2,none⟩=some (.int .i64 z.n.l) ∧
      u.cell? ⟨ga,oa+posI (nds es) j*5+3,none⟩=some (.slice z.A z.n.ns.length z.c)∧u.cell? ⟨ga,oa+posI (nds es) j*5+4,none⟩=some (.slice z.B z.n.b.length z.d)):=fun u hu=>by
    obtain⟨_,q0,q1,q2,q3,q4⟩:=(H.out.new hu).get hz;exact⟨(B.out u hu).2,q0,q1,q2,q3,q4⟩
  have XN:Hid (∀u,New w1 u→NmIn u z.A z.n.ns):=fun u hu=>((H.out.new hu).2 z hzm).1
  have XL:Hid (z.n.ns.length≤288):=RR.out.ns_le (zay hzm)
  have MK:Hid (∀(wC:World),New wC (wC.alloc (.cells #[.int .i64 z.n.i,.int .u8 z.n.k,.int .i64 z.n.l,.slice z.A z.n.ns.length z.c,.slice z.B z.n.b.length z.d] 53))∧Blk (wC.alloc (.cells #[.int .i64 z.n.i,.int .u8 z.n.k,.int .i64 z.n.l,.slice z.A z.n.ns.length z.c,.slice z.B z.n.b.length z.d] 53)) wC.heap.size 53 [.int .i64 z.n.i,.int .u8 z.n.k,.int .i64 z.n.l,.slice z.A z.n.ns.length z.c,.slice z.B z.n.b.length z.d]):=fun wC=>⟨kR.alloc _,Blk.made wC _ _⟩
  have HY:Hid (ndI (nds es) j=some z.n∧z.n∈nds es):=⟨by rw[hzy];exact hy,zay hzm⟩;clear hy hz hzy hzm;generalize posI (nds es) j=pj at *
  have s0:(pj:Int) < (n:Int):=by omega
  have s1:(0:Int)≤(pj:Int):=by omega
  obtain⟨_,z0,z1,z2,z3,z4⟩:=ZC.out w1 NU.out;have hga:ga < w1.heap.size:=World.block_lt_of_cell? w1 _ z0;have hgk:gk < w1.heap.size:=World.block_lt_of_cell? w1 _ b0
  have ZB:Hid (∀wx:World,wx.heap.size=w1.heap.size→∀wC,New (wx.alloc (.cells #[.int .i64 0,.int .u8 0,.int .i64 0,.slice none 0 0,.slice none 0 0] 53)) wC→Blk wC w1.heap.size 53 [.int .i64 0,.int .u8 0,.int .i64 0,.slice none 0 0,.slice none 0 0]):=fun wx hx wC hC=>by
    have:=(Blk.made wx 53 #[.int .i64 0,.int .u8 0,.int .i64 0,.slice none 0 0,.slice none 0 0]).kept hC id
    rwa [hx] at this
  have hgx:w1.heap.size≤w1.heap.size:=NU.out.size
  have SETN:Hid (∀wC:World,New w1 wC→New w1 (((((wC.setCell ⟨w1.heap.size,0,none⟩ (.int .i64 z.n.i)).setCell ⟨w1.heap.size,1,none⟩ (.int .u8 z.n.k)).setCell ⟨w1.heap.size,2,none⟩ (.int .i64 z.n.l)).setCell ⟨w1.heap.size,3,none⟩ (.slice z.A z.n.ns.length z.c)).setCell ⟨w1.heap.size,4,none⟩ (.slice z.B z.n.b.length z.d))):=fun wC hC=>
    (((((hC.setCell (p:=⟨w1.heap.size,0,none⟩) (fun hh=>absurd hh (Nat.not_lt.2 hgx)) _).setCell (p:=⟨w1.heap.size,1,none⟩) (fun hh=>absurd hh (Nat.not_lt.2 hgx)) _).setCell (p:=⟨w1.heap.size,2,none⟩) (fun hh=>absurd hh (Nat.not_lt.2 hgx)) _).setCell (p:=⟨w1.heap.size,3,none⟩) (fun hh=>absurd hh (Nat.not_lt.2 hgx)) _).setCell (p:=⟨w1.heap.size,4,none⟩) (fun hh=>absurd hh (Nat.not_lt.2 hgx)) _)
  have SETB:Hid (∀wC:World,Blk wC w1.heap.size 53 [.int .i64 0,.int .u8 0,.int .i64 0,.slice none 0 0,.slice none 0 0]→Blk (((((wC.setCell ⟨w1.heap.size,0,none⟩ (.int .i64 z.n.i)).setCell ⟨w1.heap.size,1,none⟩ (.int .u8 z.n.k)).setCell ⟨w1.heap.size,2,none⟩ (.int .i64 z.n.l)).setCell ⟨w1.heap.size,3,none⟩ (.slice z.A z.n.ns.length z.c)).setCell ⟨w1.heap.size,4,none⟩ (.slice z.B z.n.b.length z.d)) w1.heap.size 53 [.int .i64 z.n.i,.int .u8 z.n.k,.int .i64 z.n.l,.slice z.A z.n.ns.length z.c,.slice z.B z.n.b.length z.d]):=fun wC hC=>
    ((((hC.put 0 (.int .i64 z.n.i)).put 1 (.int .u8 z.n.k)).put 2 (.int .i64 z.n.l)).put 3 (.slice z.A z.n.ns.length z.c)).put 4 (.slice z.B z.n.b.length z.d)
  clear hgx
  go_upto_region 1 with fail
  go_cut [7] (fun v wx=>∃gx:Nat,v=.pointer (some ⟨gx,0,none⟩)∧Hid (New w1 wx)∧Hid (Blk wx gx 53 [.int .i64 z.n.i,.int .u8 z.n.k,.int .i64 z.n.l,.slice z.A z.n.ns.length z.c,.slice z.B z.n.b.length z.d]))
  case first=>
    go_region_law (first
      | (go_simp;go_at_call 25;refine (CNy.out _ (by first|exact NU.out|exact NU.out.drew)).mono ?_;rintro e wC ⟨rfl,k4⟩;have NC:Hid (New w1 wC):=(by first|exact NU.out.new k4|exact NU.out.drew.new k4);clear k4;obtain⟨t1,t2,t3,t4,t5,t6⟩:=ZC.out wC NC.out;have hgc:ga < wC.heap.size:=World.block_lt_of_cell? wC _ t2;have hgkc:gk < wC.heap.size:=World.block_lt_of_cell? wC _ t1)
      | (go_simp;go_at_call 25;refine (CNy.out _ (by first|exact NU.out.alloc _|exact NU.out.drew.alloc _)).mono ?_;rintro e wC ⟨rfl,k4⟩;have NC:Hid (New w1 wC):=(by first|exact (NU.out.alloc _).new k4|exact (NU.out.drew.alloc _).new k4);have BZ:=ZB.out w1 rfl wC (by first|exact k4|exact zbm k4);clear k4;obtain⟨t1,t2,t3,t4,t5,t6⟩:=ZC.out wC NC.out;obtain⟨f0,f1,f2,f3,f4⟩:=BZ.f5;have y0:=BZ.cell 0;have y1:=BZ.cell 1;have y2:=BZ.cell 2;have y3:=BZ.cell 3;have y4:=BZ.cell 4))
    all_goals
      simp only[Exit.then];refine (‹∀(a':Act) (w':World),Met _ a' w'→_›) _ _ ?_
      go_meet
      case rel=>
        first
          | (have hb:=SETB.out wC BZ
             have hn:=SETN.out wC NC.out
             exact⟨w1.heap.size,rfl,hn,hb⟩)
          | (have hn:=NC.out.new (MK.out wC).1
             have hb:=(MK.out wC).2
             exact⟨wC.heap.size,rfl,hn,hb⟩)
  case rest=>
    obtain⟨gx,rfl,NX,BX⟩:=hcut;obtain⟨c0,c1,c2,c3,c4⟩:=BX.out.p5;clear BX z0 z1 z2 z3 z4 b0 b1 hga hgk MK SETN SETB ZB ZC CNy CN
    have BXC:Hid (∀u,New wc u→u.cell? ⟨gx,3,none⟩=some (.slice z.A z.n.ns.length z.c)):=fun u hu=>hu.cell c3 id
    have ENT:Hid (∀e∈z.n.ns,∃v,ndI (nds es) e.2=some v):=fun e he=>ndI_of (RR.out.ent z.n HY.out.2 e he)
    clear c0 c1 c2 c3 c4 HY RR;obtain⟨⟨zi,zk,zl0,zns,zb⟩,zA,zc,zB,zd⟩:=z;have BXC:Hid (∀u,New wc u→u.cell? ⟨gx,3,none⟩=some (.slice zA zns.length zc)):=BXC;have XN:Hid (∀u,New w1 u→NmIn u zA zns):=XN;have XL:Hid (zns.length≤288):=XL;have ENT:Hid (∀e∈zns,∃v,ndI (nds es) e.2=some v):=ENT;have HH:Hid (∀f',f=f'+1→hgt (nds es) f j=hgtN (hgt (nds es) f') zns):=HH;generalize hzl:zns.length=zl at *;have HZL:=jH hzl;have hzl288:=XL.out;clear hzl
    rcases Nat.eq_zero_or_pos f with hf0|hf0
    · have E:=jH (H0.out hf0)
      have d1:decide (0 < f)=false:=decide_eq_false (by omega);have d2:decide ((0:Int) < ((f:Nat):Int))=false:=decide_eq_false (by omega);have x3:=BXC.out wc kR;clear hf0;go_wp2_with fail
      go_loopw [8,9] (fun a b wr=>a=.int .i64 0∧b=.int .i64 0∧wr=wc) (fun _ _ _=>0)
      case atStart=>exact⟨rfl,rfl,rfl⟩
      case round=>
        obtain⟨rfl,rfl,rfl⟩:=hrel;obtain⟨b,hb⟩:∃b,b=decide (0 < zl):=⟨_,rfl⟩;have hb2:decide (0 < zl)=b:=hb.symm;clear hb;cases b
        · go_wp2
          go_ret;exact⟨by rw[E.out];rfl,N1.out.new NX.out⟩
        · go_wp2
          go_ret;exact⟨by rw[E.out];rfl,N1.out.new NX.out⟩
    · obtain⟨f',rfl⟩:∃f',f=f'+1:=⟨f - 1,by omega⟩
      have E:=jH (HH.out f' rfl);have HM:=jH (hgt_max (nds es) f');have d1:decide (0 < f'+1)=true:=decide_eq_true (by omega);clear hf0 HH H0;go_wp2_with fail
      go_loopw [8,9] (fun a b wr=>∃(t v:Nat),t≤zl∧v≤100∧b=.int .i64 t∧a=.int .i64 (v:Nat)∧Hid (v=hgtN (hgt (nds es) f') (zns.take t))∧Hid (New wc wr)) (fun _ b _=>zl - (intOf b).toNat)
      case atStart=>exact⟨0,0,Nat.zero_le _,by omega,rfl,rfl,rfl,kR⟩
      case round=>
        obtain⟨t,v,ht,hv,rfl,rfl,HV,NW⟩:=hrel;have N6:Hid (New w1 wr):=NX.out.new NW.out;obtain⟨b0,b1⟩:=B.out wr N6.out;have x3:=BXC.out wr NW.out
        by_cases hlt:t < zl
        · obtain⟨g2,o2,e,eA2,he⟩:=NmIn.pos (XN.out wr N6.out) (i:=t) (by rw[HZL.out];exact hlt)
          subst eA2;obtain⟨_,y1⟩:=NmIn.get (XN.out wr N6.out) he;obtain⟨ev,hev⟩:=ENT.out e (List.mem_of_getElem? he);have HT:=jH (hgtN_take (f:=hgt (nds es) f') he)
          have hdm:hgt (nds es) f' e.2≤8:=by have:=HM.out e.2;omega
          have CB0:Hid (∀u,New w1 u→Calls Tryz.prog 70 #[.agg #[.int .i64 p,.slice (some ⟨ga,oa,none⟩) n c],.int .i64 e.2,.int .i64 (f':Nat)] u fun q w'=>q=.returned (.int .i64 (hgt (nds es) f' e.2:Nat))∧Below u.heap.size u w'):=fun u hu=>
            (IH.out f' e.2 ev u (by omega) hu hev).mono fun q w' hh=>⟨hh.1,hh.2.below⟩
          generalize hgt (nds es) f' e.2=hd at *;have CB:=jH (fun (dq:Nat) (os:Array Obj)=>Calls.regrown_of (d:=dq) (os:=os) (CB0.out (Go.Sort.grow (redrawn wr dq) os) (zan N6.out dq os)))
          have p0:=fun d os=>cell_regrown b0 d os
          have p1:=fun d os=>cell_regrown b1 d os
          have p2:=fun d os=>cell_regrown x3 d os
          have p3:=fun d os=>cell_regrown y1 d os
          have s0:IntKind.i64.wrap ((f':Int)+1 - 1)=(f':Int):=by rw[IntKind.wrap_i64];omega
          have s1:IntKind.i64.wrap (f':Int)=(f':Int):=by rw[IntKind.wrap_i64];omega
          have s2:IntKind.i64.wrap (1+((hd:Nat):Int))=((1+hd:Nat):Int):=by rw[IntKind.wrap_i64];omega
          have s3:(t:Int) < (zl:Int):=by omega
          clear he hev CB0 b0 b1 y1;go_wp2_with fail;refine wp_region_quiet_below (by kernel_rfl) (by kernel_rfl) ?_
          repeat (first|go_big_quiet_step (first|(go_at_call 70;exact CB.out _ _))|quiet_step (first|(go_at_call 70;exact CB.out _ _)))
          refine wpQuiet_nil ?_;intro _ hw';obtain⟨⟨dq,osq⟩,hw''⟩:=hw';subst hw'';have K9:Hid (New wc (Go.Sort.grow (redrawn wr dq) osq)):=zan NW.out dq osq;clear CB p0 p1 p2 p3 s0 s1 s2 s3 x3
          by_cases hmx:v < 1+hd
          · have d3:decide ((v:Int) < 1+(hd:Int))=true:=decide_eq_true (by omega)
            have HV2:Hid (1+hd=hgtN (hgt (nds es) f') (zns.take (t+1))):=by rw[Hid,HT.out,←HV.out];omega
            clear HT HV hmx;go_wp2;go_roundw
            case rel=>exact⟨t+1,1+hd,by omega,by omega,by go_num,by go_num,HV2,K9⟩
            case measure=>simp[intOf];omega
          · have d3:decide ((v:Int) < 1+(hd:Int))=false:=decide_eq_false (by omega)
            have HV2:Hid (v=hgtN (hgt (nds es) f') (zns.take (t+1))):=by rw[Hid,HT.out,←HV.out];omega
            clear HT HV hmx;go_wp2;go_roundw
            case rel=>exact⟨t+1,v,by omega,by omega,by go_num,rfl,HV2,K9⟩
            case measure=>simp[intOf];omega
        · obtain rfl:t=zl:=by omega
          have E9:Hid (hgt (nds es) (f'+1) j=v):=by
            have:=HV.out
            rw[List.take_of_length_le (by rw[HZL.out];exact Nat.le_refl _)] at this;rw[Hid,E.out,this]
          clear HV E;go_wp2;go_ret;exact⟨by rw[E9.out];rfl,N1.out.new N6⟩
end
end Go.Proofs.YtjjamoemheljdaaGreat
