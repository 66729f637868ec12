/-
  Layer 7: contracts (Pk Pl).
-/
import Derived.Test.YtjjamoemheljdaaGreatC12
namespace Go.Proofs.YtjjamoemheljdaaGreat
set_option maxRecDepth 100000
set_option maxHeartbeats 8000000
set_option linter.unusedSimpArgs false
set_option linter.unusedVariables false
section
open Go.RowKit
def Look3 (w:World) (r:Nat×Nat×Nat) (e:Ending) (w':World):Prop:=e=.returned (.tuple #[.int .i64 r.1,.int .i64 r.2.1,.int .i64 r.2.2])∧New w w'
theorem lookF_cons {L:List ND} {x:ByteArray} {r:List ByteArray} {q j:Nat} {n:ND} (h0:j≠0) (hn:ndI L j=some n) (hk:n.k=1):zad L (x::r) q j=zad L r j (entF n.ns x):=by
  conv=>lhs;unfold zad
  rw[if_neg h0,hn];simp only;rw[if_neg (by omega)]
theorem lookF_kind {L:List ND} {x:ByteArray} {r:List ByteArray} {q j:Nat} {n:ND} (h0:j≠0) (hn:ndI L j=some n) (hk:n.k≠1):zad L (x::r) q j=(0,0,14):=by
  unfold zad;rw[if_neg h0,hn];simp only;rw[if_pos hk]
theorem lookF_zero {L:List ND} {x:ByteArray} {r:List ByteArray} {q:Nat}:zad L (x::r) q 0=(0,0,12):=by
  unfold zad;rw[if_pos rfl]
theorem LkP.snoc {T:TT} {l:List ByteArray} {q j:Nat} {n:ND} (x:ByteArray) (hp:LkP T.l l q j) (h0:j≠0) (hn:ndI T.l j=some n) (hk:n.k=1):LkP T.l (l++[x]) j (entF n.ns x):=
  ⟨.inr ⟨l,x,n,rfl,hp.way h0,hn,hk,rfl⟩⟩
theorem zbm {w w':World} (h:New w.drew w'):New w w':=⟨h.os,h.tape,h.output,h.size,h.block⟩
theorem zaz {L:List ND} {j:Nat} {n:ND} (h:ndI L j=some n):noI L j=((posI L j:Nat):Int):=by unfold noI;rw[h]
theorem zbg {es:List NE} {j:Nat} {n:ND} (h:ndI (nds es) j=some n):∃x,es[posI (nds es) j]?=some x∧x.n=n∧x∈es:=by
  have h1:=pos_some h;unfold nds at h1;rw[List.getElem?_map] at h1;obtain⟨x,hx,e⟩:=Option.map_eq_some_iff.1 h1;exact⟨x,hx,e,List.mem_of_getElem? hx⟩
theorem ent_lt {T:TT} (h:Rt T) {n:ND} (hn:n∈T.l) (x:ByteArray):entF n.ns x≤65535:=by
  by_cases h0:entF n.ns x=0
  · omega
  · obtain⟨m,hm,e⟩:=zav.1 (h.ent n hn _ (zcl h0))
    have:=(h.rng m hm).2
    simp only at e;omega
theorem zat (p:Nat) (A:Option Addr) (n c:Nat) (es:List NE) (G:Option Addr) (m cg:Nat) (g0:List (List UInt8)) (w:World) (h:TIn w A es) (hn:es.length=n) (hR:Rt ⟨p,nds es⟩) (hg:Txs w G m g0) (hm:m≤1000):
    Calls Tryz.prog 36 #[.agg #[.int .i64 p,.slice A n c],.slice G m cg] w (Look3 w (zad (nds es) (g0.map baL) 0 1)):=by
  have hm48:n≤48:=by have:=hR.len;rwa [zab,hn] at this
  obtain⟨w1,hw1⟩:∃w1,w1=w.alloc (.cells #[.int .i64 p,.slice A n c] 25):=⟨_,rfl⟩;obtain⟨n1,hb⟩:=box2 hw1;have B:=jH hb;have H:=jH (h.new n1);have HG:Hid (Txs w1 G m g0):=hg.new n1;have N1:=jH n1;have HW:=jH hw1;have LN:=jH hn;have LG:=jH hg.len;have RR:=jH hR
  have CN:Hid (∀(j:Nat) (y:ND),ndI (nds es) j=some y→∀u,New w1 u→Calls Tryz.prog 25 #[.agg #[.int .i64 p,.slice A n c],.int .i64 (j:Nat)] u (zaw u ((posI (nds es) j:Nat):Int))):=fun j y hy u hu=>by
    have:=zam p A n c es j u ((h.new n1).new hu) hn (by omega)
    rwa [zaz hy] at this
  clear h n1 hw1 hb hn hR hg;go_enter Tryz.func36,Tryz.ntmps36;go_wp2_with fail;rw[←HW.out];clear HW;generalize w.heap.size=gk at *
  go_loopw [7,8,9] (fun tq tj ti wr=>∃(k q j:Nat),k≤m∧j≤65535∧ti=.int .i64 k∧tq=.int .i64 (q:Nat)∧tj=.int .i64 (j:Nat)∧Hid (zad (nds es) ((g0.map baL).drop k) q j=zad (nds es) (g0.map baL) 0 1)∧Hid (LkP (nds es) ((g0.map baL).take k) q j)∧Hid (New w1 wr)) (fun _ _ i _=>m - (intOf i).toNat)
  case atStart=>exact⟨0,0,1,Nat.zero_le _,by omega,rfl,rfl,rfl,rfl,⟨.inl ⟨rfl,rfl,rfl⟩⟩,kR⟩
  case round=>
    obtain⟨k,q,j,hk,hj5,rfl,rfl,rfl,HK,HP,HN⟩:=hrel;obtain⟨b0,b1⟩:=B.out wr HN.out
    by_cases hlt:k < m
    · obtain⟨gg,og,x,eG,hx,gc⟩:=Txs.at_ (j:=k) (HG.out.new HN.out) hlt
      subst eG
      have HD:Hid ((g0.map baL).drop k=baL x::(g0.map baL).drop (k+1)):=by
        have:(g0.map baL)[k]?=some (baL x):=by rw[List.getElem?_map,hx];rfl
        obtain⟨h1,h2⟩:=List.getElem?_eq_some_iff.1 this;rw[Hid,List.drop_eq_getElem_cons h1,h2]
      have HT:Hid ((g0.map baL).take (k+1)=(g0.map baL).take k++[baL x]):=by
        have:(g0.map baL)[k]?=some (baL x):=by rw[List.getElem?_map,hx];rfl
        rw[Hid,List.take_add_one,this];rfl
      have GC:Hid (∀u,New w1 u→u.cell? ⟨gg,og+k,none⟩=some (.string ⟨x.toArray⟩)):=fun u hu=>by
        obtain⟨g',o',x',e1,e2,e3⟩:=Txs.at_ (j:=k) (HG.out.new hu) hlt
        injection e1 with e1
        injection e1 with e1 e4
        subst e1 e4;rw[hx] at e2
        injection e2 with e2
        subst e2;exact e3
      clear hx
      by_cases h0:j=0
      · subst h0
        have E9:Hid (Look3 w (zad (nds es) (g0.map baL) 0 1) (.returned (.tuple #[.int .i64 0,.int .i64 0,.int .i64 12])) wr):=by
          rw[←HK.out,HD.out,lookF_zero];exact⟨rfl,N1.out.new HN.out⟩
        clear HK HP HD HT;go_wp2;go_returns;exact E9.out
      · obtain⟨y,hy⟩:=zce RR.out HP.out h0
        obtain⟨z,hz,hzy,hzm⟩:=zbg hy;have d0:(((j:Nat):Int) == 0)=false:=beq_eq_false_iff_ne.2 (by omega);have CNy:=jH (fun (u:World) (hu:New w1 u)=>CN.out j y hy u hu)
        have hpl:posI (nds es) j < n:=by have:=(List.getElem?_eq_some_iff.1 hz).1;rwa [LN.out] at this
        obtain⟨ga,oa,z',eA,_⟩:=H.out.pos (i:=posI (nds es) j) (by rw[LN.out];exact hpl);subst eA
        have ZC:Hid (∀u,New w1 u→u.cell? ⟨gk,1,none⟩=some (.slice (some ⟨ga,oa,none⟩) n c)∧u.cell? ⟨ga,oa+posI (nds es) j*5,none⟩=some (.int .i64 z.n.i)∧u.cell? ⟨ga,oa+posI (nds es) j*5+1,none⟩=some (.int .u8 z.n.k)∧u.cell? ⟨ga,oa+posI (nds es) j*5+2,none⟩=some (.int .i64 z.n.l) ∧
            u.cell? ⟨ga,oa+posI (nds es) j*5+3,none⟩=some (.slice z.A z.n.ns.length z.c)∧u.cell? ⟨ga,oa+posI (nds es) j*5+4,none⟩=some (.slice z.B z.n.b.length z.d)):=fun u hu=>by
          obtain⟨_,q0,q1,q2,q3,q4⟩:=(H.out.new hu).get hz;exact⟨(B.out u hu).2,q0,q1,q2,q3,q4⟩
        have XN:Hid (∀u,New w1 u→NmIn u z.A z.n.ns):=fun u hu=>((H.out.new hu).2 z hzm).1
        have XL:Hid (z.n.ns.length≤288):=RR.out.ns_le (zay hzm)
        have MK:Hid (∀(wC:World),New wC (wC.alloc (.cells #[.int .i64 z.n.i,.int .u8 z.n.k,.int .i64 z.n.l,.slice z.A z.n.ns.length z.c,.slice z.B z.n.b.length z.d] 53))∧Blk (wC.alloc (.cells #[.int .i64 z.n.i,.int .u8 z.n.k,.int .i64 z.n.l,.slice z.A z.n.ns.length z.c,.slice z.B z.n.b.length z.d] 53)) wC.heap.size 53 [.int .i64 z.n.i,.int .u8 z.n.k,.int .i64 z.n.l,.slice z.A z.n.ns.length z.c,.slice z.B z.n.b.length z.d]):=fun wC=>⟨kR.alloc _,Blk.made wC _ _⟩
        have HY:Hid (ndI (nds es) j=some z.n∧j≠0∧z.n∈nds es):=⟨by rw[hzy];exact hy,h0,zay hzm⟩;clear hy hz hzy hzm h0;generalize posI (nds es) j=pj at *
        have s0:(pj:Int) < (n:Int):=by omega
        have s1:(0:Int)≤(pj:Int):=by omega
        obtain⟨_,z0,z1,z2,z3,z4⟩:=ZC.out wr HN.out;have hga:ga < wr.heap.size:=World.block_lt_of_cell? wr _ z0;have hgk:gk < wr.heap.size:=World.block_lt_of_cell? wr _ b0
        have ZB:Hid (∀wx:World,wx.heap.size=wr.heap.size→∀wC,New (wx.alloc (.cells #[.int .i64 0,.int .u8 0,.int .i64 0,.slice none 0 0,.slice none 0 0] 53)) wC→Blk wC wr.heap.size 53 [.int .i64 0,.int .u8 0,.int .i64 0,.slice none 0 0,.slice none 0 0]):=fun wx hx wC hC=>by
          have:=(Blk.made wx 53 #[.int .i64 0,.int .u8 0,.int .i64 0,.slice none 0 0,.slice none 0 0]).kept hC id
          rwa [hx] at this
        have hgx:w1.heap.size≤wr.heap.size:=HN.out.size
        have SETN:Hid (∀wC:World,New w1 wC→New w1 (((((wC.setCell ⟨wr.heap.size,0,none⟩ (.int .i64 z.n.i)).setCell ⟨wr.heap.size,1,none⟩ (.int .u8 z.n.k)).setCell ⟨wr.heap.size,2,none⟩ (.int .i64 z.n.l)).setCell ⟨wr.heap.size,3,none⟩ (.slice z.A z.n.ns.length z.c)).setCell ⟨wr.heap.size,4,none⟩ (.slice z.B z.n.b.length z.d))):=fun wC hC=>
          (((((hC.setCell (p:=⟨wr.heap.size,0,none⟩) (fun hh=>absurd hh (Nat.not_lt.2 hgx)) _).setCell (p:=⟨wr.heap.size,1,none⟩) (fun hh=>absurd hh (Nat.not_lt.2 hgx)) _).setCell (p:=⟨wr.heap.size,2,none⟩) (fun hh=>absurd hh (Nat.not_lt.2 hgx)) _).setCell (p:=⟨wr.heap.size,3,none⟩) (fun hh=>absurd hh (Nat.not_lt.2 hgx)) _).setCell (p:=⟨wr.heap.size,4,none⟩) (fun hh=>absurd hh (Nat.not_lt.2 hgx)) _)
        have SETB:Hid (∀wC:World,Blk wC wr.heap.size 53 [.int .i64 0,.int .u8 0,.int .i64 0,.slice none 0 0,.slice none 0 0]→Blk (((((wC.setCell ⟨wr.heap.size,0,none⟩ (.int .i64 z.n.i)).setCell ⟨wr.heap.size,1,none⟩ (.int .u8 z.n.k)).setCell ⟨wr.heap.size,2,none⟩ (.int .i64 z.n.l)).setCell ⟨wr.heap.size,3,none⟩ (.slice z.A z.n.ns.length z.c)).setCell ⟨wr.heap.size,4,none⟩ (.slice z.B z.n.b.length z.d)) wr.heap.size 53 [.int .i64 z.n.i,.int .u8 z.n.k,.int .i64 z.n.l,.slice z.A z.n.ns.length z.c,.slice z.B z.n.b.length z.d]):=fun wC hC=>
          ((((hC.put 0 (.int .i64 z.n.i)).put 1 (.int .u8 z.n.k)).put 2 (.int .i64 z.n.l)).put 3 (.slice z.A z.n.ns.length z.c)).put 4 (.slice z.B z.n.b.length z.d)
        clear hgx
        go_upto_region 7 with fail
        go_cut [10] (fun v wx=>∃gx:Nat,v=.pointer (some ⟨gx,0,none⟩)∧Hid (New w1 wx)∧Hid (Blk wx gx 53 [.int .i64 z.n.i,.int .u8 z.n.k,.int .i64 z.n.l,.slice z.A z.n.ns.length z.c,.slice z.B z.n.b.length z.d]))
        case first=>
          go_region_law (first
            | (go_simp;go_at_call 25;refine (CNy.out _ (by first|exact HN.out|exact HN.out.drew)).mono ?_;rintro e wC ⟨rfl,k4⟩;have NC:Hid (New w1 wC):=(by first|exact HN.out.new k4|exact HN.out.drew.new k4);clear k4;obtain⟨t1,t2,t3,t4,t5,t6⟩:=ZC.out wC NC.out;have hgc:ga < wC.heap.size:=World.block_lt_of_cell? wC _ t2;have hgkc:gk < wC.heap.size:=World.block_lt_of_cell? wC _ t1)
            | (go_simp;go_at_call 25;refine (CNy.out _ (by first|exact HN.out.alloc _|exact HN.out.drew.alloc _)).mono ?_;rintro e wC ⟨rfl,k4⟩;have NC:Hid (New w1 wC):=(by first|exact (HN.out.alloc _).new k4|exact (HN.out.drew.alloc _).new k4);have BZ:=ZB.out wr rfl wC (by first|exact k4|exact zbm k4);clear k4;obtain⟨t1,t2,t3,t4,t5,t6⟩:=ZC.out wC NC.out;obtain⟨f0,f1,f2,f3,f4⟩:=BZ.f5;have y0:=BZ.cell 0;have y1:=BZ.cell 1;have y2:=BZ.cell 2;have y3:=BZ.cell 3;have y4:=BZ.cell 4))
          all_goals
            simp only[Exit.then];refine (‹∀(a':Act) (w':World),Met _ a' w'→_›) _ _ ?_
            go_meet
            case rel=>
              first
                | (have hb:=SETB.out wC BZ
                   have hn:=SETN.out wC NC.out
                   exact⟨wr.heap.size,rfl,hn,hb⟩)
                | (have hn:=NC.out.new (MK.out wC).1
                   have hb:=(MK.out wC).2
                   exact⟨wC.heap.size,rfl,hn,hb⟩)
        case rest=>
          obtain⟨gx,rfl,NX,BX⟩:=hcut;obtain⟨c0,c1,c2,c3,c4⟩:=BX.out.p5;clear BX z0 z1 z2 z3 z4 b0 b1 hga hgk MK SETN SETB ZB ZC CNy
          by_cases hk1:z.n.k=1
          · have d1:(((z.n.k:Nat):Int) != 1)=false:=by rw[hk1];rfl
            have HNX:Hid (zad (nds es) ((g0.map baL).drop (k+1)) j (entF z.n.ns (baL x))=zad (nds es) (g0.map baL) 0 1):=by
              rw[Hid,←HK.out,HD.out,lookF_cons HY.out.2.1 HY.out.1 hk1]
            have HPX:Hid (LkP (nds es) ((g0.map baL).take (k+1)) j (entF z.n.ns (baL x))):=by
              rw[HT.out];exact LkP.snoc (T:=⟨p,nds es⟩) _ HP.out HY.out.2.1 HY.out.1 hk1
            have hlt5:entF z.n.ns (baL x)≤65535:=ent_lt (T:=⟨p,nds es⟩) RR.out HY.out.2.2 _;have gc2:=GC.out wc NX.out;have CE:=jH (fun (dq:Nat) (os:Array Obj)=>Calls.regrown_of (d:=dq) (os:=os) ((rentry_any ((z.n.i:Nat):Int) ((z.n.k:Nat):Int) ((z.n.l:Nat):Int) z.A z.B z.n.ns.length z.c z.n.b.length z.d z.n.ns ⟨x.toArray⟩ (Go.Sort.grow (redrawn wc dq) os) (XN.out _ (zan NX.out dq os)) rfl (by have:=XL.out;omega)).mono fun q w' hh=>(⟨hh.1,hh.2.below⟩:q=.returned (.int .i64 (entF z.n.ns ⟨x.toArray⟩:Nat))∧Below (Go.Sort.grow (redrawn wc dq) os).heap.size (Go.Sort.grow (redrawn wc dq) os) w')));have HNX2:Hid (zad (nds es) ((g0.map baL).drop (k+1)) j (entF z.n.ns ⟨x.toArray⟩)=zad (nds es) (g0.map baL) 0 1):=HNX
            have HPX2:Hid (LkP (nds es) ((g0.map baL).take (k+1)) j (entF z.n.ns ⟨x.toArray⟩)):=HPX;have hlt6:entF z.n.ns ⟨x.toArray⟩≤65535:=hlt5;clear HNX HPX hlt5 HK HP HD HT HY hk1;generalize entF z.n.ns ⟨x.toArray⟩=en at *;generalize z.n.ns.length=zl at *
            have p0:=fun d os=>cell_regrown c0 d os
            have p1:=fun d os=>cell_regrown c1 d os
            have p2:=fun d os=>cell_regrown c2 d os
            have p3:=fun d os=>cell_regrown c3 d os
            have p4:=fun d os=>cell_regrown c4 d os
            have p5:=fun d os=>cell_regrown gc2 d os
            have s2:(k:Int) < (m:Int):=by omega
            have s3:(0:Int)≤(k:Int):=by omega
            clear c0 c2 c3 c4 gc gc2;go_wp2_with fail;refine wp_region_quiet_below (by kernel_rfl) (by kernel_rfl) ?_
            repeat (first|go_big_quiet_step (first|(go_at_call 68;exact CE.out _ _))|quiet_step (first|(go_at_call 68;exact CE.out _ _)))
            refine wpQuiet_nil ?_;intro _ hw';obtain⟨⟨dq,osq⟩,hw''⟩:=hw';subst hw'';have K9:Hid (New w1 (Go.Sort.grow (redrawn wc dq) osq)):=zan NX.out dq osq;clear CE p0 p1 p2 p3 p4 p5 c1 d1;go_wp2;go_roundw
            case rel=>exact⟨k+1,j,en,by omega,hlt6,by go_num,rfl,rfl,HNX2,HPX2,K9⟩
            case measure=>simp[intOf];omega
          · have d1:(((z.n.k:Nat):Int) != 1)=true:=bne_iff_ne.2 (by omega)
            have E9:Hid (Look3 w (zad (nds es) (g0.map baL) 0 1) (.returned (.tuple #[.int .i64 0,.int .i64 0,.int .i64 14])) wc):=by
              rw[←HK.out,HD.out,lookF_kind HY.out.2.1 HY.out.1 hk1];exact⟨rfl,N1.out.new NX.out⟩
            clear HK HP HD HT HY hk1;go_wp2;go_returns;exact E9.out
    · have E9:Hid (Look3 w (zad (nds es) (g0.map baL) 0 1) (.returned (.tuple #[.int .i64 (q:Nat),.int .i64 (j:Nat),.int .i64 0])) wr):=by
        rw[←HK.out,List.drop_of_length_le (by rw[List.length_map,LG.out];omega)];exact⟨rfl,N1.out.new HN.out⟩
      have hkm:k=m:=by omega
      subst hkm;clear HK HP;go_wp2;go_returns;exact E9.out
end
section
open Go.RowKit
def RowP (w:World) (p B:Nat) (A:Option Addr) (c:Nat) (L:List ND) (e:Ending) (w':World):Prop:=
 ∃es,e=.returned (.agg #[.int .i64 p,.slice A es.length c])∧nds es=L∧TOwn w' B A c es∧Kept (zak A) w w'
theorem ne_names (e:NE) (ns:List (ByteArray×Nat)) (A:Option Addr) (c m:Nat) (h:ns.length=m):({ e with n:={ e.n with ns:=ns },A:=A,c:=c }:NE).cells=e.cells.set 3 (.slice A m c):=by subst h;rfl
theorem upd_set {L:List ND} (ho:OrdN L) {k:Nat} {n:ND} (hn:L[k]?=some n) (f:ND→ND):updI L n.i f=L.set k (f n):=by
 induction L generalizing k with
 | nil=>simp at hn
 | cons m r ih=>
  obtain⟨h1,h2⟩:=zcd.1 ho
  cases k with
  | zero=>
   simp at hn;subst hn
   show (if m.i=m.i then f m else m)::updI r m.i f=_
   rw[if_pos rfl,upd_none f (fun hh=>by obtain⟨x,hx,e⟩:=zav.1 hh;have:=h1 x hx;omega)]
   rfl
  | succ k=>
   have hm:m.i≠n.i:=by have:=h1 n (List.mem_of_getElem? (by simpa using hn));omega
   show (if m.i=n.i then f m else m)::updI r n.i f=_
   rw[if_neg hm,ih h2 (by simpa using hn)]
   rfl
theorem TOwn.set {w w':World} {B g k:Nat} {c:Nat} {es:List NE} {x y:NE} {j:Nat} {u:Value} (h:TOwn w B (some ⟨g,0,none⟩) c es) (hx:es[k]?=some x) (hj:j < 5) (hy:y.cells=x.cells.set j u)
  (hw:w'=w.setCell ⟨g,k*5+j,none⟩ u) (hn:NOwn w' B y):TOwn w' B (some ⟨g,0,none⟩) c (es.set k y):=by
 have hk:k < es.length:=(List.getElem?_eq_some_iff.1 hx).1;obtain⟨⟨h1,h2,h3,h4⟩,h5⟩:=h
 have hKS:Kept (zak (some ⟨g,0,none⟩)) w w':=by
  rw[hw];exact kR.setCell (p:=⟨g,k*5+j,none⟩) (fun _=>⟨_,rfl,rfl⟩) u
 rcases h4 with ⟨h4,_⟩|⟨g',sp,e,hB,hblk,hs⟩
 ·cases h4
 ·injection e with e
  injection e with e _
  subst e;have hput:=hblk.put (k*5+j) u;rw[←hw] at hput
  have hlt:k*5+j < (nes es).length:=by rw[h1];omega
  rw[List.set_append_left _ _ hlt,flt_put zcy hx hj hy] at hput;refine⟨⟨by rw[flt_len zcy],by rw[List.length_set];exact h2,h3,.inr ⟨g,sp,rfl,hB,hput,by rw[flt_len zcy,List.length_set,←hs,h1]⟩⟩,fun e he=>?_⟩
  rcases List.mem_or_eq_of_mem_set he with he|rfl
  ·exact (h5 e he).kept hKS fun a ha=>by injection ha with ha;subst ha;exact hblk.at_
  ·exact hn
theorem nds_set (es:List NE) (k:Nat) (y:NE):nds (es.set k y)=(nds es).set k y.n:=by unfold nds;rw[List.map_set]
theorem nms_app (a b:List (ByteArray×Nat)):nms (a++b)=nms a++nms b:=zcp a b
theorem nmc_one (s:ByteArray) (j:Int):∀u∈[Value.string s,.int .i64 j],u.oneCell'=true:=by intro u hu;simp at hu;rcases hu with rfl|rfl<;>rfl
def plcN (nm:ByteArray) (ns:List (ByteArray×Nat)):Nat:=(ns.takeWhile fun e=>decide (cmpS e.1 nm < 0)).length
def wiA (nm:ByteArray) (j:Nat) (ns:List (ByteArray×Nat)) (t:Nat):List (ByteArray×Nat):=
 if t≤plcN nm ns then ns.take t else ns.take (plcN nm ns)++(nm,j)::(ns.take t).drop (plcN nm ns)
def wiB (nm:ByteArray) (j:Nat) (ns:List (ByteArray×Nat)) (t:Nat):List (ByteArray×Nat):=
 if t < plcN nm ns then ns.take t else ns.take (plcN nm ns)++(nm,j)::(ns.take t).drop (plcN nm ns)
theorem plc_le (nm:ByteArray) (ns:List (ByteArray×Nat)):plcN nm ns≤ns.length:=by
 unfold plcN
 induction ns with
 | nil=>simp
 | cons e r ih=>rw[List.takeWhile_cons];split<;>simp<;>omega
theorem plc_lt {nm:ByteArray} {ns:List (ByteArray×Nat)} (ho:OrdS ns) {t:Nat} {e:ByteArray×Nat} (he:ns[t]?=some e):cmpS e.1 nm < 0↔t < plcN nm ns:=by
 induction ns generalizing t with
 | nil=>simp at he
 | cons x r ih=>
  have hc:=List.pairwise_cons.1 ho;unfold plcN;rw[List.takeWhile_cons]
  by_cases hx:cmpS x.1 nm < 0
  ·rw[if_pos (by simpa using hx)]
   cases t with
   | zero=>simp at he;subst he;simp[hx]
   | succ t=>
    have:=ih hc.2 (t:=t) (by simpa using he)
    unfold plcN at this;rw[this];simp
  ·rw[if_neg (by simpa using hx)]
   cases t with
   | zero=>simp at he;subst he;simp;omega
   | succ t=>
    have hm:e∈r:=List.mem_of_getElem? (by simpa using he);simp only[List.length_nil,Nat.not_lt_zero,iff_false]
    exact fun h=>hx (cmpS_trans (hc.1 e hm) h)
theorem wiB_step {nm:ByteArray} {j:Nat} {ns:List (ByteArray×Nat)} {t:Nat} {e:ByteArray×Nat} (he:ns[t]?=some e):wiB nm j ns t++[e]=wiA nm j ns (t+1):=by
 have hlt:=(List.getElem?_eq_some_iff.1 he).1;unfold wiA wiB
 by_cases h:t < plcN nm ns
 ·rw[if_pos h,if_pos (by omega),List.take_add_one,he];rfl
 ·rw[if_neg h,if_neg (by omega),List.take_add_one,he,Option.toList_some,List.drop_append_of_le_length (by rw[List.length_take];omega)];simp
theorem wiA_put {nm:ByteArray} {j:Nat} {ns:List (ByteArray×Nat)} {t:Nat} (h:t=plcN nm ns):wiA nm j ns t++[(nm,j)]=wiB nm j ns t:=by
 unfold wiA wiB;rw[if_pos (by omega),if_neg (by omega),h,List.drop_of_length_le (by rw[List.length_take];omega)]
theorem wiA_same {nm:ByteArray} {j:Nat} {ns:List (ByteArray×Nat)} {t:Nat} (h:t≠plcN nm ns):wiA nm j ns t=wiB nm j ns t:=by
 unfold wiA wiB
 by_cases h1:t < plcN nm ns
 ·rw[if_pos (by omega),if_pos h1]
 ·rw[if_neg (by omega),if_neg h1]
theorem add_plc (nm:ByteArray) (j:Nat) (ns:List (ByteArray×Nat)):zcm nm j ns=ns.take (plcN nm ns)++(nm,j)::ns.drop (plcN nm ns):=by
 unfold zcm plcN
 congr 1
 ·induction ns with
  | nil=>rfl
  | cons e r ih=>rw[List.takeWhile_cons];split<;>simp[←ih]
 ·congr 1
  induction ns with
  | nil=>rfl
  | cons e r ih=>
   rw[List.dropWhile_cons,List.takeWhile_cons]
   by_cases h:decide (cmpS e.1 nm < 0)=true
   ·rw[if_pos h,if_pos h,ih];rfl
   ·rw[if_neg h,if_neg h];rfl
theorem wi_done {nm:ByteArray} {j:Nat} {ns:List (ByteArray×Nat)} (h:plcN nm ns < ns.length):wiA nm j ns ns.length=zcm nm j ns:=by
 unfold wiA;rw[if_neg (by omega),add_plc,List.take_length]
theorem wi_not {nm:ByteArray} {j:Nat} {ns:List (ByteArray×Nat)} (h:plcN nm ns=ns.length):wiA nm j ns ns.length++[(nm,j)]=zcm nm j ns:=by
 unfold wiA;rw[if_pos (by omega),add_plc,h,List.take_length,List.drop_length]
theorem TOwn.names {w1 u:World} {B gn c pj:Nat} {es:List NE} {X:NE} {ns':List (ByteArray×Nat)} {A5:Option Addr} {k5 c5:Nat} (h:TOwn w1 B (some ⟨gn,0,none⟩) c es) (hX:es[pj]?=some X) (hBw:B≤w1.heap.size)
  (ho:OwnV u 65 2 w1.heap.size A5 k5 c5 (nms ns')) (hl:ns'.length=k5) (hu:New w1 u):
  TOwn (u.setCell ⟨gn,pj*5+3,none⟩ (.slice A5 k5 c5)) B (some ⟨gn,0,none⟩) c (es.set pj { X with n:={ X.n with ns:=ns' },A:=A5,c:=c5 }):=by
 have hT:=h.new hu;have hat:At u gn 53:=(hT.1.at_ _ rfl).1;have hKS:Kept (·=gn) u (u.setCell ⟨gn,pj*5+3,none⟩ (.slice A5 k5 c5)):=Kept.set1 _ _ _ _;have hXo:=hT.2 X (List.mem_of_getElem? hX);refine TOwn.set hT hX (j:=3) (by omega) (ne_names X ns' A5 c5 k5 hl) rfl ⟨?_,?_⟩
 ·show OwnV _ 65 2 B A5 ns'.length c5 (nms ns')
  rw[hl]
  exact (ho.mono hBw).kept hKS fun a ha e2=>(ho.at_ a ha).1.ne_of hat (by decide) e2
 ·exact hXo.2.kept hKS fun a ha e2=>(hXo.2.at_ a ha).1.ne_of hat (by decide) e2
theorem with_fin {w w1 u:World} {p B gn n c pj gr:Nat} {es:List NE} {X:NE} {ns':List (ByteArray×Nat)} {A5:Option Addr} {k5 c5:Nat} (h:TOwn w1 B (some ⟨gn,0,none⟩) c es) (hX:es[pj]?=some X) (hn:es.length=n) (n1:New w w1) (hBw:B≤w1.heap.size)
  (hgr:w.heap.size≤gr) (hbr:Blk w1 gr 25 [.int .i64 0,.slice none 0 0]) (ho:OwnV u 65 2 w1.heap.size A5 k5 c5 (nms ns')) (hl:ns'.length=k5) (hu:New w1 u):
  RowP w p B (some ⟨gn,0,none⟩) c ((nds es).set pj { X.n with ns:=ns' }) (.returned (.agg #[.int .i64 p,.slice (some ⟨gn,0,none⟩) n c])) (((u.setCell ⟨gn,pj*5+3,none⟩ (.slice A5 k5 c5)).setCell ⟨gr,0,none⟩ (.int .i64 p)).setCell ⟨gr,1,none⟩ (.slice (some ⟨gn,0,none⟩) n c)) ∧
   Blk (((u.setCell ⟨gn,pj*5+3,none⟩ (.slice A5 k5 c5)).setCell ⟨gr,0,none⟩ (.int .i64 p)).setCell ⟨gr,1,none⟩ (.slice (some ⟨gn,0,none⟩) n c)) gr 25 [.int .i64 p,.slice (some ⟨gn,0,none⟩) n c]:=by
 have hT:=TOwn.names h hX hBw ho hl hu;have hat:At u gn 53:=((h.new hu).1.at_ _ rfl).1;have hbu:=hbr.kept hu id
 have hne:¬gr=gn:=fun e=>hbu.at_.ne_of hat (by decide) e
 have hKS:Kept (·=gn) u (u.setCell ⟨gn,pj*5+3,none⟩ (.slice A5 k5 c5)):=Kept.set1 _ _ _ _;have hb1:=hbu.kept hKS hne
 have hK2:Kept (·=gr) (u.setCell ⟨gn,pj*5+3,none⟩ (.slice A5 k5 c5)) (((u.setCell ⟨gn,pj*5+3,none⟩ (.slice A5 k5 c5)).setCell ⟨gr,0,none⟩ (.int .i64 p)).setCell ⟨gr,1,none⟩ (.slice (some ⟨gn,0,none⟩) n c)):=
  (Kept.set1 _ _ _ _).setCell (p:=⟨gr,1,none⟩) (fun _=>rfl) _
 refine⟨⟨_,?_,?_,TOwn.far hT hK2 hb1.at_ (by decide) (by decide) (by decide),?_⟩,(hb1.put 0 _).put 1 _⟩
 ·rw[List.length_set,hn]
 ·rw[nds_set]
 ·have a1:Kept (zak (some ⟨gn,0,none⟩)) w u:=(n1.new hu).mono fun _ _ f=>f.elim
  have a2:=a1.setCell (p:=⟨gn,pj*5+3,none⟩) (fun _=>⟨_,rfl,rfl⟩) (.slice A5 k5 c5);have a3:=a2.setCell (p:=⟨gr,0,none⟩) (fun hh=>absurd hh (Nat.not_lt.2 hgr)) (.int .i64 p);exact a3.setCell (p:=⟨gr,1,none⟩) (fun hh=>absurd hh (Nat.not_lt.2 hgr)) (.slice (some ⟨gn,0,none⟩) n c)
end
end Go.Proofs.YtjjamoemheljdaaGreat
