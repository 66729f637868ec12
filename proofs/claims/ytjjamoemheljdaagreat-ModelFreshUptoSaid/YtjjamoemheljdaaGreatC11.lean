/-
  Layer 7: contracts (Pi).
-/
import Derived.Test.YtjjamoemheljdaaGreatC10
namespace Go.Proofs.YtjjamoemheljdaaGreat
set_option maxRecDepth 100000
set_option maxHeartbeats 8000000
set_option linter.unusedSimpArgs false
set_option linter.unusedVariables false
section
open Go.RowKit
def sumF (f:Nat→Nat):List Nat→Nat
  | []=>0
  | j::r=>f j+sumF f r
theorem sumF_le {f g:Nat→Nat} (h:∀j,f j≤g j):∀(I:List Nat),sumF f I≤sumF g I
  | []=>Nat.le_refl _
  | j::r=>by have:=sumF_le h r;have:=h j;simp only[sumF];omega
theorem sumF_add (f g:Nat→Nat):∀(I:List Nat),sumF (fun j=>f j+g j) I=sumF f I+sumF g I
  | []=>rfl
  | j::r=>by have:=sumF_add f g r;simp only[sumF];omega
theorem sumF_one {f:Nat→Nat} {i:Nat}:∀{I:List Nat},i∈I→f i≤sumF f I
  | [],h=>by cases h
  | j::r,h=>by
    simp only[sumF]
    rcases List.mem_cons.1 h with rfl|h
    · omega
    · have:=sumF_one (f:=f) h;omega
theorem sumF_max {f:Nat→Nat} {m:Nat} (h:∀j,f j≤m):∀(I:List Nat),sumF f I≤m*I.length
  | []=>by simp[sumF]
  | j::r=>by have:=sumF_max h r;have:=h j;simp only[sumF,List.length_cons,Nat.mul_add];omega
theorem ns_sum (I:List Nat):∀(ns:List (ByteArray×Nat)),(∀e∈ns,e.2∈I)→ns.length≤sumF (cntN ns) I
  | [],_=>Nat.zero_le _
  | e::r,h=>by
    have ih:=ns_sum I r fun x hx=>h x (List.mem_cons_of_mem _ hx)
    have h1:(fun j=>cntN (e::r) j)=fun j=>cntN r j+if e.2=j then 1 else 0:=by
      funext j
      unfold cntN;rw[List.countP_cons];simp only[beq_iff_eq]
    have h2:=sumF_one (f:=fun j=>if e.2=j then 1 else 0) (h e (List.mem_cons_self ..));simp only[if_true] at h2
    show _≤sumF (fun j=>cntN (e::r) j) I
    rw[h1,sumF_add];simp only[List.length_cons];omega
theorem Rt.ns_le {T:TT} (h:Rt T) {n:ND} (hn:n∈T.l):n.ns.length≤288:=by
  have h1:=ns_sum (inos T.l) n.ns (h.ent n hn);have h2:=sumF_le (f:=cntN n.ns) (g:=cntL T.l) (fun j=>cntL_le hn j) (inos T.l)
  have h3:∀j,cntL T.l j≤6:=fun j=>by
    rw[h.cnt];unfold zar
    cases hj:ndI T.l j with
    | none=>simp
    | some m=>
      obtain⟨a,b⟩:=zaa hj;simp only
      split
      · omega
      · obtain⟨_,_,_,hh|hh⟩:=h.fin m a
        · omega
        · omega
  have h4:=sumF_max h3 (inos T.l)
  have h5:(inos T.l).length≤48:=by unfold inos;rw[List.length_map];exact h.len
  omega
theorem Rt.b_le {T:TT} (h:Rt T) {n:ND} (hn:n∈T.l):n.b.length≤2040:=by
  have:=h.p2
  obtain⟨_,_,_,hh|hh⟩:=h.fin n hn
  · rw[hh.2.2];simp
  · have:=hh.2.2.2.2;omega
theorem zay {es:List NE} {x:NE} (h:x∈es):x.n∈nds es:=List.mem_map_of_mem h
theorem noI_pos {L:List ND} {j:Nat} (h:j∈inos L):∃k:Nat,noI L j=(k:Int):=by
  obtain⟨n,hn⟩:=ndI_of h;exact⟨posI L j,by unfold noI;rw[hn]⟩
theorem zao (p:Nat) (A:Option Addr) (n c:Nat) (es:List NE) (w:World) (h:TIn w A es) (hn:es.length=n) (hR:Rt ⟨p,nds es⟩):
    Calls Tryz.prog 34 #[.agg #[.int .i64 p,.slice A n c]] w (zbt w true):=by
  have hs:∀e∈es,e.n.ns.length≤1000000:=fun e he=>by have:=hR.ns_le (zay he);omega
  obtain⟨d,hd⟩:=hR.dep
  have hm:n≤48:=by have:=hR.len;rwa [zab,hn] at this
  have hp1:=hR.p1;have hp2:=hR.p2;simp only at hp1 hp2;obtain⟨w1,hw1⟩:∃w1,w1=w.alloc (.cells #[.int .i64 p,.slice A n c] 25):=⟨_,rfl⟩;obtain⟨n1,hb⟩:=box2 hw1;have B:=jH hb;have H:=jH (h.new n1);have N1:=jH n1;have HW:=jH hw1;have LN:=jH hn;have RR:=jH hR
  have CF:Hid (∀x∈es,∀u,New w1 u→Calls Tryz.prog 65 #[.agg #[.int .i64 p,.slice A n c],.agg #[.int .i64 x.n.i,.int .u8 x.n.k,.int .i64 x.n.l,.slice x.A x.n.ns.length x.c,.slice x.B x.n.b.length x.d]] u
      fun e w'=>e=.returned (.bool true)∧Below u.heap.size u w'):=fun x hx u hu=>by
    have hr:=hR.rng x.n (zay hx)
    exact (rfine_any p A n c x.n.i x.n.k x.n.l x.n.ns x.n.b x.A x.c x.B x.d u (((h.new n1).new hu).2 x hx).1 (hR.fin x.n (zay hx)) hr.1 hr.2 (hs x hx) hp2 (by have:=hR.b_le (zay hx);omega)).mono fun e w' hh=>⟨hh.1,hh.2.below⟩
  have CC:Hid (∀(j:Nat) u,New w1 u→Calls Tryz.prog 66 #[.agg #[.int .i64 p,.slice A n c],.int .i64 (j:Nat)] u (zaw u ((zar (nds es) j:Nat):Int))):=fun j u hu=>by
    have:=rcount_any p A n c es j u ((h.new n1).new hu) hn (by omega) hs
    rwa [hR.cnt j] at this
  have CD:Hid (∀x∈es,x.n.k=1→∀u,New w1 u→Calls Tryz.prog 67 #[.agg #[.int .i64 p,.slice A n c],.int .i64 x.n.i] u (zaw u ((d x.n.i:Nat):Int))):=fun x hx hk u hu=>
    rdepth_any p A n c es x.n u ((h.new n1).new hu) hn hR hs d hd (zay hx) hk
  have CN:Hid (∀x∈es,∀e∈x.n.ns,∃k:Nat,∀u,New w1 u→Calls Tryz.prog 25 #[.agg #[.int .i64 p,.slice A n c],.int .i64 e.2] u
      fun q w'=>q=.returned (.int .i64 k)∧Below u.heap.size u w'):=fun x hx e he=>by
    obtain⟨k,hk⟩:=noI_pos (hR.ent x.n (zay hx) e he);exact⟨k,fun u hu=>(zam p A n c es e.2 u ((h.new n1).new hu) hn (by omega)).mono fun q w' hh=>⟨by rw[hh.1,hk],hh.2.below⟩⟩
  have HD:=jH hd;clear h n1 hw1 hb hn hs hd
  have ROOT:Hid (∀u,New w1 u→∃g o,A=some ⟨g,o,none⟩∧u.cell? ⟨g,o,none⟩=some (.int .i64 1)∧u.cell? ⟨g,o+1,none⟩=some (.int .u8 1)):=fun u hu=>by
    obtain⟨r,t,e,e1,e2⟩:=hR.root
    cases hes:es with
    | nil=>rw[hes] at e;cases e
    | cons x xs=>
      rw[hes] at e
      injection e with e _
      have e:x.n=r:=e;obtain⟨g,o,y,eA,hy,_,y0,y1,_⟩:=(H.out.new hu).at_ (i:=0) (by rw[hes];simp);rw[hes] at hy;simp at hy;subst hy;rw[e,e1] at y0;rw[e,e2] at y1;refine⟨g,o,eA,?_,?_⟩
      · simpa using y0
      · simpa using y1
  have hn1:1≤n:=by
    obtain⟨r,t,e,_⟩:=hR.root;have e:nds es=r::t:=e;rw[←LN.out,←zab,e];simp
  clear hR;go_enter Tryz.func34,Tryz.ntmps34;go_wp2_with fail;rw[←HW.out];clear HW;generalize w.heap.size=gk at *;obtain⟨g,o,eA,r0,r1⟩:=ROOT.out w1 kR;obtain⟨b0,b1⟩:=B.out w1 kR;subst eA;have d1:decide (((p:Nat):Int) < 1)=false:=decide_eq_false (by omega);have d2:decide ((255:Int) < ((p:Nat):Int))=false:=decide_eq_false (by omega);have d3:decide (((n:Nat):Int) < 1)=false:=decide_eq_false (by omega);have d4:decide ((48:Int) < ((n:Nat):Int))=false:=decide_eq_false (by omega)
  have d5:∀u,(Instr.indexAt 23 (.slice (some ⟨g,o,none⟩) n c) (.int .i64 0)).run Tryz.prog u=.ok (.pointer (some ⟨g,o,none⟩)) u:=fun u=>by
    have h0:(0:Int)≤0∧(0:Int) < (n:Int):=⟨Int.le_refl _,by omega⟩;rw[run_indexAt_slice (P:=Tryz.prog) u 23 ⟨g,o,none⟩ n c .i64 0 (by kernel_rfl),if_pos h0]
    rfl
  go_wp2_with fail;rw[d5 w1];go_wp2_with fail;clear r0 r1 b0 b1 d1 d2 d3 d4 d5
  go_loopw [3] (fun q wr=>∃t:Nat,t≤n∧q=.int .i64 t∧Hid (New w1 wr)) (fun q _=>n - (intOf q).toNat)
  case atStart=>exact⟨0,Nat.zero_le _,rfl,kR⟩
  case round=>
    obtain⟨t,ht,rfl,HN⟩:=hrel
    by_cases hlt:t < n
    · obtain⟨x,hx⟩:∃x,es[t]?=some x:=⟨_,List.getElem?_eq_getElem (by rw[LN.out];exact hlt)⟩
      have hxm:=List.mem_of_getElem? hx;obtain⟨w3,hw3⟩:∃w3,w3=wr.alloc (.cells #[.int .i64 x.n.i,.int .u8 x.n.k,.int .i64 x.n.l,.slice x.A x.n.ns.length x.c,.slice x.B x.n.b.length x.d] 53):=⟨_,rfl⟩;obtain⟨n3,hb3⟩:=box5 hw3;obtain⟨_,x0,x1,x2,x3,x4⟩:=(H.out.new HN.out).get hx;obtain⟨b0,b1⟩:=B.out wr HN.out;have HN3:Hid (New w1 w3):=HN.out.new n3;have HW3:=jH hw3;have B3:=jH hb3;have HXL:Hid (decide ((300:Int) < (x.n.ns.length:Nat))=false):=decide_eq_false (by have:=RR.out.ns_le (zay hxm);omega)
      have HPRE:Hid (∀s,t=s+1→∃y,es[s]?=some y∧y.n.i < x.n.i):=fun s hs=>by
        obtain⟨y,hy⟩:∃y,es[s]?=some y:=⟨_,List.getElem?_eq_getElem (by rw[LN.out];omega)⟩;exact⟨y,hy,ordN_at RR.out.ord (i:=s) (j:=t) (by omega) (zbc hy) (zbc hx)⟩
      have CF3:=jH (fun u hu=>CF.out x hxm u (HN3.out.new hu));have cB:=jH (fun (dq:Nat) (os:Array Obj)=>Calls.regrown_of (d:=dq) (os:=os) (CF3.out (Go.Sort.grow (redrawn w3 dq) os) (zan kR dq os)));clear n3 hw3 hb3 hx hxm;go_wp2_with fail;rw[←HW3.out];clear HW3 x0 x1 x2 x3 x4 b0 b1;generalize wr.heap.size=gx at *;obtain⟨x0,x1,x2,x3,x4⟩:=B3.out w3 kR;obtain⟨b0,b1⟩:=B.out w3 HN3.out;generalize hxl:x.n.ns.length=xl at *
      have p0:=fun d os=>cell_regrown x0 d os
      have p1:=fun d os=>cell_regrown x1 d os
      have p2:=fun d os=>cell_regrown x2 d os
      have p3:=fun d os=>cell_regrown x3 d os
      have p4:=fun d os=>cell_regrown x4 d os
      have q0:=fun d os=>cell_regrown b0 d os
      have q1:=fun d os=>cell_regrown b1 d os
      have e1:=HXL.out
      rcases Nat.eq_zero_or_pos t with h0|h0
      · have s2:decide (0 < t)=false:=decide_eq_false (by omega)
        clear h0 x0 x1 x2 x3 x4 b0 b1 HPRE;refine wp_region_quiet_below (by kernel_rfl) (by kernel_rfl) ?_
        repeat (first|go_big_quiet_step (first|(go_at_call 65;exact cB.out _ _))|quiet_step (first|(go_at_call 65;exact cB.out _ _)))
        refine wpQuiet_nil ?_;intro _ hw';obtain⟨⟨dq,osq⟩,hw''⟩:=hw';subst hw'';have K9:Hid (New w1 (Go.Sort.grow (redrawn w3 dq) osq)):=zan HN3.out dq osq;clear cB p0 p1 p2 p3 p4 q0 q1 e1 s2 CF3;go_wp2;go_roundw
        case rel=>exact⟨t+1,by omega,by go_num,K9⟩
        case measure=>simp[intOf];omega
      · obtain⟨s,rfl⟩:∃s,t=s+1:=⟨t - 1,by omega⟩
        obtain⟨y,hy,hyx⟩:=HPRE.out s rfl;obtain⟨_,y0,_⟩:=(H.out.new HN3.out).get hy
        have p5:=fun d os=>cell_regrown y0 d os
        have s0:IntKind.i64.wrap (s:Int)=(s:Int):=by rw[IntKind.wrap_i64];omega
        have s1:(0:Int)≤(s:Int)+1:=by omega
        have s2:((s:Int)+1).toNat=s+1:=by omega
        have s3:(s:Int) < (n:Int):=by omega
        have s4:(s:Int)+1 < (n:Int):=by omega
        have s5:(0:Int) < (s:Int)+1:=by omega
        have s6:decide (x.n.i≤y.n.i)=false:=decide_eq_false (by omega);have s7:decide (((x.n.i:Nat):Int)≤((y.n.i:Nat):Int))=false:=decide_eq_false (by omega);clear x0 x1 x2 x3 x4 b0 b1 HPRE hy hyx y0 h0;refine wp_region_quiet_below (by kernel_rfl) (by kernel_rfl) ?_
        repeat (first|go_big_quiet_step (first|(go_at_call 65;exact cB.out _ _))|quiet_step (first|(go_at_call 65;exact cB.out _ _)))
        refine wpQuiet_nil ?_;intro _ hw';obtain⟨⟨dq,osq⟩,hw''⟩:=hw';subst hw'';have K9:Hid (New w1 (Go.Sort.grow (redrawn w3 dq) osq)):=zan HN3.out dq osq;clear cB p0 p1 p2 p3 p4 p5 q0 q1 e1 s2 CF3 s0 s1 s3 s4 s5 s6 s7;go_wp2;go_roundw
        case rel=>exact⟨s+2,by omega,by go_num,K9⟩
        case measure=>simp[intOf];omega
    · obtain rfl:t=n:=by omega
      obtain⟨b0,b1⟩:=B.out wr HN.out;go_wp2_with fail;clear b0 b1 CF ROOT
      go_loopw [5] (fun q wx=>∃k:Nat,k≤t∧q=.int .i64 k∧Hid (New w1 wx)) (fun q _=>t - (intOf q).toNat)
      case atStart=>exact⟨0,Nat.zero_le _,rfl,HN⟩
      case round=>
        obtain⟨k,hk,rfl,HK⟩:=hrel;clear HN
        by_cases hlt2:k < t
        · obtain⟨x,hx⟩:∃x,es[k]?=some x:=⟨_,List.getElem?_eq_getElem (by rw[LN.out];exact hlt2)⟩
          have hxm:=List.mem_of_getElem? hx;obtain⟨w3,hw3⟩:∃w3,w3=wr.alloc (.cells #[.int .i64 x.n.i,.int .u8 x.n.k,.int .i64 x.n.l,.slice x.A x.n.ns.length x.c,.slice x.B x.n.b.length x.d] 53):=⟨_,rfl⟩;obtain⟨n3,hb3⟩:=box5 hw3;obtain⟨_,x0,x1,x2,x3,x4⟩:=(H.out.new HK.out).get hx;obtain⟨b0,b1⟩:=B.out wr HK.out;have HN3:Hid (New w1 w3):=HK.out.new n3;have HW3:=jH hw3;have B3:=jH hb3;have HX:=jH hxm;have HXL:Hid (x.n.ns.length≤288):=RR.out.ns_le (zay hxm);have HZ:Hid (zar (nds es) x.n.i=if x.n.i=1 then 0 else x.n.l):=want_of RR.out.ord (zay hxm);have CCx:=jH (fun (u:World) (hu:New w3 u)=>CC.out x.n.i u (HN3.out.new hu))
          generalize zar (nds es) x.n.i=z at CCx HZ
          have hcase:((((x.n.i:Nat):Int) == 1)=true∧z=0)∨((((x.n.i:Nat):Int) == 1)=false∧z=x.n.l):=by
            have:=HZ.out
            by_cases h1:x.n.i=1
            · rw[if_pos h1] at this;exact .inl ⟨beq_iff_eq.2 (by omega),this⟩
            · rw[if_neg h1] at this;exact .inr ⟨beq_eq_false_iff_ne.2 (by omega),this⟩
          have HKD:Hid (x.n.k=1∨x.n.k≠1∧x.n.ns.length=0):=by
            by_cases h1:x.n.k=1
            · exact .inl h1
            · exact .inr ⟨h1,by rw[(zbd (RR.out.fin x.n (zay hxm)) h1).2.2.2.1];rfl⟩
          have HD6:Hid (x.n.k=1→d x.n.i≤6∧(0 < x.n.ns.length→d x.n.i+1≤6)):=fun h1=>by
            refine⟨(root_dep RR.out HD.out (zay hxm) h1).1,fun h2=>?_⟩;exact (HD.out.2 x.n (zay hxm) _ (List.getElem_mem h2)).1
          have CDx:=jH (fun h1 u hu=>CD.out x hxm h1 u hu);have CNx:=jH (fun e he=>CN.out x hxm e he)
          have XN:Hid (∀u,New w1 u→NmIn u x.A x.n.ns):=fun u hu=>((H.out.new hu).2 x hxm).1
          clear n3 hw3 hb3 hx hxm HZ CD CN CC;have hgk:gk < wr.heap.size:=World.block_lt_of_cell? wr _ b0
          rcases hcase with ⟨e1,rfl⟩|⟨e1,rfl⟩
          all_goals
            go_wp2_with fail;rw[←HW3.out];clear HW3 x0 x1 x2 x3 x4 b0 b1 hgk;generalize wr.heap.size=gx at *;refine (CCx.out w3 kR).mono ?_;rintro e w4 ⟨rfl,k4⟩;have K4:=jH k4;clear k4 CCx;have HN4:Hid (New w1 w4):=HN3.out.new K4.out;obtain⟨x0,x1,x2,x3,x4⟩:=B3.out w4 K4.out;obtain⟨b0,b1⟩:=B.out w4 HN4.out
            have DIR:Hid (x.n.k=1∧(((x.n.k:Nat):Int) == 1)=true∧d x.n.i≤6∨(((x.n.k:Nat):Int) == 1)=false):=by
              rcases HKD.out with h|⟨h,_⟩
              · exact .inl ⟨h,beq_iff_eq.2 (by omega),(HD6.out h).1⟩
              · exact .inr (beq_eq_false_iff_ne.2 (by omega))
            have LOW:Hid (0 < x.n.ns.length→∃dx:Nat,dx < 6∧∀u,New w1 u→Calls Tryz.prog 67 #[.agg #[.int .i64 p,.slice (some ⟨g,o,none⟩) t c],.int .i64 x.n.i] u fun q w'=>q=.returned (.int .i64 dx)∧Below u.heap.size u w'):=by
              intro h0
              rcases HKD.out with h|⟨_,h⟩
              · exact⟨d x.n.i,by have:=(HD6.out h).2 h0;omega,fun u hu=>(CDx.out h u hu).mono fun q w' hh=>⟨hh.1,hh.2.below⟩⟩
              · omega
            rcases DIR.out with ⟨hk1,e3,e4⟩|e3
            all_goals
              first
                | (have CDy:=jH (CDx.out hk1)
                   have e5:decide ((6:Int) < ((d x.n.i:Nat):Int))=false:=decide_eq_false (by omega);generalize d x.n.i=dd at CDy e5;go_wp2_with fail;refine (CDy.out w4 HN4.out).mono ?_;rintro e w5 ⟨rfl,k5⟩;have K5:Hid (New w3 w5):=K4.out.new k5;clear k5 CDy e4 hk1 x0 x1 x2 x3 x4 b0 b1 K4 HN4;go_wp2_with fail
                   clear e5)
                | (have K5:Hid (New w3 w4):=K4.out
                   clear K4 HN4
                   go_wp2_with fail)
            all_goals
              clear e1 e3 DIR HKD HD6
              go_loopw [8] (fun q wy=>∃m:Nat,m≤x.n.ns.length∧q=.int .i64 m∧Hid (New w3 wy)) (fun q _=>x.n.ns.length - (intOf q).toNat)
              case atStart=>exact⟨0,Nat.zero_le _,rfl,K5⟩
              case round=>
                obtain⟨m,hm3,rfl,HK3⟩:=hrel;have HN6:Hid (New w1 wr):=HN3.out.new HK3.out;obtain⟨x0,x1,x2,x3,x4⟩:=B3.out wr HK3.out;obtain⟨b0,b1⟩:=B.out wr HN6.out;have hx288:=HXL.out
                by_cases hlt3:m < x.n.ns.length
                · obtain⟨dx,e6,CL⟩:=LOW.out (by omega)
                  obtain⟨g2,o2,e,eA2,he⟩:=NmIn.pos (XN.out wr HN6.out) (i:=m) hlt3;obtain⟨k0,CK⟩:=CNx.out e (List.mem_of_getElem? he)
                  have y1:wr.cell? ⟨g2,o2+m*2+1,none⟩=some (.int .i64 e.2):=by
                    have:=XN.out wr HN6.out
                    rw[eA2] at this;exact (NmIn.get this he).2
                  rw[eA2] at x3;generalize x.n.ns.length=xl at *
                  have p0:=fun d os=>cell_regrown x0 d os
                  have p3:=fun d os=>cell_regrown x3 d os
                  have p5:=fun d os=>cell_regrown y1 d os
                  have q0:=fun d os=>cell_regrown b0 d os
                  have q1:=fun d os=>cell_regrown b1 d os
                  have cL:=jH (fun (dq:Nat) (os:Array Obj)=>Calls.regrown_of (d:=dq) (os:=os) (CL (Go.Sort.grow (redrawn wr dq) os) (zan HN6.out dq os)));have cN:=jH (fun (dq:Nat) (os:Array Obj)=>Calls.regrown_of (d:=dq) (os:=os) (CK (Go.Sort.grow (redrawn wr dq) os) (zan HN6.out dq os)))
                  have s3:(m:Int) < (xl:Int):=by omega
                  have s4:decide (((k0:Nat):Int) < 0)=false:=decide_eq_false (by omega);have s5:decide ((6:Int)≤((dx:Nat):Int))=false:=decide_eq_false (by omega);have s6:decide (6≤dx)=false:=decide_eq_false (by omega);clear x0 x1 x2 x4 b0 b1 he CL CK y1 eA2 LOW CNx e6;go_wp2_with fail;refine wp_region_quiet_below (by kernel_rfl) (by kernel_rfl) ?_
                  repeat (first|go_big_quiet_step (first|(go_at_call 25;exact cN.out _ _)|(go_at_call 67;exact cL.out _ _))|quiet_step (first|(go_at_call 25;exact cN.out _ _)|(go_at_call 67;exact cL.out _ _)))
                  refine wpQuiet_nil ?_;intro _ hw';obtain⟨⟨dq,osq⟩,hw''⟩:=hw';subst hw'';have K9:Hid (New w3 (Go.Sort.grow (redrawn wr dq) osq)):=zan HK3.out dq osq;clear cN cL p0 p3 p5 q0 q1 s3 s4 s5 s6;go_wp2;go_roundw
                  case rel=>exact⟨m+1,by omega,by go_num,K9⟩
                  case measure=>simp[intOf];omega
                · obtain hml:x.n.ns.length=m:=by omega
                  rw[hml] at x3;clear LOW CNx hml hlt3 hm3;have HN7:=jH HN6.out;go_wp2_with fail;go_roundw
                  case rel=>exact⟨k+1,by omega,by go_num,HN7⟩
                  case measure=>simp[intOf];omega
        · obtain rfl:k=t:=by omega
          obtain⟨b0,b1⟩:=B.out wr HK.out;go_wp2;go_ret;exact⟨rfl,N1.out.new HK.out⟩
end
end Go.Proofs.YtjjamoemheljdaaGreat
