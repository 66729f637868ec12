/-
  Layer 7: contracts (Pr Pn Ps Pt Wb Py).
-/
import Derived.Test.YtjjamoemheljdaaGreatC13
import Derived.Test.YtjjamoemheljdaaGreatC06
namespace Go.Proofs.YtjjamoemheljdaaGreat
set_option maxRecDepth 100000
set_option maxHeartbeats 8000000
set_option linter.unusedSimpArgs false
set_option linter.unusedVariables false
section
open Go.RowKit
structure AE where
 a:AN
 B:Option Addr
 d:Nat
 T:Option Addr
 c:Nat
def AN.g (a:AN):List (List UInt8):=a.ns.map (·.data.toList)
def AIn (w:World) (x:AE):Prop:=Bts w x.B x.a.b.length x.a.b∧Txs w x.T x.a.ns.length x.a.g
theorem AIn.new {w w':World} {x:AE} (h:AIn w x) (hk:New w w'):AIn w' x:=⟨h.1.new hk,h.2.new hk⟩
theorem node_eql (k:Nat) (l z:Int) (w:World):
  Sem.run Tryz.prog (binOp .eql 38 (.agg #[.int .u8 (k:Nat),.int .i64 l,.int .i64 z]) (.agg #[.int .u8 (k:Nat),.int .i64 l,.int .i64 z])) w=.ok (.bool true) w:=by
 have hS:Tryz.prog.underlying 38=some (.struct (Tryz.prog.fieldsOf 38)):=by kernel_rfl
 have hp:Tryz.prog.stoodInHeld 38=false:=by kernel_rfl
 rw[run_eql_struct,show (10000:Nat)=9999+1 from rfl,run_equalIn_agg w 9999 38 _ _ hS hp];simp only[Program.fieldsOf,Tryz.underlying38]
 go_simp
theorem ranswers_any (a:AN) (B1 B2 T1 T2:Option Addr) (d1 d2 c1 c2:Nat) (w:World) (h1:AIn w ⟨a,B1,d1,T1,c1⟩) (h2:AIn w ⟨a,B2,d2,T2,c2⟩) (hb:a.b.length≤1000000) (hs:a.ns.length≤1000000):
  Calls Tryz.prog 18
   #[.agg #[.int .i64 a.e,.int .i64 a.i,.int .i64 a.n,.int .u8 a.k,.int .i64 a.l,.int .i64 a.s,.slice B1 a.b.length d1,.slice T1 a.ns.length c1],
    .agg #[.int .i64 a.e,.int .i64 a.i,.int .i64 a.n,.int .u8 a.k,.int .i64 a.l,.int .i64 a.s,.slice B2 a.b.length d2,.slice T2 a.ns.length c2]] w (zbt w true):=by
 have CS:Hid (∀u,New w u→Calls Tryz.prog 24 #[.slice B1 a.b.length d1,.slice B2 a.b.length d2] u (Quiet u true)):=fun u hu=>same_eq B1 B2 a.b.length d1 d2 a.b u (h1.1.new hu) (h2.1.new hu) (by unfold maxLen;omega)
 have CT:Hid (∀u,New w u→Calls Tryz.prog 42 #[.slice T1 a.ns.length c1,.slice T2 a.ns.length c2] u (QuietT u true)):=fun u hu=>by
  have:=texts_any T1 T2 a.ns.length a.ns.length c1 c2 a.g a.g u (h1.2.new hu) (h2.2.new hu) (by unfold maxLen;omega)
  rwa [decide_eq_true rfl] at this
 have HEQ:=fun u=>node_eql a.k ((a.l:Nat):Int) ((a.s:Nat):Int) u
 clear h1 h2;generalize a.b.length=bl at *;generalize a.ns.length=tl at *;obtain⟨w2,hw2⟩:∃w2,w2=(w.alloc (.cells #[.int .i64 a.e,.int .i64 a.i,.int .i64 a.n,.int .u8 a.k,.int .i64 a.l,.int .i64 a.s,.slice B1 bl d1,.slice T1 tl c1] 41)).alloc (.cells #[.int .i64 a.e,.int .i64 a.i,.int .i64 a.n,.int .u8 a.k,.int .i64 a.l,.int .i64 a.s,.slice B2 bl d2,.slice T2 tl c2] 41):=⟨_,rfl⟩
 have K2:Hid (New w w2):=by rw[hw2];exact (kR.alloc _).alloc _
 have X1:Hid (∀u,New w2 u→Blk u w.heap.size 41 [.int .i64 a.e,.int .i64 a.i,.int .i64 a.n,.int .u8 a.k,.int .i64 a.l,.int .i64 a.s,.slice B1 bl d1,.slice T1 tl c1]):=fun u hu=>by
  have:Blk w2 w.heap.size 41 [.int .i64 a.e,.int .i64 a.i,.int .i64 a.n,.int .u8 a.k,.int .i64 a.l,.int .i64 a.s,.slice B1 bl d1,.slice T1 tl c1]:=by rw[hw2];exact (Blk.made w _ _).alloc _
  exact this.kept hu id
 have X2:Hid (∀u,New w2 u→Blk u (w.heap.size+1) 41 [.int .i64 a.e,.int .i64 a.i,.int .i64 a.n,.int .u8 a.k,.int .i64 a.l,.int .i64 a.s,.slice B2 bl d2,.slice T2 tl c2]):=fun u hu=>by
  have h:=Blk.made (w.alloc (.cells #[.int .i64 a.e,.int .i64 a.i,.int .i64 a.n,.int .u8 a.k,.int .i64 a.l,.int .i64 a.s,.slice B1 bl d1,.slice T1 tl c1] 41)) 41 #[.int .i64 a.e,.int .i64 a.i,.int .i64 a.n,.int .u8 a.k,.int .i64 a.l,.int .i64 a.s,.slice B2 bl d2,.slice T2 tl c2];rw[World.size_alloc] at h;rw[←hw2] at h;exact h.kept hu id
 have HW:=jH hw2;clear hw2;go_enter Tryz.func18,Tryz.ntmps18;go_wp2_with fail;rw[←HW.out];clear HW;generalize w.heap.size=gk at *;have p4:=(X1.out w2 kR).q6;have q4:=(X2.out w2 kR).q6;refine (CS.out w2 K2.out).mono ?_;rintro e w3 ⟨dq,rfl,hw3⟩
 have K3:Hid (New w2 w3):=by rw[hw3];exact kR.drewN dq
 clear hw3 p4 q4;have p5:=(X1.out w3 K3.out).q7;have q5:=(X2.out w3 K3.out).q7;go_wp2_with fail;refine (CT.out w3 (K2.out.new K3.out)).mono ?_;rintro e w4 ⟨dq,rfl,hw4⟩
 have K4:Hid (New w2 w4):=by rw[hw4];exact K3.out.drewN dq
 clear hw4;go_wp2;go_ret;exact⟨rfl,K2.out.new K4.out⟩
end
section
open Go.RowKit
def RowQ (w:World) (p B:Nat) (A:Option Addr) (L:List ND) (e:Ending) (w':World):Prop:=
 ∃A' c' es,e=.returned (.agg #[.int .i64 p,.slice A' es.length c'])∧nds es=L∧TOwn w' B A' c' es∧Kept (zak A) w w'∧(A'=A∨∀a,A'=some a→w.heap.size≤a.block)
theorem RowP.q {w w':World} {p B c:Nat} {A:Option Addr} {L:List ND} {e:Ending} (h:RowP w p B A c L e w'):RowQ w p B A L e w':=by
 obtain⟨es,h1,h2,h3,h4⟩:=h;exact⟨A,c,es,h1,h2,h3,h4,.inl rfl⟩
theorem del_take_eq {nm:ByteArray} {ns:List (ByteArray×Nat)} {t:Nat} {e:ByteArray×Nat} (he:ns[t]?=some e):zaq nm (ns.take (t+1))=if e.1=nm then zaq nm (ns.take t) else zaq nm (ns.take t)++[e]:=by
 unfold zaq;rw[List.take_add_one,he,Option.toList_some,List.filter_append]
 by_cases h:e.1=nm
 ·rw[if_pos h,List.filter_cons,if_neg (by simpa using h)];simp
 ·rw[if_neg h,List.filter_cons,if_pos (by simpa using h)];simp
theorem entF_app (a:List (ByteArray×Nat)) (e:ByteArray×Nat) (nm:ByteArray) (h:¬zbn nm a):entF (a++[e]) nm=if e.1=nm then e.2 else 0:=by
 induction a with
 | nil=>rfl
 | cons x r ih=>
  have hx:x.1≠nm:=fun e=>h ⟨x,List.mem_cons_self ..,e⟩
  rw[List.cons_append,entF,if_neg hx]
  exact ih fun ⟨y,hy,hh⟩=>h ⟨y,List.mem_cons_of_mem _ hy,hh⟩
theorem entF_app2 (a:List (ByteArray×Nat)) (e:ByteArray×Nat) (nm:ByteArray) (h:e.1≠nm):entF (a++[e]) nm=entF a nm:=by
 induction a with
 | nil=>show (if e.1=nm then e.2 else 0)=0;rw[if_neg h]
 | cons x r ih=>
  rw[List.cons_append,entF,entF]
  by_cases hx:x.1=nm
  ·rw[if_pos hx,if_pos hx]
  ·rw[if_neg hx,if_neg hx,ih]
theorem entF_take {nm:ByteArray} {ns:List (ByteArray×Nat)} (ho:OrdS ns) {t:Nat} {e:ByteArray×Nat} (he:ns[t]?=some e):entF (ns.take (t+1)) nm=if e.1=nm then e.2 else entF (ns.take t) nm:=by
 rw[List.take_add_one,he,Option.toList_some]
 by_cases h:e.1=nm
 ·rw[if_pos h,entF_app _ _ _ ?_,if_pos h];rintro ⟨x,hx,hh⟩;obtain⟨i,hi⟩:=List.mem_iff_getElem?.1 hx
  have hit:i < t:=by have:=(List.getElem?_eq_some_iff.1 hi).1;rw[List.length_take] at this;omega
  have hi2:ns[i]?=some x:=by rw[List.getElem?_take,if_pos hit] at hi;exact hi
  have:=ordS_at ho hit hi2 he
  rw[hh,h] at this;exact cmpS_irr _ this
 ·rw[if_neg h,entF_app2 _ _ _ h]
def lsN (v:Nat) (L:List ND):List ND:=(L.map fun n=>if n.i=v then { n with l:=n.l - 1 } else n).filter fun n=>decide (0 < n.l)
theorem lsN_app (v:Nat) (L:List ND) (n:ND):lsN v (L++[n])=lsN v L++(if 0 < (if n.i=v then n.l - 1 else n.l) then [if n.i=v then { n with l:=n.l - 1 } else n] else []):=by
 unfold lsN;rw[List.map_append,List.filter_append]
 congr 1
 by_cases h:n.i=v
 ·simp only[List.map_cons,List.map_nil,if_pos h,List.filter_cons,List.filter_nil,decide_eq_true_eq]
 ·simp only[List.map_cons,List.map_nil,if_neg h,List.filter_cons,List.filter_nil,decide_eq_true_eq]
theorem lsN_lose {L:List ND} (ho:OrdN L) {n:ND} (hn:n∈L) (hl:∀m∈L,1≤m.l):lsN n.i L=if n.l=1 then remI L n.i else lnkE L n.i (n.l - 1):=by
 unfold lsN remI lnkE updI
 by_cases h1:n.l=1
 ·rw[if_pos h1,List.filter_map]
  have:∀m∈L,((fun m:ND=>decide (0 < m.l)) ∘ fun m=>if m.i=n.i then { m with l:=m.l - 1 } else m) m=decide (m.i≠n.i):=by
   intro m hm;simp only[Function.comp]
   by_cases h:m.i=n.i
   ·have:=zbe ho hm hn h
    subst this;simp[h1]
   ·simp[h]
    have:=hl m hm
    omega
  rw[List.filter_congr this]
  conv=>rhs;rw[←List.map_id (List.filter _ L)]
  apply List.map_congr_left
  intro m hm;have hm2:=(List.mem_filter.1 hm).2;rw[if_neg (by simpa using hm2)]
  rfl
 ·rw[if_neg h1];rw[List.filter_eq_self.2]
  ·apply List.map_congr_left
   intro m hm
   by_cases h:m.i=n.i
   ·have:=zbe ho hm hn h
    subst this
    rfl
   ·rw[if_neg h,if_neg h]
  ·intro m hm;obtain⟨x,hx,rfl⟩:=List.mem_map.1 hm
   have:=hl x hx
   by_cases h:x.i=n.i
   ·have:=zbe ho hx hn h
    subst this;simp;omega
   ·simp[h];omega
end
section
open Go.RowKit
theorem nm_neq (s:ByteArray) (v:Int) (w:World):
  Sem.run Tryz.prog (binOp .neq 65 (.agg #[.string s,.int .i64 v]) (.agg #[.string s,.int .i64 v])) w=.ok (.bool false) w:=by
 have hS:Tryz.prog.underlying 65=some (.struct (Tryz.prog.fieldsOf 65)):=by kernel_rfl
 have hp:Tryz.prog.stoodInHeld 65=false:=by kernel_rfl
 rw[run_neq_struct,show (10000:Nat)=9999+1 from rfl,run_equalIn_agg w 9999 65 _ _ hS hp];simp only[Program.fieldsOf,Tryz.underlying65]
 go_simp
theorem rsame_any (p:Nat) (A1 A2:Option Addr) (n c1 c2:Nat) (es1 es2:List NE) (w:World) (h1:TIn w A1 es1) (h2:TIn w A2 es2) (hn1:es1.length=n) (hn2:es2.length=n) (he:nds es1=nds es2) (hm:n≤1000) (hl:∀x∈es1,x.n.ns.length≤1000000∧x.n.b.length≤1000000):
  Calls Tryz.prog 12 #[.agg #[.int .i64 p,.slice A1 n c1],.agg #[.int .i64 p,.slice A2 n c2]] w (zbt w true):=by
 obtain⟨w1,hw1⟩:∃w1,w1=(w.alloc (.cells #[.int .i64 p,.slice A1 n c1] 25)).alloc (.cells #[.int .i64 p,.slice A2 n c2] 25):=⟨_,rfl⟩
 have n1:New w w1:=by rw[hw1];exact (kR.alloc _).alloc _
 have BT:Hid (∀u,New w1 u→u.cell? ⟨w.heap.size,0,none⟩=some (.int .i64 p)∧u.cell? ⟨w.heap.size,1,none⟩=some (.slice A1 n c1)):=fun u hu=>by
  have:Blk w1 w.heap.size 25 [.int .i64 p,.slice A1 n c1]:=by rw[hw1];exact (Blk.made w _ _).alloc _
  have:=this.kept hu id
  exact⟨this.cell 0,this.cell 1⟩
 have BS:Hid (∀u,New w1 u→u.cell? ⟨w.heap.size+1,0,none⟩=some (.int .i64 p)∧u.cell? ⟨w.heap.size+1,1,none⟩=some (.slice A2 n c2)):=fun u hu=>by
  have h:=Blk.made (w.alloc (.cells #[.int .i64 p,.slice A1 n c1] 25)) 25 #[.int .i64 p,.slice A2 n c2];rw[World.size_alloc,←hw1] at h
  have:=h.kept hu id
  exact⟨this.cell 0,this.cell 1⟩
 have H1:=jH (h1.new n1);have H2:=jH (h2.new n1);have N1:=jH n1;have HW:=jH hw1;have L1:=jH hn1;have L2:=jH hn2;have HE:=jH he;have HL:=jH hl;clear h1 h2 n1 hw1 hn1 hn2 he hl;go_enter Tryz.func12,Tryz.ntmps12;go_wp2_with fail;rw[←HW.out];clear HW;generalize w.heap.size=gk at *;obtain⟨b0,b1⟩:=BT.out w1 kR;obtain⟨c0,c1'⟩:=BS.out w1 kR;go_wp2_with fail;clear b0 b1 c0 c1'
 go_loopw [5] (fun i wr=>∃k:Nat,k≤n∧i=.int .i64 k∧Hid (New w1 wr)) (fun i _=>n - (intOf i).toNat)
 case atStart=>exact⟨0,Nat.zero_le _,rfl,kR⟩
 case round=>
  obtain⟨k,hk,rfl,HN⟩:=hrel;obtain⟨b0,b1⟩:=BT.out wr HN.out;obtain⟨c0,c1'⟩:=BS.out wr HN.out
  by_cases hlt:k < n
  ·obtain⟨ga,oa,x,eA,hx⟩:=H1.out.pos (i:=k) (by rw[L1.out];exact hlt);obtain⟨gb,ob,y,eB,hy⟩:=H2.out.pos (i:=k) (by rw[L2.out];exact hlt);subst eA eB;obtain⟨_,x0,x1,x2,x3,x4⟩:=(H1.out.new HN.out).get hx;obtain⟨_,y0,y1,y2,y3,y4⟩:=(H2.out.new HN.out).get hy;have hg1:gk < wr.heap.size:=World.block_lt_of_cell? wr _ b0;have hg2:gk+1 < wr.heap.size:=World.block_lt_of_cell? wr _ c0;have hg3:ga < wr.heap.size:=World.block_lt_of_cell? wr _ x0;have hg4:gb < wr.heap.size:=World.block_lt_of_cell? wr _ y0
   have s0:(k:Int) < (n:Int):=by omega
   have s1:(0:Int)≤(k:Int):=by omega
   have hxy:x.n=y.n:=by
    have e1:=zbc hx;have e2:=zbc hy;rw[HE.out,e2] at e1
    injection e1 with e1
    exact e1.symm
   have XY:=jH hxy
   have XO:Hid (∀u,New w1 u→NOk u x∧NOk u y):=fun u hu=>⟨(H1.out.new hu).2 x (List.mem_of_getElem? hx),(H2.out.new hu).2 y (List.mem_of_getElem? hy)⟩
   have XL:=jH (HL.out x (List.mem_of_getElem? hx))
   have D1:Hid (New w1 (((wr.alloc (.cells #[.int .i64 x.n.i,.int .u8 x.n.k,.int .i64 x.n.l,.slice x.A x.n.ns.length x.c,.slice x.B x.n.b.length x.d] 53)).alloc (.cells #[.int .i64 y.n.i,.int .u8 y.n.k,.int .i64 y.n.l,.slice y.A y.n.ns.length y.c,.slice y.B y.n.b.length y.d] 53)).drew)∧Blk (((wr.alloc (.cells #[.int .i64 x.n.i,.int .u8 x.n.k,.int .i64 x.n.l,.slice x.A x.n.ns.length x.c,.slice x.B x.n.b.length x.d] 53)).alloc (.cells #[.int .i64 y.n.i,.int .u8 y.n.k,.int .i64 y.n.l,.slice y.A y.n.ns.length y.c,.slice y.B y.n.b.length y.d] 53)).drew) wr.heap.size 53 [.int .i64 x.n.i,.int .u8 x.n.k,.int .i64 x.n.l,.slice x.A x.n.ns.length x.c,.slice x.B x.n.b.length x.d]∧Blk (((wr.alloc (.cells #[.int .i64 x.n.i,.int .u8 x.n.k,.int .i64 x.n.l,.slice x.A x.n.ns.length x.c,.slice x.B x.n.b.length x.d] 53)).alloc (.cells #[.int .i64 y.n.i,.int .u8 y.n.k,.int .i64 y.n.l,.slice y.A y.n.ns.length y.c,.slice y.B y.n.b.length y.d] 53)).drew) (wr.heap.size+1) 53 [.int .i64 y.n.i,.int .u8 y.n.k,.int .i64 y.n.l,.slice y.A y.n.ns.length y.c,.slice y.B y.n.b.length y.d]):=by
    refine⟨((HN.out.alloc _).alloc _).drew,(Blk.made wr _ _).alloc _,?_⟩
    have:=Blk.made (wr.alloc (.cells #[.int .i64 x.n.i,.int .u8 x.n.k,.int .i64 x.n.l,.slice x.A x.n.ns.length x.c,.slice x.B x.n.b.length x.d] 53)) 53 #[.int .i64 y.n.i,.int .u8 y.n.k,.int .i64 y.n.l,.slice y.A y.n.ns.length y.c,.slice y.B y.n.b.length y.d]
    rwa [World.size_alloc] at this
   have D2:Hid (New w1 (((wr.alloc (.cells #[.int .i64 y.n.i,.int .u8 y.n.k,.int .i64 y.n.l,.slice y.A y.n.ns.length y.c,.slice y.B y.n.b.length y.d] 53)).alloc (.cells #[.int .i64 x.n.i,.int .u8 x.n.k,.int .i64 x.n.l,.slice x.A x.n.ns.length x.c,.slice x.B x.n.b.length x.d] 53)).drew)∧Blk (((wr.alloc (.cells #[.int .i64 y.n.i,.int .u8 y.n.k,.int .i64 y.n.l,.slice y.A y.n.ns.length y.c,.slice y.B y.n.b.length y.d] 53)).alloc (.cells #[.int .i64 x.n.i,.int .u8 x.n.k,.int .i64 x.n.l,.slice x.A x.n.ns.length x.c,.slice x.B x.n.b.length x.d] 53)).drew) (wr.heap.size+1) 53 [.int .i64 x.n.i,.int .u8 x.n.k,.int .i64 x.n.l,.slice x.A x.n.ns.length x.c,.slice x.B x.n.b.length x.d]∧Blk (((wr.alloc (.cells #[.int .i64 y.n.i,.int .u8 y.n.k,.int .i64 y.n.l,.slice y.A y.n.ns.length y.c,.slice y.B y.n.b.length y.d] 53)).alloc (.cells #[.int .i64 x.n.i,.int .u8 x.n.k,.int .i64 x.n.l,.slice x.A x.n.ns.length x.c,.slice x.B x.n.b.length x.d] 53)).drew) wr.heap.size 53 [.int .i64 y.n.i,.int .u8 y.n.k,.int .i64 y.n.l,.slice y.A y.n.ns.length y.c,.slice y.B y.n.b.length y.d]):=by
    refine⟨((HN.out.alloc _).alloc _).drew,?_,(Blk.made wr _ _).alloc _⟩
    have:=Blk.made (wr.alloc (.cells #[.int .i64 y.n.i,.int .u8 y.n.k,.int .i64 y.n.l,.slice y.A y.n.ns.length y.c,.slice y.B y.n.b.length y.d] 53)) 53 #[.int .i64 x.n.i,.int .u8 x.n.k,.int .i64 x.n.l,.slice x.A x.n.ns.length x.c,.slice x.B x.n.b.length x.d]
    rwa [World.size_alloc] at this
   clear hx hy hxy
   go_upto_region 6 with fail
   go_cut [6,7] (fun a b wx=>∃gx gy:Nat,a=.pointer (some ⟨gx,0,none⟩)∧b=.pointer (some ⟨gy,0,none⟩)∧Hid (New w1 wx) ∧
    Hid (Blk wx gx 53 [.int .i64 x.n.i,.int .u8 x.n.k,.int .i64 x.n.l,.slice x.A x.n.ns.length x.c,.slice x.B x.n.b.length x.d]) ∧
    Hid (Blk wx gy 53 [.int .i64 y.n.i,.int .u8 y.n.k,.int .i64 y.n.l,.slice y.A y.n.ns.length y.c,.slice y.B y.n.b.length y.d]))
   case first=>
    go_region
    all_goals
     simp only[Exit.then];refine (‹∀(a':Act) (w':World),Met _ a' w'→_›) _ _ ?_
     go_meet
    case rel=>exact⟨wr.heap.size,wr.heap.size+1,rfl,rfl,D1.out.1,D1.out.2.1,D1.out.2.2⟩
    case rel=>exact⟨wr.heap.size+1,wr.heap.size,rfl,rfl,D2.out.1,D2.out.2.1,D2.out.2.2⟩
   case rest=>
    obtain⟨gx,gy,rfl,rfl,NX,BX,BY⟩:=hcut;clear D1 D2 x0 x1 x2 x3 x4 y0 y1 y2 y3 y4 b0 b1 c0 c1' hg1 hg2 hg3 hg4;rw[←XY.out] at BY
    have CS:Hid (∀u,New w1 u→Calls Tryz.prog 24 #[.slice x.B x.n.b.length x.d,.slice y.B x.n.b.length y.d] u (Quiet u true)):=fun u hu=>by
     have o1:=(XO.out u hu).1.2.1;have o2:=(XO.out u hu).2.2.1;rw[←XY.out] at o2;exact same_eq x.B y.B x.n.b.length x.d y.d x.n.b u o1 o2 (by have:=XL.out.2;unfold maxLen;omega)
    have XN:Hid (∀u,New w1 u→NmIn u x.A x.n.ns∧NmIn u y.A x.n.ns):=fun u hu=>by
     have o2:=(XO.out u hu).2.1;rw[←XY.out] at o2;exact⟨(XO.out u hu).1.1,o2⟩
    have hnl:=XL.out.1;clear XO XL;generalize x.n.b.length=bl at *;generalize hzl:x.n.ns.length=zl at *;have HZL:=jH hzl;clear hzl;obtain⟨u0,u1,u2,u3,u4⟩:=BX.out.p5;obtain⟨v0,v1,v2,v3,v4⟩:=BY.out.p5;go_wp2_with fail;refine (CS.out wc NX.out).mono ?_;rintro e w3 ⟨dq,rfl,hw3⟩
    have K3:Hid (New wc w3):=by rw[hw3];exact kR.drewN dq
    clear hw3 CS u0 u1 u2 u3 u4 v0 v1 v2 v3 v4;go_wp2_with fail
    go_loopw [8] (fun i wr=>∃t:Nat,t≤zl∧i=.int .i64 t∧Hid (New wc wr)) (fun i _=>zl - (intOf i).toNat)
    case atStart=>exact⟨0,Nat.zero_le _,rfl,K3⟩
    case round=>
     obtain⟨t,ht,rfl,KW⟩:=hrel;have NW:Hid (New w1 wr):=NX.out.new KW.out;have u3:=(BX.out.kept KW.out id).q3;have v3:=(BY.out.kept KW.out id).q3
     by_cases hlt2:t < zl
     ·obtain⟨g2,o2,e,eA2,he⟩:=NmIn.pos (XN.out wr NW.out).1 (i:=t) (by rw[HZL.out];exact hlt2);obtain⟨g3,o3,e',eA3,_⟩:=NmIn.pos (XN.out wr NW.out).2 (i:=t) (by rw[HZL.out];exact hlt2);have XN1:=(XN.out wr NW.out).1;have XN2:=(XN.out wr NW.out).2;rw[eA2] at XN1 u3;rw[eA3] at XN2 v3;obtain⟨y0,y1⟩:=NmIn.get XN1 he;obtain⟨z0,z1⟩:=NmIn.get XN2 he
      have HNQ:=fun u=>nm_neq e.1 ((e.2:Nat):Int) u
      have s0:(t:Int) < (zl:Int):=by omega
      have s1:(0:Int)≤(t:Int):=by omega
      clear XN1 XN2 he eA2 eA3;go_wp2_with fail;go_quiet (fail);have K9:Hid (New wc (wr.drewN nq)):=KW.out.drewN nq;clear y0 y1 z0 z1 HNQ u3 v3;go_wp2;go_roundw
      case rel=>exact⟨t+1,by omega,by go_num,K9⟩
      case measure=>simp[intOf];omega
     ·obtain rfl:t=zl:=by omega
      go_wp2_with fail;go_roundw
      case rel=>exact⟨k+1,by omega,by go_num,NW⟩
      case measure=>simp[intOf];omega
  ·obtain rfl:k=n:=by omega
   go_wp2;go_ret;exact⟨rfl,N1.out.new HN.out⟩
end
section
open Go.RowKit
def DoP (w:World) (p B:Nat) (A:Option Addr) (L:List ND) (a:AN) (e:Ending) (w':World):Prop:=
 ∃(A':Option Addr) (c':Nat) (es:List NE) (B':Option Addr) (d':Nat) (T':Option Addr) (t':Nat),
  e=.returned (.tuple #[.agg #[.int .i64 p,.slice A' es.length c'],
   .agg #[.int .i64 a.e,.int .i64 a.i,.int .i64 a.n,.int .u8 a.k,.int .i64 a.l,.int .i64 a.s,.slice B' a.b.length d',.slice T' a.ns.length t']]) ∧
  nds es=L∧TOwn w' B A' c' es∧OwnB w' 5 w.heap.size B' d' a.b∧Txs w' T' a.ns.length a.g∧Kept (zak A) w w'∧∀x,T'=some x→At w' x.block 9
def laid (u:World) (rt ra:Nat) (p:Nat) (A:Option Addr) (n c:Nat) (a:AN) (B':Option Addr) (m d':Nat) (T':Option Addr) (q t':Nat):World:=
 (((((((((u.setCell ⟨rt,0,none⟩ (.int .i64 p)).setCell ⟨rt,1,none⟩ (.slice A n c)).setCell ⟨ra,0,none⟩ (.int .i64 a.e)).setCell ⟨ra,1,none⟩ (.int .i64 a.i)).setCell ⟨ra,2,none⟩ (.int .i64 a.n)).setCell ⟨ra,3,none⟩ (.int .u8 a.k)).setCell ⟨ra,4,none⟩ (.int .i64 a.l)).setCell ⟨ra,5,none⟩ (.int .i64 a.s)).setCell ⟨ra,6,none⟩ (.slice B' m d')).setCell ⟨ra,7,none⟩ (.slice T' q t')
theorem laid_kept {u:World} {rt ra p:Nat} {A:Option Addr} {n c:Nat} {a:AN} {B':Option Addr} {m d':Nat} {T':Option Addr} {q t':Nat}:Kept (fun b=>b=rt∨b=ra) u (laid u rt ra p A n c a B' m d' T' q t'):=by
 unfold laid;refine ((((((((((Kept.refl _ u).setCell (p:=⟨rt,0,none⟩) ?_ _).setCell (p:=⟨rt,1,none⟩) ?_ _).setCell (p:=⟨ra,0,none⟩) ?_ _).setCell (p:=⟨ra,1,none⟩) ?_ _).setCell (p:=⟨ra,2,none⟩) ?_ _).setCell (p:=⟨ra,3,none⟩) ?_ _).setCell (p:=⟨ra,4,none⟩) ?_ _).setCell (p:=⟨ra,5,none⟩) ?_ _).setCell (p:=⟨ra,6,none⟩) ?_ _).setCell (p:=⟨ra,7,none⟩) ?_ _
 ·exact fun _=>.inl rfl
 ·exact fun _=>.inl rfl
 all_goals exact fun _=>.inr rfl
theorem zae {u:World} {rt ra p:Nat} {A:Option Addr} {n c:Nat} {a:AN} {B':Option Addr} {m d':Nat} {T':Option Addr} {q t':Nat} {v0 v1 z0 z1 z2 z3 z4 z5 z6 z7:Value} (ht:Blk u rt 25 [v0,v1]) (ha:Blk u ra 41 [z0,z1,z2,z3,z4,z5,z6,z7]):
  Blk (laid u rt ra p A n c a B' m d' T' q t') rt 25 [.int .i64 p,.slice A n c] ∧
   Blk (laid u rt ra p A n c a B' m d' T' q t') ra 41 [.int .i64 a.e,.int .i64 a.i,.int .i64 a.n,.int .u8 a.k,.int .i64 a.l,.int .i64 a.s,.slice B' m d',.slice T' q t']:=by
 have hne:¬rt=ra:=fun e=>ht.at_.ne_of ha.at_ (by decide) e
 have hne2:¬ra=rt:=fun e=>hne e.symm
 have t2:=(ht.put 0 (.int .i64 p)).put 1 (.slice A n c)
 have a2:Blk ((u.setCell ⟨rt,0,none⟩ (.int .i64 p)).setCell ⟨rt,1,none⟩ (.slice A n c)) ra 41 [z0,z1,z2,z3,z4,z5,z6,z7]:=
  (ha.kept (Kept.set1 u rt 0 (.int .i64 p)) hne2).kept (Kept.set1 _ rt 1 (.slice A n c)) hne2
 have a10:=(((((((a2.put 0 (.int .i64 a.e)).put 1 (.int .i64 a.i)).put 2 (.int .i64 a.n)).put 3 (.int .u8 a.k)).put 4 (.int .i64 a.l)).put 5 (.int .i64 a.s)).put 6 (.slice B' m d')).put 7 (.slice T' q t');refine⟨?_,a10⟩;unfold laid;exact (((((((t2.kept (Kept.set1 _ ra 0 _) hne).kept (Kept.set1 _ ra 1 _) hne).kept (Kept.set1 _ ra 2 _) hne).kept (Kept.set1 _ ra 3 _) hne).kept (Kept.set1 _ ra 4 _) hne).kept (Kept.set1 _ ra 5 _) hne).kept (Kept.set1 _ ra 6 _) hne).kept (Kept.set1 _ ra 7 _) hne
theorem zag {w u:World} {rt ra p B:Nat} {A A0:Option Addr} {n c:Nat} {a:AN} {B':Option Addr} {m d':Nat} {T':Option Addr} {q t':Nat} {es:List NE} {L:List ND} {v0 v1 z0 z1 z2 z3 z4 z5 z6 z7:Value} (ht:Blk u rt 25 [v0,v1]) (ha:Blk u ra 41 [z0,z1,z2,z3,z4,z5,z6,z7])
  (hrt:w.heap.size≤rt) (hra:w.heap.size≤ra) (hes:TOwn u B A c es) (hn:es.length=n) (hL:nds es=L) (hb:OwnB u 5 w.heap.size B' d' a.b) (hm:a.b.length=m) (hT:Txs u T' q a.g) (hTa:∀x,T'=some x→At u x.block 9) (hq:a.ns.length=q) (hk:Kept (zak A0) w u):
  DoP w p B A0 L a (.returned (.tuple #[.agg #[.int .i64 p,.slice A n c],.agg #[.int .i64 a.e,.int .i64 a.i,.int .i64 a.n,.int .u8 a.k,.int .i64 a.l,.int .i64 a.s,.slice B' m d',.slice T' q t']])) (laid u rt ra p A n c a B' m d' T' q t'):=by
 subst hn hm hq;have hK:=laid_kept (u:=u) (rt:=rt) (ra:=ra) (p:=p) (A:=A) (n:=es.length) (c:=c) (a:=a) (B':=B') (m:=a.b.length) (d':=d') (T':=T') (q:=a.ns.length) (t':=t')
 have far:∀(g:Nat) (t:TypeId),At u g t→t≠25→t≠41→¬(g=rt∨g=ra):=fun g t hg h1 h2 h=>by
  rcases h with rfl|rfl
  ·exact hg.ne_of ht.at_ h1 rfl
  ·exact hg.ne_of ha.at_ h2 rfl
 refine⟨A,c,es,B',d',T',t',rfl,hL,⟨hes.1.kept hK fun x hx=>far _ _ (hes.1.at_ x hx).1 (by decide) (by decide),fun e he=>⟨(hes.2 e he).1.kept hK fun x hx=>far _ _ ((hes.2 e he).1.at_ x hx).1 (by decide) (by decide),(hes.2 e he).2.kept hK fun x hx=>far _ _ ((hes.2 e he).2.at_ x hx).1 (by decide) (by decide)⟩⟩,
  hb.kept hK fun x hx=>far _ _ (hb.at_ x hx).1 (by decide) (by decide),hT.kept hK fun x hx=>far _ _ (hTa x hx) (by decide) (by decide),hk.trans hK fun i hi h=>?_,fun x hx=>(hTa x hx).kept hK (far _ _ (hTa x hx) (by decide) (by decide))⟩
 rcases h with rfl|rfl
 ·exact absurd hi (Nat.not_lt.2 hrt)
 ·exact absurd hi (Nat.not_lt.2 hra)
end
section
open Go.RowKit
def LT (w0 w:World) (g p:Nat) (L:List ND):Prop:=
 ∃A c es,Blk w g 25 [.int .i64 p,.slice A es.length c]∧TOwn w w0.heap.size A c es∧nds es=L∧New w0 w∧w0.heap.size≤g
def LA (w0 w:World) (g:Nat) (a:AN):Prop:=
 ∃B' d' T' t',Blk w g 41 [.int .i64 a.e,.int .i64 a.i,.int .i64 a.n,.int .u8 a.k,.int .i64 a.l,.int .i64 a.s,.slice B' a.b.length d',.slice T' a.ns.length t'] ∧
  OwnB w 5 w0.heap.size B' d' a.b∧Txs w T' a.ns.length a.g∧(∀x,T'=some x→At w x.block 9)∧w0.heap.size≤g
theorem LT.new {w0 w w':World} {g p:Nat} {L:List ND} (h:LT w0 w g p L) (hk:New w w'):LT w0 w' g p L:=by
 obtain⟨A,c,es,h1,h2,h3,h4,h5⟩:=h;exact⟨A,c,es,h1.kept hk id,h2.new hk,h3,h4.new hk,h5⟩
theorem LA.new {w0 w w':World} {g:Nat} {a:AN} (h:LA w0 w g a) (hk:New w w'):LA w0 w' g a:=by
 obtain⟨B',d',T',t',h1,h2,h3,h4,h5⟩:=h;exact⟨B',d',T',t',h1.kept hk id,h2.new hk,h3.new hk,fun x hx=>(h4 x hx).kept hk id,h5⟩
theorem LA.far {w0 w w':World} {g rt ra:Nat} {a:AN} (h:LA w0 w g a) (hk:Kept (fun b=>b=rt∨b=ra) w w') (ht:At w rt 25) (ha:At w ra 41) (hg:¬g=ra):LA w0 w' g a:=by
 obtain⟨B',d',T',t',h1,h2,h3,h4,h5⟩:=h
 have far:∀(b:Nat) (t:TypeId),At w b t→t≠25→t≠41→¬(b=rt∨b=ra):=fun b t hb q1 q2 q=>by
  rcases q with rfl|rfl
  ·exact hb.ne_of ht q1 rfl
  ·exact hb.ne_of ha q2 rfl
 have hgt:¬(g=rt∨g=ra):=fun q=>by
  rcases q with rfl|rfl
  ·exact h1.at_.ne_of ht (by decide) rfl
  ·exact hg rfl
 exact⟨B',d',T',t',h1.kept hk hgt,h2.kept hk fun x hx=>far _ _ (h2.at_ x hx).1 (by decide) (by decide),h3.kept hk fun x hx=>far _ _ (h4 x hx) (by decide) (by decide),fun x hx=>(h4 x hx).kept hk (far _ _ (h4 x hx) (by decide) (by decide)),h5⟩
theorem LT.far {w0 w w':World} {g rt ra p:Nat} {L:List ND} (h:LT w0 w g p L) (hk:Kept (fun b=>b=rt∨b=ra) w w') (ht:At w rt 25) (ha:At w ra 41) (hg:¬g=rt) (hrt:w0.heap.size≤rt) (hra:w0.heap.size≤ra):LT w0 w' g p L:=by
 obtain⟨A,c,es,h1,h2,h3,h4,h5⟩:=h
 have far:∀(b:Nat) (t:TypeId),At w b t→t≠25→t≠41→¬(b=rt∨b=ra):=fun b t hb q1 q2 q=>by
  rcases q with rfl|rfl
  ·exact hb.ne_of ht q1 rfl
  ·exact hb.ne_of ha q2 rfl
 have hgt:¬(g=rt∨g=ra):=fun q=>by
  rcases q with rfl|rfl
  ·exact hg rfl
  ·exact h1.at_.ne_of ha (by decide) rfl
 refine⟨A,c,es,h1.kept hk hgt,⟨h2.1.kept hk fun x hx=>far _ _ (h2.1.at_ x hx).1 (by decide) (by decide),fun e he=>⟨(h2.2 e he).1.kept hk fun x hx=>far _ _ ((h2.2 e he).1.at_ x hx).1 (by decide) (by decide),(h2.2 e he).2.kept hk fun x hx=>far _ _ ((h2.2 e he).2.at_ x hx).1 (by decide) (by decide)⟩⟩,h3,h4.trans hk fun i hi q=>?_,h5⟩
 rcases q with rfl|rfl
 ·exact absurd hi (Nat.not_lt.2 hrt)
 ·exact absurd hi (Nat.not_lt.2 hra)
def laidN (u:World) (rt p:Nat) (A:Option Addr) (n c:Nat) (a:AN) (B':Option Addr) (m d':Nat) (T':Option Addr) (q t':Nat):World:=
 ((u.setCell ⟨rt,0,none⟩ (.int .i64 p)).setCell ⟨rt,1,none⟩ (.slice A n c)).alloc (.cells #[.int .i64 a.e,.int .i64 a.i,.int .i64 a.n,.int .u8 a.k,.int .i64 a.l,.int .i64 a.s,.slice B' m d',.slice T' q t'] 41)
theorem laidN_kept {u:World} {rt p:Nat} {A:Option Addr} {n c:Nat} {a:AN} {B':Option Addr} {m d':Nat} {T':Option Addr} {q t':Nat}:Kept (·=rt) u (laidN u rt p A n c a B' m d' T' q t'):=by
 unfold laidN;have h0:Kept (·=rt) u u:=Kept.refl _ u;exact ((h0.setCell (p:=⟨rt,0,none⟩) (fun _=>rfl) _).setCell (p:=⟨rt,1,none⟩) (fun _=>rfl) _).alloc _
theorem lt_laidN {w0 u:World} {rt p B B2:Nat} {A:Option Addr} {n c:Nat} {a:AN} {B':Option Addr} {m d':Nat} {T':Option Addr} {q t':Nat} {es:List NE} {L:List ND} {v0 v1:Value} (ht:Blk u rt 25 [v0,v1])
  (hrt:w0.heap.size≤rt) (hes:TOwn u B A c es) (hB:w0.heap.size≤B) (hn:es.length=n) (hL:nds es=L) (hb:OwnB u 5 B2 B' d' a.b) (hB2:w0.heap.size≤B2) (hm:a.b.length=m) (hT:Txs u T' q a.g) (hTa:∀x,T'=some x→At u x.block 9) (hq:a.ns.length=q) (hk:New w0 u):
  LT w0 (laidN u rt p A n c a B' m d' T' q t') rt p L∧LA w0 (laidN u rt p A n c a B' m d' T' q t') u.heap.size a:=by
 subst hn hm hq;have hK:=laidN_kept (u:=u) (rt:=rt) (p:=p) (A:=A) (n:=es.length) (c:=c) (a:=a) (B':=B') (m:=a.b.length) (d':=d') (T':=T') (q:=a.ns.length) (t':=t')
 have far:∀(b:Nat) (t:TypeId),At u b t→t≠25→¬b=rt:=fun b t hb q1 q=>by
  subst q;exact hb.ne_of ht.at_ q1 rfl
 have hN:New w0 (laidN u rt p A es.length c a B' a.b.length d' T' a.ns.length t'):=hk.trans hK fun i hi q=>by
  subst q;exact absurd hi (Nat.not_lt.2 hrt)
 have hes2:=hes.mono hB;have hb2:=hb.mono hB2;have h1:Blk (laidN u rt p A es.length c a B' a.b.length d' T' a.ns.length t') rt 25 [.int .i64 p,.slice A es.length c]:=((ht.put 0 _).put 1 _).alloc _
 have h2:Blk (laidN u rt p A es.length c a B' a.b.length d' T' a.ns.length t') u.heap.size 41 [.int .i64 a.e,.int .i64 a.i,.int .i64 a.n,.int .u8 a.k,.int .i64 a.l,.int .i64 a.s,.slice B' a.b.length d',.slice T' a.ns.length t']:=by
  have:=Blk.made ((u.setCell ⟨rt,0,none⟩ (.int .i64 p)).setCell ⟨rt,1,none⟩ (.slice A es.length c)) 41 #[.int .i64 a.e,.int .i64 a.i,.int .i64 a.n,.int .u8 a.k,.int .i64 a.l,.int .i64 a.s,.slice B' a.b.length d',.slice T' a.ns.length t']
  have hsz:((u.setCell ⟨rt,0,none⟩ (.int .i64 p)).setCell ⟨rt,1,none⟩ (.slice A es.length c)).heap.size=u.heap.size:=by simp[World.setCell]
  rw[hsz] at this;exact this
 exact⟨⟨A,c,es,h1,⟨hes2.1.kept hK fun x hx=>far _ _ (hes2.1.at_ x hx).1 (by decide),fun e he=>⟨(hes2.2 e he).1.kept hK fun x hx=>far _ _ ((hes2.2 e he).1.at_ x hx).1 (by decide),(hes2.2 e he).2.kept hK fun x hx=>far _ _ ((hes2.2 e he).2.at_ x hx).1 (by decide)⟩⟩,hL,hN,hrt⟩,
  ⟨B',d',T',t',h2,hb2.kept hK fun x hx=>far _ _ (hb2.at_ x hx).1 (by decide),hT.kept hK fun x hx=>far _ _ (hTa x hx) (by decide),fun x hx=>(hTa x hx).kept hK (far _ _ (hTa x hx) (by decide)),hk.size⟩⟩
theorem LA.far1 {w0 w w':World} {g rt:Nat} {a:AN} (h:LA w0 w g a) (hk:Kept (·=rt) w w') (ht:At w rt 25):LA w0 w' g a:=by
 obtain⟨B',d',T',t',h1,h2,h3,h4,h5⟩:=h
 have far:∀(b:Nat) (t:TypeId),At w b t→t≠25→¬b=rt:=fun b t hb q1 q=>by
  subst q;exact hb.ne_of ht q1 rfl
 exact⟨B',d',T',t',h1.kept hk (far _ _ h1.at_ (by decide)),h2.kept hk fun x hx=>far _ _ (h2.at_ x hx).1 (by decide),h3.kept hk fun x hx=>far _ _ (h4 x hx) (by decide),fun x hx=>(h4 x hx).kept hk (far _ _ (h4 x hx) (by decide)),h5⟩
theorem lt_two {w0 u:World} {p B B2:Nat} {A:Option Addr} {n c:Nat} {a:AN} {B':Option Addr} {m d':Nat} {T':Option Addr} {q t':Nat} {es:List NE} {L:List ND}
  (hes:TOwn u B A c es) (hB:w0.heap.size≤B) (hn:es.length=n) (hL:nds es=L) (hb:OwnB u 5 B2 B' d' a.b) (hB2:w0.heap.size≤B2) (hm:a.b.length=m) (hT:Txs u T' q a.g) (hTa:∀x,T'=some x→At u x.block 9) (hq:a.ns.length=q) (hk:New w0 u):
  LT w0 ((u.alloc (.cells #[.int .i64 p,.slice A n c] 25)).alloc (.cells #[.int .i64 a.e,.int .i64 a.i,.int .i64 a.n,.int .u8 a.k,.int .i64 a.l,.int .i64 a.s,.slice B' m d',.slice T' q t'] 41)) u.heap.size p L ∧
   LA w0 ((u.alloc (.cells #[.int .i64 p,.slice A n c] 25)).alloc (.cells #[.int .i64 a.e,.int .i64 a.i,.int .i64 a.n,.int .u8 a.k,.int .i64 a.l,.int .i64 a.s,.slice B' m d',.slice T' q t'] 41)) (u.heap.size+1) a:=by
 subst hn hm hq;have k1:New u (u.alloc (.cells #[.int .i64 p,.slice A es.length c] 25)):=kR.alloc _;have k2:=k1.alloc (.cells #[.int .i64 a.e,.int .i64 a.i,.int .i64 a.n,.int .u8 a.k,.int .i64 a.l,.int .i64 a.s,.slice B' a.b.length d',.slice T' a.ns.length t'] 41);have h2:=Blk.made (u.alloc (.cells #[.int .i64 p,.slice A es.length c] 25)) 41 #[.int .i64 a.e,.int .i64 a.i,.int .i64 a.n,.int .u8 a.k,.int .i64 a.l,.int .i64 a.s,.slice B' a.b.length d',.slice T' a.ns.length t'];rw[World.size_alloc] at h2
 exact⟨⟨A,c,es,(Blk.made u _ _).alloc _,(hes.mono hB).new k2,hL,hk.new k2,hk.size⟩,
  ⟨B',d',T',t',h2,(hb.mono hB2).new k2,hT.new k2,fun x hx=>(hTa x hx).kept k2 id,Nat.le_trans hk.size (Nat.le_succ _)⟩⟩
end
section
theorem Rt.l1 {T:TT} (h:Rt T):∀m∈T.l,1≤m.l∧m.l≤1000000:=fun m hm=>by
 by_cases hk:m.k=1
 ·have:=(zcs (h.fin m hm) hk).1;omega
 ·have:=zbd (h.fin m hm) hk;omega
theorem dir_nd {T:TT} (h:Rt T) {g:List ByteArray} {q j:Nat} (hp:LkP T.l g q j) (hg:g≠[]):∃n,ndI T.l q=some n∧n.k=1∧j=entF n.ns (lst g)∧OrdS n.ns:=by
 obtain⟨d,hd⟩:=h.dep;obtain⟨l,n,hgl,hw,hn,rfl,hk,hj,_⟩:=hp.dir h hd (.inl hg);exact⟨n,zbf h.ord hn,hk,hj,(h.fin n hn).1⟩
theorem del_nd {L:List ND} {r k:Nat} {nm:ByteArray} {n:ND} (h:ndI L k=some n):ndI (delE L r nm) k=some (if k=r then { n with ns:=zaq nm n.ns } else n):=by
 have:=upd_nd (L:=L) (j:=r) (f:=fun n=>{ n with ns:=zaq nm n.ns }) (fun _ _=>rfl) k
 show ndI (updI L r _) k=_
 rw[this]
 split
 ·rename_i e;subst e;rw[h];rfl
 ·exact h
theorem del_no {nm x:ByteArray} {ns:List (ByteArray×Nat)} (h:¬zbn nm ns):¬zbn nm (zaq x ns):=fun ⟨e,he,hh⟩=>h ⟨e,(zbs.1 he).1,hh⟩
theorem del_le (nm:ByteArray) (ns:List (ByteArray×Nat)):(zaq nm ns).length≤ns.length:=List.length_filter_le _ _
theorem mv_parts {T:TT} (h:Rt T) {g m:List ByteArray} {q j r v:Nat} {n:ND} (hp:LkP T.l g q j) (hp2:LkP T.l m r v) (h0:j≠0) (hg:g≠[]) (hm:m≠[]) (hw:wayE T v n=0):
  (v=0∧zbk T r (lst m) v=T.l∨v≠0∧∃rn,ndI T.l r=some rn∧OrdS rn.ns∧rn.ns.length≤300∧zbk T r (lst m) v=lsN (entF rn.ns (lst m)) (delE T.l r (lst m))) ∧
  Rt ⟨T.p,zbk T r (lst m) v⟩∧(∃q1,ndI (zbk T r (lst m) v) q=some q1∧OrdS q1.ns∧q1.ns.length≤300) ∧
  (∃r2,ndI (delE (zbk T r (lst m) v) q (lst g)) r=some r2∧¬zbn (lst m) r2.ns∧OrdS r2.ns∧r2.ns.length≤300):=by
 obtain⟨qn,hq,hqk,hje,hqo⟩:=dir_nd h hp hg;obtain⟨rn,hr,hrk,hve,hro⟩:=dir_nd h hp2 hm;obtain⟨hqm,hqi⟩:=zaa hq;obtain⟨hrm,hri⟩:=zaa hr
 have hent:(lst g,j)∈qn.ns:=by rw[hje];exact zcl (by rw[←hje];exact h0)
 have hle:∀y∈T.l,y.ns.length≤288:=fun y hy=>h.ns_le hy
 by_cases hv:v=0
 ·subst hv
  have hlv:zbk T r (lst m) 0=T.l:=by unfold zbk;rw[if_pos rfl]
  have hno:=zci (h.ent_ne hrm) hve;rw[hlv];refine⟨.inl ⟨rfl,rfl⟩,h,⟨qn,hq,hqo,by have:=hle qn hqm;omega⟩,⟨_,del_nd hr,?_⟩⟩
  have:=hle rn hrm
  split
  ·exact⟨del_no hno,del_ord hro,by have:=del_le (lst g) rn.ns;show (zaq (lst g) rn.ns).length≤300;omega⟩
  ·exact⟨hno,hro,by omega⟩
 ·have hven:(lst m,v)∈rn.ns:=by rw[hve];exact zcl (by rw[←hve];exact hv)
  obtain⟨x,hx⟩:=ndI_of (h.ent _ hrm _ hven);obtain⟨b1,b2⟩:=zaa hx;have b2:x.i=v:=b2
  have hwx:x.ns=[]:=by
   unfold wayE at hw;rw[if_neg hv,show ndI T.l v=some x from hx] at hw;simp only at hw
   by_cases e1:x.k=n.k
   ·by_cases e2:x.ns=[]
    ·exact e2
    ·rw[if_neg (by simpa using e1),if_pos e2] at hw;simp at hw
   ·rw[if_pos e1] at hw;simp at hw
  have hlv:zbk T r (lst m) v=zba T.l r (lst m) v x.l:=by
   unfold zbk;rw[if_neg hv]
   show (match ndI T.l v with|none=>T.l|some x=>zba T.l r (lst m) v x.l)=_
   rw[show ndI T.l v=some x from hx]
  have hqv:qn.i≠v:=fun e=>by
   have:=zbe h.ord hqm b1 (by rw[b2];exact e)
   subst this;rw[hwx] at hent;cases hent
  have hrv:rn.i≠v:=fun e=>by
   have:=zbe h.ord hrm b1 (by rw[b2];exact e)
   subst this;rw[hwx] at hven;cases hven
  have hls:zba T.l r (lst m) v x.l=lsN (entF rn.ns (lst m)) (delE T.l r (lst m)):=by
   have hxm:x∈delE T.l r (lst m):=zap.2 (.inr ⟨b1,by rw[b2,←hri];exact fun e=>hrv e.symm⟩)
   have hl:∀y∈delE T.l r (lst m),1≤y.l:=fun y hy=>by
    rcases zap.1 hy with ⟨z,hz,_,rfl⟩|⟨hz,_⟩
    ·exact (h.l1 z hz).1
    ·exact (h.l1 y hz).1
   have ho:OrdN (delE T.l r (lst m)):=zcq (fun _ _=>rfl) h.ord
   have:=lsN_lose ho hxm hl
   rw[b2] at this;rw[←hve,this]
   rfl
  have hR:Rt ⟨T.p,zba T.l r (lst m) v x.l⟩:=by
   have:=rt_lose h hrm b1 (nm:=lst m) (by rw[b2];exact hven) hwx
   rw[b2,hri] at this;exact this
  have hq1:=zcz (q:=r) (nm:=lst m) (v:=x.l) hqm hqv;have hr1:=zcz (q:=r) (nm:=lst m) (v:=x.l) hrm hrv;rw[if_pos hri] at hr1;have hqle:=hle qn hqm;have hrle:=hle rn hrm;have hdle:=del_le (lst m) qn.ns;have hdle2:=del_le (lst m) rn.ns;have hdle3:=del_le (lst g) (zaq (lst m) rn.ns)
  have hno:¬zbn (lst m) (zaq (lst m) rn.ns):=fun ⟨e,he,hh⟩=>(zbs.1 he).2 hh
  have hr2:=zbf hR.ord hr1;have hq2:=zbf hR.ord hq1;rw[hlv];refine⟨.inr ⟨hv,rn,hr,hro,by omega,hls⟩,hR,?_,?_⟩
  ·split at hq2
   ·exact⟨_,by rw[←hqi];exact hq2,del_ord hqo,by show (zaq (lst m) qn.ns).length≤300;omega⟩
   ·exact⟨_,by rw[←hqi];exact hq2,hqo,by omega⟩
  ·have hr3:ndI (zba T.l r (lst m) v x.l) r=some { rn with ns:=zaq (lst m) rn.ns }:=by rw[←hri];rw[←hri] at hr2;exact hr2
   refine⟨_,del_nd hr3,?_⟩
   split
   ·exact⟨del_no hno,del_ord (del_ord hro),by show (zaq (lst g) (zaq (lst m) rn.ns)).length≤300;omega⟩
   ·exact⟨hno,del_ord hro,by show (zaq (lst m) rn.ns).length≤300;omega⟩
end
end Go.Proofs.YtjjamoemheljdaaGreat
