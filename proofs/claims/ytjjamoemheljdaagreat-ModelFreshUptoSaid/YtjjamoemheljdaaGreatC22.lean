/-
  Layer 7: contracts (Yi Yj Yk).
-/
import Derived.Test.YtjjamoemheljdaaGreatC21
import Derived.Test.YtjjamoemheljdaaGreatC14
namespace Go.Proofs.YtjjamoemheljdaaGreat
set_option maxRecDepth 100000
set_option maxHeartbeats 8000000
set_option linter.unusedSimpArgs false
set_option linter.unusedVariables false
section
open Go.RowKit
def Apart (x y:NE):Prop:=∀a b:Addr,x.A=some a→y.A=some b→a.block≠b.block
theorem dis_iff {es:List NE}:Dis es↔es.Pairwise Apart:=by
 rw[List.pairwise_iff_getElem]
 constructor
 ·intro h i j hi hj hij a b ha hb;exact h i j es[i] es[j] a b (by omega) (List.getElem?_eq_getElem hi) (List.getElem?_eq_getElem hj) ha hb
 ·intro h i j x y a b hne hx hy ha hb;obtain⟨hi,rfl⟩:=List.getElem?_eq_some_iff.1 hx;obtain⟨hj,rfl⟩:=List.getElem?_eq_some_iff.1 hy
  rcases Nat.lt_or_ge i j with hij|hij
  ·exact h i j hi hj hij a b ha hb
  ·exact fun e=>h j i hj hi (by omega) b a hb ha e.symm
theorem Dis.ins {es:List NE} {k:Nat} {z:NE} (h:Dis es) (hz:z.A=none):Dis (es.take k++z::es.drop k):=by
 rw[dis_iff] at *
 have h1:(es.take k++es.drop k).Pairwise Apart:=by rw[List.take_append_drop];exact h
 clear h;have h:=List.pairwise_append.1 h1;refine List.pairwise_append.2 ⟨h.1,List.pairwise_cons.2 ⟨fun y _ a b ha _=>?_,h.2.1⟩,fun x hx y hy=>?_⟩
 ·rw[hz] at ha;cases ha
 rcases List.mem_cons.1 hy with rfl|hy
 ·exact fun a b _ hb=>by rw[hz] at hb;cases hb
 ·exact h.2.2 x hx y hy
theorem Dis.del {es:List NE} {k:Nat} (h:Dis es):Dis (es.take k++es.drop (k+1)):=by
 rw[dis_iff] at *;refine h.sublist ?_;rw[←List.eraseIdx_eq_take_drop_succ];exact List.eraseIdx_sublist es k
theorem PT.rows {w0 w u w':World} {gt p ga c g2 c2:Nat} {es es':List NE} (hB:Blk w gt 25 [.int .i64 p,.slice (some ⟨ga,0,none⟩) es.length c]) (hO:TOwn w w0.heap.size (some ⟨ga,0,none⟩) c es) (hD:Dis es')
  (hN:New w0 w) (hgt:w0.heap.size≤gt) (hK:Kept (·=ga) w u) (h2:OwnV u 53 5 w0.heap.size (some ⟨g2,0,none⟩) es'.length c2 (nes es')) (hm:∀e∈es',e∈es∨NOwn u w0.heap.size e)
  (hw:w'=u.setCell ⟨gt,1,none⟩ (.slice (some ⟨g2,0,none⟩) es'.length c2)):PT w0 w' gt p (nds es')∧Kept (Tr w gt) w w':=by
 have hgaat:=hO.1.at_ _ rfl;have n3:¬gt=ga:=hB.at_.ne_of hgaat.1 (by decide);have hBu:=hB.kept hK n3
 have hKS:Kept (·=gt) u w':=by rw[hw];exact Kept.set1 _ _ _ _
 have hT:TOwn u w0.heap.size (some ⟨g2,0,none⟩) c2 es':=⟨h2,fun e he=>(hm e he).elim (fun h=>(hO.2 e h).box hK hgaat.1) id⟩;refine⟨⟨g2,c2,es',by rw[hw];exact hBu.put 1 _,hT.far hKS hBu.at_ (by decide) (by decide) (by decide),rfl,hD,?_,hgt⟩,(hK.mono fun b _ e=>by subst e;exact .inr (.inl hgaat.1)).trans hKS fun b _ e=>.inl e⟩
 exact (hN.trans hK fun i hi e=>by have:=hgaat.2;subst e;exact absurd hi (Nat.not_lt.2 this)).trans hKS fun i hi e=>by subst e;exact absurd hi (Nat.not_lt.2 hgt)
theorem ins_plc (n:ND) (L:List ND):insI n L=L.take (plcI L n.i)++n::L.drop (plcI L n.i):=by
 unfold insI plcI
 congr 1
 ·induction L with
  | nil=>rfl
  | cons e r ih=>rw[List.takeWhile_cons];split<;>simp[←ih]
 ·congr 1
  induction L with
  | nil=>rfl
  | cons e r ih=>
   rw[List.dropWhile_cons,List.takeWhile_cons]
   by_cases h:decide (e.i < n.i)=true
   ·rw[if_pos h,if_pos h,ih];rfl
   ·rw[if_neg h,if_neg h];rfl
theorem nds_take (es:List NE) (k:Nat):nds (es.take k)=(nds es).take k:=by unfold nds;rw[List.map_take]
theorem nds_drop (es:List NE) (k:Nat):nds (es.drop k)=(nds es).drop k:=by unfold nds;rw[List.map_drop]
theorem nds_app2 (a b:List NE):nds (a++b)=nds a++nds b:=by unfold nds;rw[List.map_append]
theorem nes_take (es:List NE) (k:Nat):(nes es).take (k*5)=nes (es.take k):=(flt_take zcy es k).symm
theorem nes_drop (es:List NE) (k:Nat):(nes es).drop (k*5)=nes (es.drop k):=(flt_drop zcy es k).symm
theorem nes_app2 (a b:List NE):nes (a++b)=nes a++nes b:=zcp a b
theorem rem_plc {L:List ND} {j:Nat} {n:ND} (ho:OrdN L) (h:ndI L j=some n):remI L j=L.take (posI L j)++L.drop (posI L j+1):=by
 have h2:=pos_some h;have hi:=(zaa h).2;obtain⟨hlt,hge⟩:=List.getElem?_eq_some_iff.1 h2;have hp:=List.pairwise_iff_getElem.1 ho
 have e:L=L.take (posI L j)++n::L.drop (posI L j+1):=by
  conv=>lhs;rw[←List.take_append_drop (posI L j) L,List.drop_eq_getElem_cons hlt]
  rw[hge]
 unfold remI
 conv=>lhs;rw[e]
 rw[List.filter_append,List.filter_cons_of_neg (by simpa using hi),List.filter_eq_self.2,List.filter_eq_self.2]
 ·intro y hy;obtain⟨t,ht⟩:=List.mem_iff_getElem?.1 hy;rw[List.getElem?_drop] at ht;obtain⟨h3,rfl⟩:=List.getElem?_eq_some_iff.1 ht
  have:=hp _ _ hlt h3 (by omega)
  rw[hge,hi] at this;exact decide_eq_true (by omega)
 ·intro y hy;obtain⟨t,ht⟩:=List.mem_iff_getElem?.1 hy;have hlt2:=(List.getElem?_eq_some_iff.1 ht).1;rw[List.length_take] at hlt2
  have hlt3:t < posI L j:=by omega
  rw[List.getElem?_take_of_lt hlt3] at ht;obtain⟨h3,rfl⟩:=List.getElem?_eq_some_iff.1 ht
  have:=hp _ _ h3 hlt hlt3
  rw[hge,hi] at this;exact decide_eq_true (by omega)
theorem rem_lnk (L:List ND) (j v:Nat):remI (lnkE L j v) j=remI L j:=by
 unfold remI lnkE updI
 induction L with
 | nil=>rfl
 | cons n r ih=>
  rw[List.map_cons]
  by_cases h:n.i=j
  ·rw[if_pos h,List.filter_cons_of_neg (by simpa using h),List.filter_cons_of_neg (by simpa using h),ih]
  ·rw[if_neg h,List.filter_cons_of_pos (by simpa using h),List.filter_cons_of_pos (by simpa using h),ih]
theorem put_any (w0:World) (gt p:Nat) (L:List ND) (i k l:Nat) (w:World) (h:PT w0 w gt p L) (ho:OrdN L) (hlen:L.length≤1000):
  Calls Tryz.prog 85 #[.pointer (some ⟨gt,0,none⟩),.agg #[.int .i64 i,.int .u8 k,.int .i64 l,.slice none 0 0,.slice none 0 0]] w (fun e w'=>e=.returned (.tuple #[])∧PT w0 w' gt p (insI ⟨i,k,l,[],[]⟩ L)∧Kept (Tr w gt) w w'):=by
 obtain⟨ga,c,es,hB,hO,hL,hD,hN,hgt⟩:=h;subst hL
 have hlen:es.length≤1000:=by rwa [zab] at hlen
 obtain⟨w1,hw1⟩:∃w1,w1=w.alloc (.cells #[.int .i64 i,.int .u8 k,.int .i64 l,.slice none 0 0,.slice none 0 0] 53):=⟨_,rfl⟩
 have n1:Hid (New w w1):=by rw[hw1];exact kR.alloc _
 have BX:Hid (∀u,New w1 u→Blk u w.heap.size 53 [.int .i64 i,.int .u8 k,.int .i64 l,.slice none 0 0,.slice none 0 0]):=fun u hu=>by rw[hw1] at hu;exact (Blk.made w _ _).kept hu id
 have HW:=jH hw1
 have HPT:Hid (∀u,New w u→Blk u gt 25 [.int .i64 p,.slice (some ⟨ga,0,none⟩) es.length c]∧TOwn u w0.heap.size (some ⟨ga,0,none⟩) c es∧New w0 u):=fun u hu=>⟨hB.kept hu id,hO.new hu,hN.new hu⟩
 have CP:Hid (∀u,New w u→Calls Tryz.prog 98 #[.pointer (some ⟨gt,0,none⟩),.int .i64 i] u (fun e w'=>e=.returned (.tuple #[.int .i64 (plcI (nds es) i:Nat),.bool (fndI (nds es) i)])∧New u w')):=fun u hu=>
  mplace_any gt _ _ es.length c es i u (hB.kept hu id) ((hO.new hu).in_) (zab es) ho (by omega)
 have hzc:(⟨⟨i,k,l,[],[]⟩,none,0,none,0⟩:NE).cells=[.int .i64 i,.int .u8 k,.int .i64 l,.slice none 0 0,.slice none 0 0]:=rfl
 have CI:Hid (∀u vb,New w u→Blk u vb 53 [.int .i64 i,.int .u8 k,.int .i64 l,.slice none 0 0,.slice none 0 0]→¬vb=ga→Calls Tryz.prog 101 #[.slice (some ⟨ga,0,none⟩) es.length c,.int .i64 (plcI (nds es) i:Nat),.slice (some ⟨vb,0,none⟩) 1 1] u (InsA u 53 5 w0.heap.size (some ⟨ga,0,none⟩) es.length (nes (es.take (plcI (nds es) i)++(⟨⟨i,k,l,[],[]⟩,none,0,none,0⟩:NE)::es.drop (plcI (nds es) i))))):=fun u vb hu hb hne=>by
  have:=insNe_any (some ⟨ga,0,none⟩) es.length c (plcI (nds es) i) w0.heap.size vb (nes es) [.int .i64 i,.int .u8 k,.int .i64 l,.slice none 0 0,.slice none 0 0] u (hO.new hu).1 (nes_one _) hb rfl (zbz _ _ _ _ _ _ _ _ _) (fun a ha=>by injection ha with ha;subst ha;exact hne) (Nat.le_trans hN.size hu.size) (by omega) (by rw[←zab];exact plcI_le _ _)
  rw[nes_take,nes_drop] at this;rw[nes_app2,show (⟨⟨i,k,l,[],[]⟩,none,0,none,0⟩:NE)::es.drop (plcI (nds es) i)=[⟨⟨i,k,l,[],[]⟩,none,0,none,0⟩]++es.drop (plcI (nds es) i) from rfl,nes_app2,←List.append_assoc];exact this
 have HPE:Hid (∀u u' w' g2 c2,New w u→Kept (zak (some ⟨ga,0,none⟩)) u u'→OwnV u' 53 5 w0.heap.size (some ⟨g2,0,none⟩) (es.length+1) c2 (nes (es.take (plcI (nds es) i)++(⟨⟨i,k,l,[],[]⟩,none,0,none,0⟩:NE)::es.drop (plcI (nds es) i)))→w'=u'.setCell ⟨gt,1,none⟩ (.slice (some ⟨g2,0,none⟩) (es.length+1) c2)→PT w0 w' gt p (insI ⟨i,k,l,[],[]⟩ (nds es))∧Kept (Tr u gt) u w'):=fun u u' w' g2 c2 hu hk h2 hw=>by
  have hle:plcI (nds es) i≤es.length:=by rw[←zab];exact plcI_le _ _
  have hl:(es.take (plcI (nds es) i)++(⟨⟨i,k,l,[],[]⟩,none,0,none,0⟩:NE)::es.drop (plcI (nds es) i)).length=es.length+1:=by rw[List.length_append,List.length_cons,List.length_take,List.length_drop];omega
  rw[←hl] at h2 hw
  have:=PT.rows (hB.kept hu id) (hO.new hu) (hD.ins (k:=plcI (nds es) i) (z:=⟨⟨i,k,l,[],[]⟩,none,0,none,0⟩) rfl) (hN.new hu) hgt (hk.mono fun _ _ ⟨a,ha,e⟩=>by injection ha with ha;subst ha;exact e.symm) h2 (fun e he=>by
   rcases List.mem_append.1 he with he|he
   ·exact .inl (List.mem_of_mem_take he)
   ·rcases List.mem_cons.1 he with rfl|he
    ·exact .inr ⟨OwnV.nil _ _ _ _,OwnB.nil _ _ _⟩
    ·exact .inl (List.mem_of_mem_drop he)) hw
  rw[ins_plc];rwa [nds_app2,nds_take,show nds ((⟨⟨i,k,l,[],[]⟩,none,0,none,0⟩:NE)::es.drop (plcI (nds es) i))=⟨i,k,l,[],[]⟩::nds (es.drop (plcI (nds es) i)) from rfl,nds_drop] at this
 have HNE:Hid (¬gt=ga):=hB.at_.ne_of (hO.1.at_ _ rfl).1 (by decide)
 have HGZ:Hid (∀u,New w u→¬u.heap.size=ga):=fun u hu e=>by
  have:=(hO.1.at_ _ rfl).1.lt
  have:=hu.size
  simp only at *;omega
 have FZ:Hid (∀u u',New w u→Kept (zak (some ⟨ga,0,none⟩)) u u'→u'.cell? ⟨gt,1,none⟩=some (.slice (some ⟨ga,0,none⟩) es.length c)∧u'.frozen? ⟨gt,1,none⟩=false):=fun u u' hu hk=>by
  have:=(hB.kept hu id).kept hk fun ⟨a,ha,e⟩=>by injection ha with ha;subst ha;exact HNE.out e.symm
  exact⟨this.cell 1,this.free 1⟩
 clear hw1 hB hO hD hN hgt hlen ho hzc;generalize (es.take (plcI (nds es) i)++(⟨⟨i,k,l,[],[]⟩,none,0,none,0⟩:NE)::es.drop (plcI (nds es) i))=ez at *;generalize plcI (nds es) i=pn at *;generalize fndI (nds es) i=fb at *;generalize es.length=ln at *;go_enter Tryz.func85,Tryz.ntmps85
 go_upto_region 1 with fail
 rw[←HW.out];clear HW;have b0:=(BX.out w1 kR).q0;generalize w.heap.size=gk at *
 go_upto_region 2 with (refine (CP.out _ n1.out).mono ?_;rintro e w3 ⟨rfl,hK⟩;have N3:=jH (n1.out.new hK);obtain⟨b0,b1,b2,b3,b4⟩:=(BX.out w3 hK).p5;clear hK)
 obtain⟨z3,f3⟩:=FZ.out w3 w3 N3.out kR;clear CP;have NV:=jH (HGZ.out w3 N3.out);have hga:gt < w3.heap.size:=World.block_lt_of_cell? w3 _ z3;have hgk:gk < w3.heap.size:=World.block_lt_of_cell? w3 _ b0;have NU:Hid (New w (w3.drew.alloc (.cells #[.int .i64 i,.int .u8 k,.int .i64 l,.slice none 0 0,.slice none 0 0] 53))):=N3.out.drew.alloc _;have BU:Hid (Blk (w3.drew.alloc (.cells #[.int .i64 i,.int .u8 k,.int .i64 l,.slice none 0 0,.slice none 0 0] 53)) w3.heap.size 53 [.int .i64 i,.int .u8 k,.int .i64 l,.slice none 0 0,.slice none 0 0]):=Blk.made w3.drew _ _
 go_region_law (first
  | (go_simp;go_at_call 101;refine (CI.out _ _ NU.out BU.out NV.out).mono ?_;rintro e w4 ⟨g2,c2,rfl,hO4,hK4,hg2⟩;have PN:=jH (fun w' hw'=>HPE.out _ _ w' g2 c2 NU.out hK4 hO4 hw');obtain⟨z3,f3⟩:=FZ.out _ w4 NU.out hK4;clear hO4 hK4 hg2))
 all_goals
  go_wp2_with fail
  go_end0
  exact⟨rfl,(PN.out _ rfl).1,Tr.new NU.out (PN.out _ rfl).2⟩
theorem free_any (w0:World) (gt p:Nat) (L:List ND) (w:World) (h:PT w0 w gt p L) (hlen:L.length≤1000):
  Calls Tryz.prog 84 #[.pointer (some ⟨gt,0,none⟩)] w (MNew w ((zbj L:Nat):Int)):=by
 obtain⟨ga,c,es,hB,hO,hL,_,_,_⟩:=h;subst hL;have LN:Hid ((nds es).length=es.length):=zab es
 have hlen:es.length≤1000:=by rwa [zab] at hlen
 have HT:Hid (∀u,New w u→u.cell? ⟨gt,1,none⟩=some (.slice (some ⟨ga,0,none⟩) es.length c)):=fun u hu=>(hB.kept hu id).cell 1
 have H:Hid (∀u,New w u→TIn u (some ⟨ga,0,none⟩) es):=fun u hu=>(hO.new hu).in_
 have c1:=HT.out w kR;clear hB hO;obtain⟨n,hn⟩:∃n,n=es.length:=⟨_,rfl⟩;have LE:=jH hn;rw[←hn] at HT hlen c1;clear hn;go_enter Tryz.func84,Tryz.ntmps84;go_wp2_with fail
 go_loopw [10] (fun i wr=>∃k:Nat,k≤n∧i=.int .i64 k∧Hid (zcj ((nds es).drop k) (k+1)=zbj (nds es))∧Hid (New w wr)) (fun i _=>n - (intOf i).toNat)
 case atStart=>exact⟨0,Nat.zero_le _,rfl,rfl,kR⟩
 case round=>
  obtain⟨k,hk,rfl,HF,HN⟩:=hrel
  by_cases hlt:k < n
  ·obtain⟨g',o',x,eA,hx,_,x0,x1,x2,x3,x4⟩:=(H.out wr HN.out).at_ (i:=k) (by rw[←LE.out];exact hlt)
   injection eA with eA
   injection eA with e1 e2
   subst e1 e2;rw[Nat.zero_add] at x0 x1 x2 x3 x4
   have HD:Hid ((nds es).drop k=x.n::(nds es).drop (k+1)):=by
    obtain⟨h1,h2⟩:=List.getElem?_eq_some_iff.1 (zbc hx);rw[Hid,List.drop_eq_getElem_cons h1,h2]
   have HN2:Hid (New w (wr.alloc (.cells #[.int .i64 x.n.i,.int .u8 x.n.k,.int .i64 x.n.l,.slice x.A x.n.ns.length x.c,.slice x.B x.n.b.length x.d] 53))):=HN.out.alloc _;clear hx
   by_cases hi:x.n.i=k+1
   ·have d0:(((x.n.i:Nat):Int) != ((k:Nat):Int)+1)=false:=bne_eq_false_iff_eq.2 (by omega)
    have HF2:Hid (zcj ((nds es).drop (k+1)) (k+1+1)=zbj (nds es)):=by
     have:=HF.out
     rw[HD.out] at this;unfold zcj at this;rwa [if_pos hi] at this
    clear HF HD hi;go_wp2_with fail;go_roundw
    case rel=>exact⟨k+1,by omega,by go_num,HF2,HN2⟩
    case measure=>simp[intOf];omega
   ·have d0:(((x.n.i:Nat):Int) != ((k:Nat):Int)+1)=true:=bne_iff_ne.2 (by omega)
    have HF2:Hid (zbj (nds es)=k+1):=by
     have:=HF.out
     rw[HD.out] at this;unfold zcj at this;rw[if_neg hi] at this;exact this.symm
    clear HF HD hi;go_wp2_with fail;go_ret;exact⟨by rw[HF2.out];rfl,HN2.out⟩
  ·obtain rfl:k=n:=by omega
   have HF2:Hid (zbj (nds es)=k+1):=by
    have:=HF.out
    rw[List.drop_of_length_le (by rw[LN.out,←LE.out];exact Nat.le_refl _)] at this;exact this.symm
   have c1:=HT.out wr HN.out;clear HF;go_wp2_with fail;go_ret;exact⟨by rw[HF2.out];rfl,HN.out⟩
end
section
open Go.RowKit
theorem PT.cell {w0 w w':World} {gt p ga c k j:Nat} {es:List NE} {x:NE} {n':ND} {v:Value} (hB:Blk w gt 25 [.int .i64 p,.slice (some ⟨ga,0,none⟩) es.length c]) (hO:TOwn w w0.heap.size (some ⟨ga,0,none⟩) c es) (hD:Dis es)
  (hN:New w0 w) (hx:es[k]?=some x) (hj:j < 5) (hy:({ x with n:=n' }:NE).cells=x.cells.set j v) (hns:n'.ns=x.n.ns) (hb:n'.b=x.n.b) (hw:w'=w.setCell ⟨ga,k*5+j,none⟩ v):
  Blk w' gt 25 [.int .i64 p,.slice (some ⟨ga,0,none⟩) es.length c]∧TOwn w' w0.heap.size (some ⟨ga,0,none⟩) c (es.set k { x with n:=n' })∧Dis (es.set k { x with n:=n' })∧New w0 w':=by
 have hgaat:=hO.1.at_ _ rfl
 have hKS:Kept (·=ga) w w':=by rw[hw];exact Kept.set1 _ _ _ _
 have hxO:=(hO.2 x (List.mem_of_getElem? hx)).box hKS hgaat.1;refine⟨hB.kept hKS (hB.at_.ne_of hgaat.1 (by decide)),TOwn.set hO hx hj hy hw ⟨?_,?_⟩,hD.set fun i y a b hi hy ha hb e2=>hD i k y x a b hi hy hx ha hb e2,hN.trans hKS fun i hi e2=>by have:=hgaat.2;subst e2;exact absurd hi (Nat.not_lt.2 this)⟩
 ·show OwnV w' _ 2 _ x.A n'.ns.length x.c (nms n'.ns)
  rw[hns];exact hxO.1
 ·show OwnB w' _ _ x.B x.d n'.b
  rw[hb];exact hxO.2
theorem lnk_set {es:List NE} {k j v:Nat} {x:NE} (ho:OrdN (nds es)) (hx:es[k]?=some x) (hj:x.n.i=j):nds (es.set k { x with n:={ x.n with l:=v } })=lnkE (nds es) j v:=by
 rw[nds_set];unfold lnkE;rw[←hj,upd_set ho (zbc hx)]
theorem pos_upd {L:List ND} {j k:Nat} {f:ND→ND} (hf:∀n,(f n).i=n.i):posI (updI L j f) k=posI L k:=by
 unfold updI
 induction L with
 | nil=>rfl
 | cons n r ih=>
  rw[List.map_cons];unfold posI;rw[ih]
  by_cases h:n.i=j
  ·rw[if_pos h,hf]
  ·rw[if_neg h]
theorem Tr.not {w:World} {gt b:Nat} {t:TypeId} (h:At w b t) (h1:t≠53) (h2:t≠65) (h3:b≠gt):¬Tr w gt b:=by
 rintro (e|e|e)
 ·exact h3 e
 ·exact h.ne_of e h1 rfl
 ·exact h.ne_of e h2 rfl
theorem PT.lt {w0 w:World} {gt p:Nat} {L:List ND} (h:PT w0 w gt p L):gt < w.heap.size:=by
 obtain⟨_,_,_,h1,_⟩:=h;exact h1.lt
theorem TOwn.free {w:World} {B g c:Nat} {es:List NE} (h:TOwn w B (some ⟨g,0,none⟩) c es) (k:Nat):w.frozen? ⟨g,k,none⟩=false:=by
 obtain⟨_,_,_,h4⟩:=h.1
 rcases h4 with ⟨h4,_⟩|⟨g',sp,e,hB,hblk,hs⟩
 ·cases h4
 ·injection e with e
  injection e with e _
  subst e;exact hblk.free _
theorem mlose_any (w0:World) (gt p:Nat) (L:List ND) (q j d:Nat) (nm:ByteArray) (qn y:ND) (w:World) (h:PT w0 w gt p L) (ho:OrdN L) (hlen:L.length≤1000) (hq:ndI L q=some qn) (hos:OrdS qn.ns) (hl:qn.ns.length≤1000) (hnm:zbn nm qn.ns)
  (hy:ndI (delE L q nm) j=some y) (h1:1≤y.l) (h2:y.l≤1000000):
  Calls Tryz.prog 89 #[.pointer (some ⟨gt,0,none⟩),.agg #[.int .i64 q,.string nm,.int .i64 j,.int .i64 d]] w (fun e w'=>e=.returned (.tuple #[])∧PT w0 w' gt p (zba L q nm j y.l)∧Kept (Tr w gt) w w'):=by
 obtain⟨w1,hw1⟩:∃w1,w1=w.alloc (.cells #[.int .i64 q,.string nm,.int .i64 j,.int .i64 d] 87):=⟨_,rfl⟩
 have n1:New w w1:=by rw[hw1];exact kR.alloc _
 have BX:Hid (Blk w1 w.heap.size 87 [.int .i64 q,.string nm,.int .i64 j,.int .i64 d]):=by rw[hw1];exact Blk.made w _ _
 have HW:=jH hw1;have CS:=jH (strike_any w0 gt p L q j d nm qn w1 (h.new n1) ho hlen hq hos hl hnm);have HGK:Hid (¬Tr w1 gt w.heap.size):=Tr.not BX.out.at_ (by decide) (by decide) (fun e=>by have:=h.lt;omega);have N1:=jH n1;have HO2:Hid (OrdN (delE L q nm)):=zcq (fun _ _=>rfl) ho
 have HL2:Hid ((delE L q nm).length≤1000):=by rw[Hid];unfold delE;rw[zcv];exact hlen
 have HY:=jH hy
 have HLE:Hid (∀L2,L2=lnkE (delE L q nm) j (y.l - 1)→(y.l=1→remI L2 j=zba L q nm j y.l)∧(y.l≠1→L2=zba L q nm j y.l)):=fun L2 e=>by
  subst e;unfold zba;exact⟨fun e=>by rw[if_pos e,rem_lnk],fun e=>by rw[if_neg e]⟩
 generalize delE L q nm=L2 at *;generalize zba L q nm j y.l=L9 at *;clear hw1 n1 h ho hlen hq hos hl hnm hy;go_enter Tryz.func89,Tryz.ntmps89
 go_upto_region 1 with fail
 rw[←HW.out];clear HW;obtain⟨b0,b1,b2,b3⟩:=BX.out.p4;generalize w.heap.size=gk at *
 go_upto_region 2 with (go_at_call 92;refine CS.out.mono ?_;rintro e w2 ⟨rfl,hP,hK⟩;have B2:=jH (BX.out.kept hK HGK.out);have P2:=jH hP;have K2:=jH (Tr.new N1.out hK);have b2:=B2.out.q2;clear hP hK)
 clear CS b0 b1 b3;obtain⟨ga,c,es,hB,hO,hL,hD,hN,hgt⟩:=P2.out;subst hL;obtain⟨x,hx,hxn,hxm⟩:=zbg HY.out;subst hxn;obtain⟨f1,f2,f3⟩:=fndI_some HO2.out HY.out
 have hlen:es.length≤1000:=by have:=HL2.out;rwa [zab] at this
 have CP:Hid (Calls Tryz.prog 98 #[.pointer (some ⟨gt,0,none⟩),.int .i64 j] w2 (fun e w'=>e=.returned (.tuple #[.int .i64 (posI (nds es) j:Nat),.bool true])∧New w2 w')):=by
  have:=mplace_any gt (.int .i64 p) _ es.length c es j w2 hB hO.in_ (zab es) HO2.out (by omega)
  rwa [f1,f2] at this
 obtain⟨v,hv⟩:∃v,x.n.l=v+1:=⟨x.n.l - 1,by omega⟩;have hxi:x.n.i=j:=(zaa HY.out).2
 have HPC:Hid (∀u,New w2 u→u.cell? ⟨gt,1,none⟩=some (.slice (some ⟨ga,0,none⟩) es.length c)∧u.cell? ⟨ga,posI (nds es) j*5+2,none⟩=some (.int .i64 x.n.l)∧u.frozen? ⟨ga,posI (nds es) j*5+2,none⟩=false):=fun u hu=>by
  have hT:=hO.new hu;obtain⟨_,q0,q1,q2,q3,q4⟩:=hT.in_.get hx;rw[Nat.zero_add] at q2;exact⟨(hB.kept hu id).cell 1,q2,hT.free _⟩
 have HST:Hid (∀u,New w2 u→∀u',u'=u.setCell ⟨ga,posI (nds es) j*5+2,none⟩ (.int .i64 (v:Nat)) →
   (Blk u' gt 25 [.int .i64 p,.slice (some ⟨ga,0,none⟩) es.length c]∧TOwn u' w0.heap.size (some ⟨ga,0,none⟩) c (es.set (posI (nds es) j) { x with n:={ x.n with l:=v } })∧Dis (es.set (posI (nds es) j) { x with n:={ x.n with l:=v } })∧New w0 u')∧Kept (Tr u gt) u u'):=fun u hu u' he=>by
  refine⟨PT.cell (hB.kept hu id) (hO.new hu) hD (hN.new hu) hx (j:=2) (by omega) rfl rfl rfl he,?_⟩;rw[he]
  exact (Kept.set1 u ga _ _).mono fun b _ e=>by subst e;exact .inr (.inl ((hO.new hu).1.at_ _ rfl).1)
 have HLN:Hid (nds (es.set (posI (nds es) j) { x with n:={ x.n with l:=v } })=lnkE (nds es) j v):=lnk_set HO2.out hx hxi;have HL3:Hid ((es.set (posI (nds es) j) { x with n:={ x.n with l:=v } }).length=es.length):=List.length_set
 have HREM:Hid (remI (lnkE (nds es) j v) j=(lnkE (nds es) j v).take (posI (nds es) j)++(lnkE (nds es) j v).drop (posI (nds es) j+1)):=by
  have h3:ndI (lnkE (nds es) j v) j=some ⟨x.n.i,x.n.k,v,x.n.ns,x.n.b⟩:=by
   unfold lnkE;rw[upd_nd (f:=fun n=>{ n with l:=v }) (fun _ _=>rfl),if_pos rfl,HY.out]
   rfl
  have:=rem_plc (L:=lnkE (nds es) j v) (zcq (fun _ _=>rfl) HO2.out) h3
  rw[Hid,this,show posI (lnkE (nds es) j v) j=posI (nds es) j from pos_upd (fun _=>rfl)]
 have wv:IntKind.i64.wrap ((v:Nat):Int)=((v:Nat):Int):=by rw[IntKind.wrap_i64];omega
 have HL9:=jH (HLE.out (lnkE (nds es) j v) (by rw[hv];rfl));have HPO:Hid (posI (nds es) j < es.length):=(List.getElem?_eq_some_iff.1 hx).1;have hpo:=HPO.out;have HG:=jH hgt;rw[hv] at HPC HL9;clear hB hO hD hN hgt hx hxm f1 f2 f3 hxi HLE HY P2 HO2 HL2 h1 h2 hv;generalize hes3:es.set (posI (nds es) j) { x with n:={ x.n with l:=v } }=es3 at *;clear hes3;generalize posI (nds es) j=pj at *
 go_upto_region 3 with (go_at_call 98;refine CP.out.mono ?_;rintro e w3 ⟨rfl,hK⟩;have N3:=jH hK;clear hK)
 obtain⟨z1,z2,f2⟩:=HPC.out w3 N3.out;obtain⟨w4,hw4⟩:∃w4,w4=w3.setCell ⟨ga,pj*5+2,none⟩ (.int .i64 (v:Nat)):=⟨_,rfl⟩;obtain⟨⟨hB4,hO4,hD4,hN4⟩,hK4⟩:=HST.out w3 N3.out w4 hw4;have K4:=jH (Tr.trans (Tr.trans K2.out (N3.out.mono fun _ _ f=>f.elim)) hK4);have HW4:=jH hw4
 have y2:w4.cell? ⟨ga,pj*5+2,none⟩=some (.int .i64 (v:Nat)):=by rw[hw4];exact World.cell?_setCell_same _ _ _ z2
 clear CP b2 hw4
 go_upto_region 4 with fail
 rw[←HW4.out];clear HW4 z1 z2 f2 wv;have y1:=hB4.q1;have HNE:Hid (¬gt=ga):=hB4.at_.ne_of (hO4.1.at_ _ rfl).1 (by decide)
 by_cases hv0:v=0
 ·have d0:(((v:Nat):Int) == 0)=true:=beq_iff_eq.2 (by omega)
  have CD:Hid (Calls Tryz.prog 103 #[.slice (some ⟨ga,0,none⟩) es.length c,.int .i64 pj,.int .i64 (((pj:Nat):Int)+1)] w4 (fun e w'=>e=.returned (.slice (some ⟨ga,0,none⟩) (es.length - 1) c)∧OwnV w' 53 5 w0.heap.size (some ⟨ga,0,none⟩) (es.length - 1) c (nes (es3.take pj++es3.drop (pj+1)))∧Kept (·=ga) w4 w')):=by
   have:=delNe_any ga es.length c pj w0.heap.size (nes es3) w4 (by rw[←HL3.out];exact hO4.1) (nes_one _) hpo (by omega)
   rwa [nes_take,nes_drop,←nes_app2] at this
  have HPE:Hid (∀w5 w6,Kept (·=ga) w4 w5→OwnV w5 53 5 w0.heap.size (some ⟨ga,0,none⟩) (es.length - 1) c (nes (es3.take pj++es3.drop (pj+1)))→w6=w5.setCell ⟨gt,1,none⟩ (.slice (some ⟨ga,0,none⟩) (es.length - 1) c)→PT w0 w6 gt p L9∧Kept (Tr w gt) w w6):=fun w5 w6 hK h2 he=>by
   have hl:(es3.take pj++es3.drop (pj+1)).length=es.length - 1:=by
    have:=HL3.out
    have:=HPO.out
    rw[List.length_append,List.length_take,List.length_drop];omega
   rw[←hl] at h2 he
   have h3:=PT.rows (by rw[HL3.out];exact hB4) hO4 hD4.del hN4 HG.out hK h2 (fun e he=>by
    rcases List.mem_append.1 he with he|he
    ·exact .inl (List.mem_of_mem_take he)
    ·exact .inl (List.mem_of_mem_drop he)) he
   rw[nds_app2,nds_take,nds_drop,HLN.out,←HREM.out,HL9.out.1 (by omega)] at h3;exact⟨h3.1,Tr.trans K4.out h3.2⟩
  have wp1:IntKind.i64.wrap (((pj:Nat):Int)+1)=((pj:Nat):Int)+1:=by rw[IntKind.wrap_i64];omega
  have HB4:=jH hB4;clear hB4 hO4 hD4 hN4 hK4 K4 HST HPC HL9 HREM HLN hv0
  go_wp2_with (go_at_call 103;refine CD.out.mono ?_;rintro e w5 ⟨rfl,hO5,hK5⟩;have PN:=jH (fun w6 he=>HPE.out w5 w6 hK5 hO5 he);have z1:=(HB4.out.kept hK5 HNE.out).q1;have f1:w5.frozen? ⟨gt,1,none⟩=false:=(HB4.out.kept hK5 HNE.out).free 1;clear hO5 hK5)
  go_end0
  exact⟨rfl,PN.out _ rfl⟩
 ·have d0:(((v:Nat):Int) == 0)=false:=beq_eq_false_iff_ne.2 (by omega)
  have E9:Hid (PT w0 w4 gt p L9∧Kept (Tr w gt) w w4):=by
   refine⟨⟨ga,c,es3,by rw[HL3.out];exact hB4,hO4,?_,hD4,hN4,HG.out⟩,K4.out⟩;rw[HLN.out];exact HL9.out.2 (by omega)
  clear hB4 hO4 hD4 hN4 hK4 K4 HST HPC HL9 HREM HLN hv0;go_wp2_with fail
  go_end0
  exact⟨rfl,E9.out⟩
end
section
open Go.RowKit
def AnsP (w0 w:World) (gt p:Nat) (L:List ND) (a:AN) (e:Ending) (w':World):Prop:=
 ∃(B':Option Addr) (d':Nat) (T':Option Addr) (t':Nat),
  e=.returned (.agg #[.int .i64 a.e,.int .i64 a.i,.int .i64 a.n,.int .u8 a.k,.int .i64 a.l,.int .i64 a.s,.slice B' a.b.length d',.slice T' a.ns.length t']) ∧
  PT w0 w' gt p L∧OwnB w' 5 w0.heap.size B' d' a.b∧Txs w' T' a.ns.length a.g∧(∀x,T'=some x→At w' x.block 9)∧Kept (Tr w gt) w w'
def ans8 (u:World) (ra:Nat) (a:AN) (B':Option Addr) (m d':Nat) (T':Option Addr) (q t':Nat):World:=
 (((((((u.setCell ⟨ra,0,none⟩ (.int .i64 a.e)).setCell ⟨ra,1,none⟩ (.int .i64 a.i)).setCell ⟨ra,2,none⟩ (.int .i64 a.n)).setCell ⟨ra,3,none⟩ (.int .u8 a.k)).setCell ⟨ra,4,none⟩ (.int .i64 a.l)).setCell ⟨ra,5,none⟩ (.int .i64 a.s)).setCell ⟨ra,6,none⟩ (.slice B' m d')).setCell ⟨ra,7,none⟩ (.slice T' q t')
theorem ans8_kept {u:World} {ra:Nat} {a:AN} {B':Option Addr} {m d':Nat} {T':Option Addr} {q t':Nat}:Kept (·=ra) u (ans8 u ra a B' m d' T' q t'):=by
 unfold ans8;refine ((((((((Kept.refl _ u).setCell (p:=⟨ra,0,none⟩) ?_ _).setCell (p:=⟨ra,1,none⟩) ?_ _).setCell (p:=⟨ra,2,none⟩) ?_ _).setCell (p:=⟨ra,3,none⟩) ?_ _).setCell (p:=⟨ra,4,none⟩) ?_ _).setCell (p:=⟨ra,5,none⟩) ?_ _).setCell (p:=⟨ra,6,none⟩) ?_ _).setCell (p:=⟨ra,7,none⟩) ?_ _
 all_goals exact fun _=>rfl
theorem zaf {u:World} {ra:Nat} {a:AN} {B':Option Addr} {m d':Nat} {T':Option Addr} {q t':Nat} {z0 z1 z2 z3 z4 z5 z6 z7:Value} (ha:Blk u ra 41 [z0,z1,z2,z3,z4,z5,z6,z7]):
  Blk (ans8 u ra a B' m d' T' q t') ra 41 [.int .i64 a.e,.int .i64 a.i,.int .i64 a.n,.int .u8 a.k,.int .i64 a.l,.int .i64 a.s,.slice B' m d',.slice T' q t']:=
 (((((((ha.put 0 (.int .i64 a.e)).put 1 (.int .i64 a.i)).put 2 (.int .i64 a.n)).put 3 (.int .u8 a.k)).put 4 (.int .i64 a.l)).put 5 (.int .i64 a.s)).put 6 (.slice B' m d')).put 7 (.slice T' q t')
theorem PT.far {w0 w w':World} {gt p gx:Nat} {L:List ND} {t:TypeId} (h:PT w0 w gt p L) (hk:Kept (·=gx) w w') (hg:At w gx t) (h0:25≠t) (h1:53≠t) (h2:65≠t) (h3:5≠t) (hx:w0.heap.size≤gx):PT w0 w' gt p L:=by
 obtain⟨g,c,es,hB,hO,hL,hD,hN,hgt⟩:=h;exact⟨g,c,es,hB.kept hk (hB.at_.ne_of hg h0),hO.far hk hg h1 h2 h3,hL,hD,hN.trans hk fun i hi e=>by subst e;exact absurd hi (Nat.not_lt.2 hx),hgt⟩
theorem zah {w0 w u:World} {gt p ra:Nat} {L:List ND} {a:AN} {B':Option Addr} {m d':Nat} {T':Option Addr} {q t':Nat} {z0 z1 z2 z3 z4 z5 z6 z7:Value} (ha:Blk u ra 41 [z0,z1,z2,z3,z4,z5,z6,z7]) (hra:w.heap.size≤ra) (hP:PT w0 u gt p L) (h0:New w0 w)
  (hb:OwnB u 5 w0.heap.size B' d' a.b) (hm:a.b.length=m) (hT:Txs u T' q a.g) (hTa:∀x,T'=some x→At u x.block 9) (hq:a.ns.length=q) (hk:Kept (Tr w gt) w u):
  AnsP w0 w gt p L a (.returned (.agg #[.int .i64 a.e,.int .i64 a.i,.int .i64 a.n,.int .u8 a.k,.int .i64 a.l,.int .i64 a.s,.slice B' m d',.slice T' q t'])) (ans8 u ra a B' m d' T' q t'):=by
 subst hm hq;have hK:=ans8_kept (u:=u) (ra:=ra) (a:=a) (B':=B') (m:=a.b.length) (d':=d') (T':=T') (q:=a.ns.length) (t':=t');refine⟨B',d',T',t',rfl,hP.far hK ha.at_ (by decide) (by decide) (by decide) (by decide) (Nat.le_trans h0.size hra),hb.kept hK fun x hx=>(hb.at_ x hx).1.ne_of ha.at_ (by decide),hT.kept hK fun x hx=>(hTa x hx).ne_of ha.at_ (by decide),fun x hx=>(hTa x hx).kept hK ((hTa x hx).ne_of ha.at_ (by decide)),hk.trans hK fun i hi e=>by subst e;exact absurd hi (Nat.not_lt.2 hra)⟩
theorem zac (x:Nat) (w:World):Calls Tryz.prog 32 #[.int .i64 x] w (fun e w'=>e=.returned (.agg #[.int .i64 x,.int .i64 0,.int .i64 0,.int .u8 0,.int .i64 0,.int .i64 0,.slice none 0 0,.slice none 0 0])∧New w w'):=by
 obtain⟨w1,hw1⟩:∃w1,w1=w.alloc (.cells #[.int .i64 x,.int .i64 0,.int .i64 0,.int .u8 0,.int .i64 0,.int .i64 0,.slice none 0 0,.slice none 0 0] 41):=⟨_,rfl⟩
 have n1:Hid (New w w1):=by rw[hw1];exact kR.alloc _
 have BX:Hid (Blk w1 w.heap.size 41 [.int .i64 x,.int .i64 0,.int .i64 0,.int .u8 0,.int .i64 0,.int .i64 0,.slice none 0 0,.slice none 0 0]):=by rw[hw1];exact Blk.made w _ _
 have HW:=jH hw1;clear hw1;go_enter Tryz.func32,Tryz.ntmps32;go_wp2;rw[←HW.out];obtain⟨d0,d1,d2,d3,d4,d5,d6,d7⟩:=BX.out.p8;refine bodyPost_ret (by simp[results,Tryz.results32,go_sem,d0,d1,d2,d3,d4,d5,d6,d7];try rfl) rfl ?_;exact⟨rfl,n1.out⟩
def kindE (j k k2:Nat):Nat:=if j=0 then 12 else if k=k2 then 0 else 14
theorem kind_none (gt q d k:Nat) (nm:ByteArray) (w:World):
  Calls Tryz.prog 87 #[.pointer (some ⟨gt,0,none⟩),.agg #[.int .i64 q,.string nm,.int .i64 0,.int .i64 d],.int .u8 k] w (MNew w 12):=by
 obtain⟨w1,hw1⟩:∃w1,w1=w.alloc (.cells #[.int .i64 q,.string nm,.int .i64 0,.int .i64 d] 87):=⟨_,rfl⟩
 have n1:Hid (New w w1):=by rw[hw1];exact kR.alloc _
 have BX:Blk w1 w.heap.size 87 [.int .i64 q,.string nm,.int .i64 0,.int .i64 d]:=by rw[hw1];exact Blk.made w _ _
 have HW:=jH hw1;have CT:Hid (Calls Tryz.prog 83 #[.agg #[.int .i64 q,.string nm,.int .i64 0,.int .i64 d]] w1 (fun e w'=>e=.returned (.bool false)∧New w1 w')):=zbh q nm 0 d w1;obtain⟨b0,b1,b2,b3⟩:=BX.p4;clear hw1 BX;go_enter Tryz.func87,Tryz.ntmps87
 go_upto_region 1 with fail
 rw[←HW.out]
 go_wp2_with (go_at_call 83;refine CT.out.mono ?_;rintro e w2 ⟨rfl,hK⟩;have N2:=jH (n1.out.new hK);clear hK)
 go_ret;exact⟨rfl,N2.out⟩
theorem kind_node (w0:World) (gt p:Nat) (L:List ND) (q j d k:Nat) (nm:ByteArray) (y:ND) (w:World) (h:PT w0 w gt p L) (ho:OrdN L) (hlen:L.length≤1000) (h0:j≠0) (hy:ndI L j=some y):
  Calls Tryz.prog 87 #[.pointer (some ⟨gt,0,none⟩),.agg #[.int .i64 q,.string nm,.int .i64 j,.int .i64 d],.int .u8 k] w (MNew w ((kindE j y.k k:Nat):Int)):=by
 obtain⟨ga,c,es,hB,hO,hL,hD,hN,hgt⟩:=h;subst hL;obtain⟨x,hx,hxn,hxm⟩:=zbg hy;subst hxn
 have hlen:es.length≤1000:=by rwa [zab] at hlen
 obtain⟨w1,hw1⟩:∃w1,w1=w.alloc (.cells #[.int .i64 q,.string nm,.int .i64 j,.int .i64 d] 87):=⟨_,rfl⟩
 have n1:Hid (New w w1):=by rw[hw1];exact kR.alloc _
 have BX:Hid (∀u,New w1 u→Blk u w.heap.size 87 [.int .i64 q,.string nm,.int .i64 j,.int .i64 d]):=fun u hu=>by rw[hw1] at hu;exact (Blk.made w _ _).kept hu id
 have HW:=jH hw1
 have CT:Hid (Calls Tryz.prog 83 #[.agg #[.int .i64 q,.string nm,.int .i64 j,.int .i64 d]] w1 (fun e w'=>e=.returned (.bool true)∧New w1 w')):=by
  have:=zbh q nm j d w1
  rwa [decide_eq_true h0] at this
 have CN:Hid (∀u,New w u→Calls Tryz.prog 72 #[.pointer (some ⟨gt,0,none⟩),.int .i64 j] u (fun e w'=>e=.returned (.pointer (some ⟨ga,posI (nds es) j*5,none⟩))∧New u w')):=fun u hu=>by
  have:=zbq gt (.int .i64 p) ga 0 es.length c es j x.n u (hB.kept hu id) ((hO.new hu).in_) (zab es) ho (by omega) hy
  rwa [Nat.zero_add] at this
 have ZC:Hid (∀u,New w u→u.cell? ⟨ga,posI (nds es) j*5+1,none⟩=some (.int .u8 x.n.k)):=fun u hu=>by
  obtain⟨_,q0,q1,q2,q3,q4⟩:=(hO.new hu).in_.get hx;rwa [Nat.zero_add] at q1
 obtain⟨b0,b1,b2,b3⟩:=(BX.out w1 kR).p4
 have HE:Hid (kindE j x.n.k k=if x.n.k=k then 0 else 14):=by unfold kindE;rw[Hid,if_neg h0]
 clear hw1 hB hO hD hN hgt hx hxm hy hlen ho h0;generalize kindE j x.n.k k=kr at *;generalize posI (nds es) j=pj at *;generalize x.n.k=xk at *
 by_cases hk:xk=k
 ·have d0:(((xk:Nat):Int) != ((k:Nat):Int))=false:=bne_eq_false_iff_eq.2 (by omega)
  have HK:Hid (kr=0):=by rw[Hid,HE.out,if_pos hk]
  clear HE hk;go_enter Tryz.func87,Tryz.ntmps87
  go_upto_region 1 with fail
  rw[←HW.out];clear HW;generalize w.heap.size=gk at *
  go_wp2_with (first
   | (go_at_call 83;refine CT.out.mono ?_;rintro e w2 ⟨rfl,hK⟩;have N2:=jH (n1.out.new hK);have b2:=(BX.out w2 hK).q2;clear hK)
   | (go_at_call 72;refine (CN.out w2 N2.out).mono ?_;rintro e w3 ⟨rfl,hK⟩;have N3:=jH (N2.out.new hK);have z1:=ZC.out w3 N3.out;clear hK))
  go_ret;exact⟨by rw[HK.out];rfl,N3.out⟩
 ·have d0:(((xk:Nat):Int) != ((k:Nat):Int))=true:=bne_iff_ne.2 (by omega)
  have HK:Hid (kr=14):=by rw[Hid,HE.out,if_neg hk]
  clear HE hk;go_enter Tryz.func87,Tryz.ntmps87
  go_upto_region 1 with fail
  rw[←HW.out];clear HW;generalize w.heap.size=gk at *
  go_wp2_with (first
   | (go_at_call 83;refine CT.out.mono ?_;rintro e w2 ⟨rfl,hK⟩;have N2:=jH (n1.out.new hK);have b2:=(BX.out w2 hK).q2;clear hK)
   | (go_at_call 72;refine (CN.out w2 N2.out).mono ?_;rintro e w3 ⟨rfl,hK⟩;have N3:=jH (N2.out.new hK);have z1:=ZC.out w3 N3.out;clear hK))
  go_ret;exact⟨by rw[HK.out];rfl,N3.out⟩
end
end Go.Proofs.YtjjamoemheljdaaGreat
