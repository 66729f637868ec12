/-
  Layer 7: contracts (Yg).
-/
import Derived.Test.YtjjamoemheljdaaGreatC15
import Derived.Lib.Overlaps
namespace Go.Proofs.YtjjamoemheljdaaGreat
set_option maxRecDepth 100000
set_option maxHeartbeats 8000000
set_option linter.unusedSimpArgs false
set_option linter.unusedVariables false
section
open Go.RowKit
theorem Blk.shape {w:World} {g:Nat} {t:TypeId} {cs:List Value} (h:Blk w g t cs):w.shape? g=some (t,cs.length):=by
 unfold Blk at h;simp[World.shape?,h]
section
variable {P:Program}
theorem zbp {t T:TypeId} {z:Value} {sz by_:Nat} (hinf:(P.info? t).map (fun i=>(i.zero,i.size,i.bytes))=some (some z,sz,by_)) (hu:P.underlying T=some (.slice t)) (hzs:z.cells.size=sz) (hsz:0 < sz)
  {ops:Array Oper} {rest:List Oper} {o:Oper} {a:Act} {Q:Exit→Act→World→Prop} (w:World) (hgd:o.guard=none) (s x:Operand)
  (ho:o.op=.call { callee:=.builtin .append,args:=#[s,x],argTypes:=#[T,T] }) (B:Nat) (hBw:B≤w.heap.size)
  (A:Option Addr) (n c:Nat) (vs:List Value) (hsv:a.eval s=.slice A n c) (hown:OwnV w t sz B A n c vs) (A':Option Addr) (m c':Nat) (us:List Value) (hx:a.eval x=.slice A' m c') (hr:RowV w A' m sz us)
  (h1:∀u∈us,u.oneCell'=true) (hbytes:(n+m)*by_≤140737488355328) (hsmall:n+m≤140737488355328)
  (h:∀A2 c2 w',Hid (OwnV w' t sz B A2 (n+m) c2 (vs++us))→Hid (Kept (zak A) w w')→Hid (A2=A∨A2=some ⟨w.heap.size,0,none⟩)→wpList P ops Q rest (a.put o.dst (.slice A2 (n+m) c2)) w'):
  wpList P ops Q (o::rest) a w:=by
 obtain⟨i0,hi,hz0,hz1,hz2⟩:=info_parts hinf;subst hz1 hz2;refine zca w hgd s x T ho t i0 z hu hi hz0 hzs hsz B A n c vs hsv hown A' m c' us hx hr h1 hbytes hsmall hBw ?_;intro A2 c2 w' h3 h4 h5;refine h A2 c2 w' h3 ((Kept.refl (zak A) w).grown h4.out fun q _ hA=>?_) h5;obtain⟨b,hb,e⟩:=Option.map_eq_some_iff.1 hA;exact⟨b,hb,e⟩
end
def InsA (w:World) (t:TypeId) (sz B:Nat) (A:Option Addr) (n:Nat) (cs:List Value) (e:Ending) (w':World):Prop:=
 ∃g2 c2,e=.returned (.slice (some ⟨g2,0,none⟩) (n+1) c2)∧OwnV w' t sz B (some ⟨g2,0,none⟩) (n+1) c2 cs∧Kept (zak A) w w'∧(A=some ⟨g2,0,none⟩∨w.heap.size≤g2)
def InsP (w:World) (t:TypeId) (sz B g n:Nat) (cs:List Value) (e:Ending) (w':World):Prop:=
 ∃g2 c2,e=.returned (.slice (some ⟨g2,0,none⟩) (n+1) c2)∧OwnV w' t sz B (some ⟨g2,0,none⟩) (n+1) c2 cs∧Kept (·=g) w w'∧(g2=g∨w.heap.size≤g2)
theorem insNe_end (g n c i B vb:Nat) (vs us:List Value) (w:World) (h:OwnV w 53 5 B (some ⟨g,0,none⟩) n c vs) (h1:∀u∈vs,u.oneCell'=true) (hv:Blk w vb 53 us) (hul:us.length=5) (h2:∀u∈us,u.oneCell'=true) (hne:vb≠g) (hB:B≤w.heap.size) (hn:n≤1000000) (hi:i=n):
  Calls Tryz.prog 101 #[.slice (some ⟨g,0,none⟩) n c,.int .i64 i,.slice (some ⟨vb,0,none⟩) 1 1] w (InsP w 53 5 B g n (vs.take (i*5)++us++vs.drop (i*5))):=by
 subst hi
 have e:vs.take (i*5)++us++vs.drop (i*5)=vs++us:=by
  rw[←h.1,List.take_length,List.drop_length,List.append_nil]
 rw[e];have H:=jH h;have HR:Hid (RowV w (some ⟨vb,0,none⟩) 1 5 us):=zbr hv hul;have H2:=jH h2;clear h h1 h2 hv hul hne e;go_enter Tryz.func101,Tryz.ntmps101
 go_wp2_with (first
  | (at_builtin;refine zbp zch Tryz.underlying23 rfl (by omega) _ rfl _ _ rfl B hB (some ⟨g,0,none⟩) i c vs rfl H.out (some ⟨vb,0,none⟩) 1 1 us rfl HR.out H2.out (by omega) (by omega) ?_)
  | fail)
 all_goals
  intro A2 c2 w' h3 h4 h5
  have E9:Hid (InsP w 53 5 B g i (vs++us) (.returned (.slice A2 (i+1) c2)) w'):=by
   have h3:=h3.out
   have h4:Kept (·=g) w w':=h4.out.mono fun _ _ ⟨a,ha,e⟩=>by injection ha with ha;subst ha;exact e.symm
   rcases h5.out with rfl|rfl
   ·exact⟨g,c2,rfl,h3,h4,.inl rfl⟩
   ·exact⟨_,c2,rfl,h3,h4,.inr (Nat.le_refl _)⟩
  clear h3 h4 h5;go_wp2;go_ret;exact E9.out
theorem insNe_grow (g n c i B vb:Nat) (vs us:List Value) (w:World) (h:OwnV w 53 5 B (some ⟨g,0,none⟩) n c vs) (h1:∀u∈vs,u.oneCell'=true) (hv:Blk w vb 53 us) (hul:us.length=5) (h2:∀u∈us,u.oneCell'=true) (hne:vb≠g) (hB:B≤w.heap.size) (hn:n≤1000000) (hi:i < n) (hc:c < n+1):
  Calls Tryz.prog 101 #[.slice (some ⟨g,0,none⟩) n c,.int .i64 i,.slice (some ⟨vb,0,none⟩) 1 1] w (InsP w 53 5 B g n (vs.take (i*5)++us++vs.drop (i*5))):=by
 obtain⟨i0,hi0,hz0,hzs,hzb⟩:=info_parts zch;obtain⟨hl,hnc,hc63,hr⟩:=h
 rcases hr with ⟨h0,_⟩|⟨g',sp,e,hBg,hblk,hsp⟩
 ·cases h0
 ·injection e with e
  injection e with e _
  subst e
  have hs:(Tryz.prog.info? 53).map (·.size)=some 5:=by rw[hi0];simp[hzs]
  have hgw:g < w.heap.size:=hblk.lt;have hvw:vb < w.heap.size:=hv.lt
  have hik:i+(n+1 - i)=n+1:=by omega
  have htl:(vs.take (i*5)).length=i*5:=by rw[List.length_take,hl];omega
  have hold:(Builtin.firstCells i0.size i (.slice (some ⟨g,0,none⟩) i c)).run Tryz.prog w.drew=.ok (vs.take (i*5)).toArray w.drew:=by
   rw[hzs]
   exact run_firstCells_some w.drew 5 i ⟨g,0,none⟩ i c (vs.take (i*5)) htl (fun j v hj=>by
    rw[Addr.add_lit,Nat.zero_add]
    show w.cell? _=_
    have hj2:=(List.getElem?_eq_some_iff.1 hj).1;rw[hblk.cell,List.getElem?_append_left (by rw[htl] at hj2;omega)];rw[List.getElem?_take] at hj
    split at hj
    ·exact hj
    ·cases hj)
  have hrz:∀ty,(Builtin.append_ #[23,3] ty #[.slice (some ⟨g,0,none⟩) i c,.int .i64 (((n:Nat):Int)+1 - ((i:Nat):Int))]).run Tryz.prog w =
    .ok (.slice (some ⟨w.heap.size,0,none⟩) (n+1) (grownCap w (n+1) c 53)) (w.drew.alloc (.cells ((vs.take (i*5)).toArray++Builtin.zeroCells (Value.cells (.agg #[.int .i64 0,.int .u8 0,.int .i64 0,.slice none 0 0,.slice none 0 0])) (n+1 - i)++Builtin.zeroCells (Value.cells (.agg #[.int .i64 0,.int .u8 0,.int .i64 0,.slice none 0 0,.slice none 0 0])) (grownCap w (n+1) c 53 - (n+1))) 53)):=fun ty=>by
   have h:=Lib.run_append_grow_zeros w 23 3 ty 53 i0 _ .i64 .i64 Tryz.underlying23 Tryz.underlying3 hi0 hz0 (some ⟨g,0,none⟩) i c (vs.take (i*5)) hold (n+1 - i) (by omega) (by omega) (by omega) (by omega) (by rw[hzb];omega) (by rw[hzb,hik];exact growslice_fits hc (by omega));rw[hik] at h;rw[show ((n:Nat):Int)+1 - ((i:Nat):Int)=((n+1 - i:Nat):Int) by omega];exact h
  obtain⟨G,hG⟩:∃G,G=grownCap w (n+1) c 53:=⟨_,rfl⟩
  have hGn:n+1≤G:=by rw[hG];exact grownCap_ge w _ _ _
  have hG63:G≤maxLen:=by rw[hG];exact grownCap_le_maxLen w (n+1) c 53 (by unfold maxLen;omega)
  rw[←hG] at hrz;obtain⟨ROW,hROW⟩:∃ROW:Array Value,ROW=(vs.take (i*5)).toArray++Builtin.zeroCells (Value.cells (.agg #[.int .i64 0,.int .u8 0,.int .i64 0,.slice none 0 0,.slice none 0 0])) (n+1 - i)++Builtin.zeroCells (Value.cells (.agg #[.int .i64 0,.int .u8 0,.int .i64 0,.slice none 0 0,.slice none 0 0])) (G - (n+1)):=⟨_,rfl⟩;rw[←hROW] at hrz
  have hRL:ROW.toList=vs.take (i*5)++zer [.int .i64 0,.int .u8 0,.int .i64 0,.slice none 0 0,.slice none 0 0] (n+1 - i)++zer [.int .i64 0,.int .u8 0,.int .i64 0,.slice none 0 0,.slice none 0 0] (G - (n+1)):=by
   rw[hROW];simp only[Array.toList_append];rw[zbo _ _ (by simp[Value.cells]),zbo _ _ (by simp[Value.cells])]
   rfl
  obtain⟨W1,hW1⟩:∃W1,W1=w.drew.alloc (.cells ROW 53):=⟨_,rfl⟩;rw[←hW1] at hrz;obtain⟨gn,hgn⟩:∃gn,gn=w.heap.size:=⟨_,rfl⟩;rw[←hgn] at hrz
  have B1:Blk W1 gn 53 (vs.take (i*5)++zer [.int .i64 0,.int .u8 0,.int .i64 0,.slice none 0 0,.slice none 0 0] 1++(zer [.int .i64 0,.int .u8 0,.int .i64 0,.slice none 0 0,.slice none 0 0] (n - i)++zer [.int .i64 0,.int .u8 0,.int .i64 0,.slice none 0 0,.slice none 0 0] (G - (n+1)))):=by
   have:=Blk.made w.drew 53 ROW
   rw[hRL,show n+1 - i=1+(n - i) by omega,zer_app,List.append_assoc,List.append_assoc] at this;rw[hW1,hgn,List.append_assoc];exact this
  have K1:New w W1:=by rw[hW1];exact kR.drew.alloc _
  have hcpA:∀ty dc,(Builtin.copy_ #[23,23] ty #[.slice (some ⟨gn,i*5,none⟩) (n+1 - i) dc,.slice (some ⟨vb,0,none⟩) 1 1]).run Tryz.prog W1=.ok (goInt (Nat.min 1 (n+1 - i))) (W1.setCells gn (i*5) us):=fun ty dc=>
   zax W1 _ _ ty 53 5 gn (i*5) (n+1 - i) dc ⟨vb,0,none⟩ 1 1 us Tryz.underlying23 hs (by rw[hul];simp only[Nat.min_def];split<;>omega)
    (fun j v hj=>by rw[Addr.add_lit,Nat.zero_add];exact K1.cell ((hv.cell j).trans hj) id)
    (fun j hj=>by rw[B1.cell,List.getElem?_eq_getElem (by rw[List.length_append,List.length_append,htl,zbl];simp;omega)];rfl) (fun j _=>B1.free _) h2
  obtain⟨W2,hW2⟩:∃W2,W2=W1.setCells gn (i*5) us:=⟨_,rfl⟩;rw[←hW2] at hcpA
  have B2:Blk W2 gn 53 ((vs.take (i*5)++us)++zer [.int .i64 0,.int .u8 0,.int .i64 0,.slice none 0 0,.slice none 0 0] (n - i)++zer [.int .i64 0,.int .u8 0,.int .i64 0,.slice none 0 0,.slice none 0 0] (G - (n+1))):=by
   have:=Blk.sets us _ _ _ W1 (i*5) B1 (by rw[hul,zbl];rfl) htl.symm
   rw[hW2,List.append_assoc (_++us)];exact this
  have K2:New w W2:=by rw[hW2];exact Kept.sets _ _ _ K1 fun hh=>absurd hh (by omega)
  have hdl:(vs.drop (i*5)).length=(n - i)*5:=by rw[List.length_drop,hl];omega
  have hcpB:∀(W:World),W.cell?=W2.cell?→W.frozen?=W2.frozen?→∀ty dc sc,(Builtin.copy_ #[23,23] ty #[.slice (some ⟨gn,(i+1)*5,none⟩) (n - i) dc,.slice (some ⟨g,i*5,none⟩) (n - i) sc]).run Tryz.prog W=.ok (goInt (Nat.min (n - i) (n - i))) (W.setCells gn ((i+1)*5) (vs.drop (i*5))):=fun W hWc hWf ty dc sc=>
   zax W _ _ ty 53 5 gn ((i+1)*5) (n - i) dc ⟨g,i*5,none⟩ (n - i) sc (vs.drop (i*5)) Tryz.underlying23 hs (by rw[hdl,show Nat.min (n - i) (n - i)=n - i from Nat.min_self _])
    (fun j v hj=>by
     rw[Addr.add_lit,hWc];refine K2.cell ?_ id;have hj2:=(List.getElem?_eq_some_iff.1 hj).1;rw[hblk.cell,List.getElem?_append_left (by rw[hdl] at hj2;omega)]
     rwa [List.getElem?_drop] at hj)
    (fun j hj=>by rw[hWc,B2.cell,List.getElem?_eq_getElem (by rw[hdl] at hj;simp only[List.length_append,htl,zbl,hul];simp;omega)];rfl) (fun j _=>by rw[hWf];exact B2.free _) (fun u hu=>h1 u (List.mem_of_mem_drop hu))
  have R3:Hid (∀W:World,Blk W gn 53 ((vs.take (i*5)++us)++zer [.int .i64 0,.int .u8 0,.int .i64 0,.slice none 0 0,.slice none 0 0] (n - i)++zer [.int .i64 0,.int .u8 0,.int .i64 0,.slice none 0 0,.slice none 0 0] (G - (n+1)))→OwnV (W.setCells gn ((i+1)*5) (vs.drop (i*5))) 53 5 B (some ⟨gn,0,none⟩) (n+1) G (vs.take (i*5)++us++vs.drop (i*5))):=fun W hW=>by
   have B3:=Blk.sets (vs.drop (i*5)) _ _ _ W ((i+1)*5) hW (by rw[hdl,zbl];rfl) (by rw[List.length_append,htl,hul,Nat.add_mul,Nat.one_mul]);exact⟨by rw[List.length_append,List.length_append,htl,hul,hdl];omega,hGn,hG63,.inr ⟨gn,_,rfl,by omega,B3,by rw[List.length_append,List.length_append,htl,hul,hdl,zbl];simp;omega⟩⟩
  have B2H:=jH B2;have K2H:=jH K2;have HGN:Hid (gn=w.heap.size):=hgn;have HW1:=jH hW1;have HW2:=jH hW2
  have hz3:(c:Int) < (n:Int)+1:=by omega
  have hin:i≤n:=by omega
  have hGi:¬(G=i):=by omega
  have hGim:¬(G=i+1):=by omega
  have hci:¬(c=i):=by omega
  have hw1:IntKind.i64.wrap ((i:Int)+1)=(i:Int)+1:=by rw[IntKind.wrap_i64];omega
  have hb1:(0:Int)≤(i:Int)+1:=by omega
  have htn:((i:Int)+1).toNat=i+1:=by omega
  have hb3:(i:Int)≤(n:Int):=by omega
  unfold maxLen at hG63 hc63;clear hW1 hW2 hgn hv h1 h2 hblk hold hROW hRL hl hsp htl hdl hul K1 K2 B1 B2 hzb hG;go_enter Tryz.func101,Tryz.ntmps101
  go_wp2_with (first
   | (at_builtin;refine Lib.wpList_append_run _ rfl _ _ _ _ rfl _ _ rfl rfl _ _ (hrz _) ?_)
   | (at_builtin;refine zbb rfl _ _ 23 23 rfl _ _ rfl rfl (hcpA _ _) ?_))
  go_region_law (first|refine zcn rfl _ _ 23 23 rfl (.slice (some ⟨gn,(i+1)*5,none⟩) (n - i) (G - (i+1))) (.slice (some ⟨g,i*5,none⟩) (n - i) (c - i)) (by simp[Act.eval,Act.put]) (by simp[Act.eval,Act.put]) (hcpB W2.drew rfl rfl 3 (G - (i+1)) (c - i)) ?_)
  go_wp2;go_ret;refine⟨gn,G,rfl,R3.out _ B2H.out,Kept.sets _ _ _ ?_ fun hh=>absurd hh (by rw[HGN.out];exact Nat.lt_irrefl _),.inr (by rw[HGN.out];exact Nat.le_refl _)⟩;exact (K2H.out.mono fun _ _ f=>f.elim).drew
theorem insNe_shift (g n c i B vb:Nat) (vs us:List Value) (w:World) (h:OwnV w 53 5 B (some ⟨g,0,none⟩) n c vs) (h1:∀u∈vs,u.oneCell'=true) (hv:Blk w vb 53 us) (hul:us.length=5) (h2:∀u∈us,u.oneCell'=true) (hne:vb≠g) (hB:B≤w.heap.size) (hn:n≤1000000) (hi:i < n) (hc:n+1≤c):
  Calls Tryz.prog 101 #[.slice (some ⟨g,0,none⟩) n c,.int .i64 i,.slice (some ⟨vb,0,none⟩) 1 1] w (InsP w 53 5 B g n (vs.take (i*5)++us++vs.drop (i*5))):=by
 obtain⟨i0,hi0,hz0,hzs,hzb⟩:=info_parts zch;obtain⟨hl,hnc,hc63,hr⟩:=h
 rcases hr with ⟨h0,_⟩|⟨g',sp,e,hBg,hblk,hsp⟩
 ·cases h0
 ·injection e with e
  injection e with e _
  subst e
  have hs:(Tryz.prog.info? 53).map (·.size)=some 5:=by rw[hi0];simp[hzs]
  have hsz:∀w,(Go.sizeOf 53).run Tryz.prog w=.ok 5 w:=fun w=>by simp[sizeOf,typeInfo,hi0,hzs]
  have htl:(vs.take (i*5)).length=i*5:=by rw[List.length_take,hl];omega
  have hdl:(vs.drop (i*5)).length=(n - i)*5:=by rw[List.length_drop,hl];omega
  have hsl:5≤sp.length:=by omega
  have hov:∀lb cb,(callFunc 115 #[.slice (some ⟨vb,0,none⟩) 1 1,.slice (some ⟨g,(i+1)*5,none⟩) lb cb]).run Tryz.prog w=.ok (.value (.bool false)) w:=fun lb cb=>by
   rw[run_callFunc_extern Tryz.func115 (by kernel_rfl) (by kernel_rfl) (by kernel_rfl) (e:=Extern.SlicesOverlaps.overlaps #[23,23] #[4]) (by kernel_rfl),
    Lib.run_overlaps_apart w 23 4 53 Tryz.underlying23 5 hsz ⟨vb,0,none⟩ ⟨g,(i+1)*5,none⟩ 1 1 lb cb hne 53 53 us.length (vs++sp).length hv.shape hblk.shape (by rw[List.length_append,hl];omega) (hv.free _) (hv.free _)]
   rfl
  have B0:Blk w.drew g 53 (vs.take (i*5)++(vs.drop (i*5)++sp.take 5)++sp.drop 5):=by
   have e:vs.take (i*5)++(vs.drop (i*5)++sp.take 5)++sp.drop 5=vs++sp:=by
    rw[←List.append_assoc,List.take_append_drop,List.append_assoc,List.take_append_drop]
   rw[e];exact hblk.drew
  obtain⟨f1,hf1⟩:∃f1,f1=(vs.drop (i*5)++sp.take 5).take 5:=⟨_,rfl⟩;obtain⟨f2,hf2⟩:∃f2,f2=(vs.drop (i*5)++sp.take 5).drop 5:=⟨_,rfl⟩
  have h12:vs.drop (i*5)++sp.take 5=f1++f2:=by rw[hf1,hf2,List.take_append_drop]
  have hl1:f1.length=5:=by rw[hf1,List.length_take,List.length_append,hdl,List.length_take];omega
  have hl2:f2.length=(n - i)*5:=by rw[hf2,List.length_drop,List.length_append,hdl,List.length_take];omega
  rw[h12] at B0
  have B0':Blk w.drew g 53 ((vs.take (i*5)++f1)++f2++sp.drop 5):=by rw[List.append_assoc (vs.take _)];exact B0
  have hcp1:∀ty dc sc,(Builtin.copy_ #[23,23] ty #[.slice (some ⟨g,(i+1)*5,none⟩) (n - i) dc,.slice (some ⟨g,i*5,none⟩) (n+1 - i) sc]).run Tryz.prog w.drew=.ok (goInt (Nat.min (n+1 - i) (n - i))) (w.drew.setCells g ((i+1)*5) (vs.drop (i*5))):=fun ty dc sc=>
   zax w.drew _ _ ty 53 5 g ((i+1)*5) (n - i) dc ⟨g,i*5,none⟩ (n+1 - i) sc (vs.drop (i*5)) Tryz.underlying23 hs (by rw[hdl,show Nat.min (n+1 - i) (n - i)=n - i from Nat.min_eq_right (by omega)])
    (fun j v hj=>by
     rw[Addr.add_lit]
     show w.cell? _=_
     have hj2:=(List.getElem?_eq_some_iff.1 hj).1;rw[hblk.cell,List.getElem?_append_left (by rw[hdl] at hj2;omega)]
     rwa [List.getElem?_drop] at hj)
    (fun j hj=>by
     show (w.cell? _).isSome=true
     rw[hblk.cell,List.getElem?_eq_getElem (by rw[hdl] at hj;rw[List.length_append,hl];omega)];rfl) (fun j _=>hblk.drew.free _) (fun u hu=>h1 u (List.mem_of_mem_drop hu))
  obtain⟨W1,hW1⟩:∃W1,W1=w.drew.setCells g ((i+1)*5) (vs.drop (i*5)):=⟨_,rfl⟩;rw[←hW1] at hcp1
  have B1:Blk W1 g 53 (vs.take (i*5)++f1++(vs.drop (i*5)++sp.drop 5)):=by
   have:=Blk.sets (vs.drop (i*5)) _ _ _ w.drew ((i+1)*5) B0' (by rw[hdl,hl2]) (by rw[List.length_append,htl,hl1];omega)
   rw[hW1,←List.append_assoc];exact this
  have K1:Kept (·=g) w W1:=by rw[hW1];exact Kept.sets _ _ _ kR.drew fun _=>rfl
  have hcp2:∀(W:World),W.cell?=W1.cell?→W.frozen?=W1.frozen?→∀ty dc,(Builtin.copy_ #[23,23] ty #[.slice (some ⟨g,i*5,none⟩) (n+1 - i) dc,.slice (some ⟨vb,0,none⟩) 1 1]).run Tryz.prog W=.ok (goInt (Nat.min 1 (n+1 - i))) (W.setCells g (i*5) us):=fun W hWc hWf ty dc=>
   zax W _ _ ty 53 5 g (i*5) (n+1 - i) dc ⟨vb,0,none⟩ 1 1 us Tryz.underlying23 hs (by rw[hul];simp only[Nat.min_def];split<;>omega)
    (fun j v hj=>by rw[Addr.add_lit,Nat.zero_add,hWc];exact K1.cell ((hv.cell j).trans hj) hne)
    (fun j hj=>by rw[hWc,B1.cell,List.getElem?_eq_getElem (by simp only[List.length_append,htl,hl1,hdl];omega)];rfl) (fun j _=>by rw[hWf];exact B1.free _) h2
  have R3:Hid (∀W:World,Blk W g 53 (vs.take (i*5)++f1++(vs.drop (i*5)++sp.drop 5))→OwnV (W.setCells g (i*5) us) 53 5 B (some ⟨g,0,none⟩) (n+1) c (vs.take (i*5)++us++vs.drop (i*5))):=fun W hW=>by
   have B3:=Blk.sets us _ _ _ W (i*5) hW (by rw[hul,hl1]) htl.symm;rw[←List.append_assoc] at B3;exact⟨by rw[List.length_append,List.length_append,htl,hul,hdl];omega,hc,hc63,.inr ⟨g,_,rfl,hBg,B3,by rw[List.length_append,List.length_append,htl,hul,hdl,List.length_drop];omega⟩⟩
  have B1H:=jH B1;have K1H:=jH K1;have hz3:decide ((c:Int) < (n:Int)+1)=false:=decide_eq_false (by omega)
  have hz2:¬((i:Int)=(n:Int)):=by omega
  have hin:i≤n:=by omega
  have hci:¬(c=i):=by omega
  have hcim:¬(c=i+1):=by omega
  have hw1:IntKind.i64.wrap ((i:Int)+1)=(i:Int)+1:=by rw[IntKind.wrap_i64];omega
  have hb1:(0:Int)≤(i:Int)+1:=by omega
  have htn:((i:Int)+1).toNat=i+1:=by omega
  have htn2:((n:Int)+1).toNat=n+1:=by omega
  have hb2:(i:Int)+1≤(n:Int)+1:=by omega
  have hb3:(i:Int)≤(n:Int)+1:=by omega
  have hb4:(n:Int)+1≤(c:Int):=by omega
  unfold maxLen at hc63;clear hW1 hv h1 h2 hblk hl hsp htl hdl hul K1 B1 hzb B0 B0' h12 hf1 hf2 hl1 hl2 hsl hsz;go_enter Tryz.func101,Tryz.ntmps101
  go_wp2_with (simp only[hov])
  go_region_law (first|refine zcn rfl _ _ 23 23 rfl (.slice (some ⟨g,(i+1)*5,none⟩) (n - i) (c - (i+1))) (.slice (some ⟨g,i*5,none⟩) (n+1 - i) (c - i)) (by simp[Act.eval,Act.put]) (by simp[Act.eval,Act.put]) (hcp1 3 (c - (i+1)) (c - i)) ?_)
  go_wp2_with (at_builtin;refine zbb rfl _ _ 23 23 rfl _ _ rfl rfl (hcp2 W1 rfl rfl _ _) ?_)
  go_ret;exact⟨g,c,rfl,R3.out _ B1H.out,Kept.sets _ _ _ K1H.out fun _=>rfl,.inl rfl⟩
theorem insNe_nil (B vb:Nat) (us:List Value) (w:World) (hv:Blk w vb 53 us) (hul:us.length=5) (h2:∀u∈us,u.oneCell'=true) (hB:B≤w.heap.size):
  Calls Tryz.prog 101 #[.slice none 0 0,.int .i64 0,.slice (some ⟨vb,0,none⟩) 1 1] w (InsA w 53 5 B none 0 us):=by
 have H:Hid (OwnV w 53 5 B none 0 0 []):=OwnV.nil _ _ _ _;have HR:Hid (RowV w (some ⟨vb,0,none⟩) 1 5 us):=zbr hv hul;have H2:=jH h2;clear h2 hv hul;go_enter Tryz.func101,Tryz.ntmps101
 go_wp2_with (first
  | (at_builtin;refine zbp zch Tryz.underlying23 rfl (by omega) _ rfl _ _ rfl B hB none 0 0 [] rfl H.out (some ⟨vb,0,none⟩) 1 1 us rfl HR.out H2.out (by omega) (by omega) ?_)
  | fail)
 all_goals
  intro A2 c2 w' h3 h4 h5
  have E9:Hid (InsA w 53 5 B none 0 us (.returned (.slice A2 (0+1) c2)) w'):=by
   have h3:OwnV w' 53 5 B A2 (0+1) c2 us:=h3.out
   rcases h5.out with rfl|rfl
   ·rcases h3.2.2.2 with ⟨_,h0⟩|⟨g,sp,h0,_⟩
    ·have:=h3.2.1;omega
    ·cases h0
   ·exact⟨_,c2,rfl,h3,h4.out,.inr (Nat.le_refl _)⟩
  clear h3 h4 h5;go_wp2;go_ret;exact E9.out
theorem insNe_any (A:Option Addr) (n c i B vb:Nat) (vs us:List Value) (w:World) (h:OwnV w 53 5 B A n c vs) (h1:∀u∈vs,u.oneCell'=true) (hv:Blk w vb 53 us) (hul:us.length=5) (h2:∀u∈us,u.oneCell'=true) (hne:∀a,A=some a→vb≠a.block) (hB:B≤w.heap.size) (hn:n≤1000000) (hi:i≤n):
  Calls Tryz.prog 101 #[.slice A n c,.int .i64 i,.slice (some ⟨vb,0,none⟩) 1 1] w (InsA w 53 5 B A n (vs.take (i*5)++us++vs.drop (i*5))):=by
 rcases h.2.2.2 with ⟨h0,hc⟩|⟨g,sp,h0,_⟩
 ·subst h0
  obtain rfl:n=0:=by have:=h.2.1;omega
  obtain rfl:i=0:=by omega
  obtain rfl:vs=[]:=List.eq_nil_of_length_eq_zero (by have:=h.1;omega);subst hc
  have:=insNe_nil B vb us w hv hul h2 hB
  simpa using this
 ·subst h0
  have key:Calls Tryz.prog 101 #[.slice (some ⟨g,0,none⟩) n c,.int .i64 i,.slice (some ⟨vb,0,none⟩) 1 1] w (InsP w 53 5 B g n (vs.take (i*5)++us++vs.drop (i*5))):=by
   rcases Nat.lt_or_ge i n with h0|h0
   ·rcases Nat.lt_or_ge c (n+1) with h3|h3
    ·exact insNe_grow g n c i B vb vs us w h h1 hv hul h2 (hne _ rfl) hB hn h0 h3
    ·exact insNe_shift g n c i B vb vs us w h h1 hv hul h2 (hne _ rfl) hB hn h0 h3
   ·exact insNe_end g n c i B vb vs us w h h1 hv hul h2 (hne _ rfl) hB hn (by omega)
  refine key.mono ?_;rintro e w' ⟨g2,c2,h3,h4,h5,h6⟩;exact⟨g2,c2,h3,h4,h5.mono fun _ _ e=>⟨_,rfl,e.symm⟩,h6.imp (fun e=>by rw[e]) id⟩
theorem insNm_end (g n c i B vb:Nat) (vs us:List Value) (w:World) (h:OwnV w 65 2 B (some ⟨g,0,none⟩) n c vs) (h1:∀u∈vs,u.oneCell'=true) (hv:Blk w vb 65 us) (hul:us.length=2) (h2:∀u∈us,u.oneCell'=true) (hne:vb≠g) (hB:B≤w.heap.size) (hn:n≤1000000) (hi:i=n):
  Calls Tryz.prog 102 #[.slice (some ⟨g,0,none⟩) n c,.int .i64 i,.slice (some ⟨vb,0,none⟩) 1 1] w (InsP w 65 2 B g n (vs.take (i*2)++us++vs.drop (i*2))):=by
 subst hi
 have e:vs.take (i*2)++us++vs.drop (i*2)=vs++us:=by
  rw[←h.1,List.take_length,List.drop_length,List.append_nil]
 rw[e];have H:=jH h;have HR:Hid (RowV w (some ⟨vb,0,none⟩) 1 2 us):=zbr hv hul;have H2:=jH h2;clear h h1 h2 hv hul hne e;go_enter Tryz.func102,Tryz.ntmps102
 go_wp2_with (first
  | (at_builtin;refine zbp zcf Tryz.underlying51 rfl (by omega) _ rfl _ _ rfl B hB (some ⟨g,0,none⟩) i c vs rfl H.out (some ⟨vb,0,none⟩) 1 1 us rfl HR.out H2.out (by omega) (by omega) ?_)
  | fail)
 all_goals
  intro A2 c2 w' h3 h4 h5
  have E9:Hid (InsP w 65 2 B g i (vs++us) (.returned (.slice A2 (i+1) c2)) w'):=by
   have h3:=h3.out
   have h4:Kept (·=g) w w':=h4.out.mono fun _ _ ⟨a,ha,e⟩=>by injection ha with ha;subst ha;exact e.symm
   rcases h5.out with rfl|rfl
   ·exact⟨g,c2,rfl,h3,h4,.inl rfl⟩
   ·exact⟨_,c2,rfl,h3,h4,.inr (Nat.le_refl _)⟩
  clear h3 h4 h5;go_wp2;go_ret;exact E9.out
theorem insNm_grow (g n c i B vb:Nat) (vs us:List Value) (w:World) (h:OwnV w 65 2 B (some ⟨g,0,none⟩) n c vs) (h1:∀u∈vs,u.oneCell'=true) (hv:Blk w vb 65 us) (hul:us.length=2) (h2:∀u∈us,u.oneCell'=true) (hne:vb≠g) (hB:B≤w.heap.size) (hn:n≤1000000) (hi:i < n) (hc:c < n+1):
  Calls Tryz.prog 102 #[.slice (some ⟨g,0,none⟩) n c,.int .i64 i,.slice (some ⟨vb,0,none⟩) 1 1] w (InsP w 65 2 B g n (vs.take (i*2)++us++vs.drop (i*2))):=by
 obtain⟨i0,hi0,hz0,hzs,hzb⟩:=info_parts zcf;obtain⟨hl,hnc,hc63,hr⟩:=h
 rcases hr with ⟨h0,_⟩|⟨g',sp,e,hBg,hblk,hsp⟩
 ·cases h0
 ·injection e with e
  injection e with e _
  subst e
  have hs:(Tryz.prog.info? 65).map (·.size)=some 2:=by rw[hi0];simp[hzs]
  have hgw:g < w.heap.size:=hblk.lt;have hvw:vb < w.heap.size:=hv.lt
  have hik:i+(n+1 - i)=n+1:=by omega
  have htl:(vs.take (i*2)).length=i*2:=by rw[List.length_take,hl];omega
  have hold:(Builtin.firstCells i0.size i (.slice (some ⟨g,0,none⟩) i c)).run Tryz.prog w.drew=.ok (vs.take (i*2)).toArray w.drew:=by
   rw[hzs]
   exact run_firstCells_some w.drew 2 i ⟨g,0,none⟩ i c (vs.take (i*2)) htl (fun j v hj=>by
    rw[Addr.add_lit,Nat.zero_add]
    show w.cell? _=_
    have hj2:=(List.getElem?_eq_some_iff.1 hj).1;rw[hblk.cell,List.getElem?_append_left (by rw[htl] at hj2;omega)];rw[List.getElem?_take] at hj
    split at hj
    ·exact hj
    ·cases hj)
  have hrz:∀ty,(Builtin.append_ #[51,3] ty #[.slice (some ⟨g,0,none⟩) i c,.int .i64 (((n:Nat):Int)+1 - ((i:Nat):Int))]).run Tryz.prog w =
    .ok (.slice (some ⟨w.heap.size,0,none⟩) (n+1) (grownCap w (n+1) c 65)) (w.drew.alloc (.cells ((vs.take (i*2)).toArray++Builtin.zeroCells (Value.cells (.agg #[.string ⟨#[]⟩,.int .i64 0])) (n+1 - i)++Builtin.zeroCells (Value.cells (.agg #[.string ⟨#[]⟩,.int .i64 0])) (grownCap w (n+1) c 65 - (n+1))) 65)):=fun ty=>by
   have h:=Lib.run_append_grow_zeros w 51 3 ty 65 i0 _ .i64 .i64 Tryz.underlying51 Tryz.underlying3 hi0 hz0 (some ⟨g,0,none⟩) i c (vs.take (i*2)) hold (n+1 - i) (by omega) (by omega) (by omega) (by omega) (by rw[hzb];omega) (by rw[hzb,hik];exact growslice_fits hc (by omega));rw[hik] at h;rw[show ((n:Nat):Int)+1 - ((i:Nat):Int)=((n+1 - i:Nat):Int) by omega];exact h
  obtain⟨G,hG⟩:∃G,G=grownCap w (n+1) c 65:=⟨_,rfl⟩
  have hGn:n+1≤G:=by rw[hG];exact grownCap_ge w _ _ _
  have hG63:G≤maxLen:=by rw[hG];exact grownCap_le_maxLen w (n+1) c 65 (by unfold maxLen;omega)
  rw[←hG] at hrz;obtain⟨ROW,hROW⟩:∃ROW:Array Value,ROW=(vs.take (i*2)).toArray++Builtin.zeroCells (Value.cells (.agg #[.string ⟨#[]⟩,.int .i64 0])) (n+1 - i)++Builtin.zeroCells (Value.cells (.agg #[.string ⟨#[]⟩,.int .i64 0])) (G - (n+1)):=⟨_,rfl⟩;rw[←hROW] at hrz
  have hRL:ROW.toList=vs.take (i*2)++zer [.string ⟨#[]⟩,.int .i64 0] (n+1 - i)++zer [.string ⟨#[]⟩,.int .i64 0] (G - (n+1)):=by
   rw[hROW];simp only[Array.toList_append];rw[zbo _ _ (by simp[Value.cells]),zbo _ _ (by simp[Value.cells])]
   rfl
  obtain⟨W1,hW1⟩:∃W1,W1=w.drew.alloc (.cells ROW 65):=⟨_,rfl⟩;rw[←hW1] at hrz;obtain⟨gn,hgn⟩:∃gn,gn=w.heap.size:=⟨_,rfl⟩;rw[←hgn] at hrz
  have B1:Blk W1 gn 65 (vs.take (i*2)++zer [.string ⟨#[]⟩,.int .i64 0] 1++(zer [.string ⟨#[]⟩,.int .i64 0] (n - i)++zer [.string ⟨#[]⟩,.int .i64 0] (G - (n+1)))):=by
   have:=Blk.made w.drew 65 ROW
   rw[hRL,show n+1 - i=1+(n - i) by omega,zer_app,List.append_assoc,List.append_assoc] at this;rw[hW1,hgn,List.append_assoc];exact this
  have K1:New w W1:=by rw[hW1];exact kR.drew.alloc _
  have hcpA:∀ty dc,(Builtin.copy_ #[51,51] ty #[.slice (some ⟨gn,i*2,none⟩) (n+1 - i) dc,.slice (some ⟨vb,0,none⟩) 1 1]).run Tryz.prog W1=.ok (goInt (Nat.min 1 (n+1 - i))) (W1.setCells gn (i*2) us):=fun ty dc=>
   zax W1 _ _ ty 65 2 gn (i*2) (n+1 - i) dc ⟨vb,0,none⟩ 1 1 us Tryz.underlying51 hs (by rw[hul];simp only[Nat.min_def];split<;>omega)
    (fun j v hj=>by rw[Addr.add_lit,Nat.zero_add];exact K1.cell ((hv.cell j).trans hj) id)
    (fun j hj=>by rw[B1.cell,List.getElem?_eq_getElem (by rw[List.length_append,List.length_append,htl,zbl];simp;omega)];rfl) (fun j _=>B1.free _) h2
  obtain⟨W2,hW2⟩:∃W2,W2=W1.setCells gn (i*2) us:=⟨_,rfl⟩;rw[←hW2] at hcpA
  have B2:Blk W2 gn 65 ((vs.take (i*2)++us)++zer [.string ⟨#[]⟩,.int .i64 0] (n - i)++zer [.string ⟨#[]⟩,.int .i64 0] (G - (n+1))):=by
   have:=Blk.sets us _ _ _ W1 (i*2) B1 (by rw[hul,zbl];rfl) htl.symm
   rw[hW2,List.append_assoc (_++us)];exact this
  have K2:New w W2:=by rw[hW2];exact Kept.sets _ _ _ K1 fun hh=>absurd hh (by omega)
  have hdl:(vs.drop (i*2)).length=(n - i)*2:=by rw[List.length_drop,hl];omega
  have hcpB:∀(W:World),W.cell?=W2.cell?→W.frozen?=W2.frozen?→∀ty dc sc,(Builtin.copy_ #[51,51] ty #[.slice (some ⟨gn,(i+1)*2,none⟩) (n - i) dc,.slice (some ⟨g,i*2,none⟩) (n - i) sc]).run Tryz.prog W=.ok (goInt (Nat.min (n - i) (n - i))) (W.setCells gn ((i+1)*2) (vs.drop (i*2))):=fun W hWc hWf ty dc sc=>
   zax W _ _ ty 65 2 gn ((i+1)*2) (n - i) dc ⟨g,i*2,none⟩ (n - i) sc (vs.drop (i*2)) Tryz.underlying51 hs (by rw[hdl,show Nat.min (n - i) (n - i)=n - i from Nat.min_self _])
    (fun j v hj=>by
     rw[Addr.add_lit,hWc];refine K2.cell ?_ id;have hj2:=(List.getElem?_eq_some_iff.1 hj).1;rw[hblk.cell,List.getElem?_append_left (by rw[hdl] at hj2;omega)]
     rwa [List.getElem?_drop] at hj)
    (fun j hj=>by rw[hWc,B2.cell,List.getElem?_eq_getElem (by rw[hdl] at hj;simp only[List.length_append,htl,zbl,hul];simp;omega)];rfl) (fun j _=>by rw[hWf];exact B2.free _) (fun u hu=>h1 u (List.mem_of_mem_drop hu))
  have R3:Hid (∀W:World,Blk W gn 65 ((vs.take (i*2)++us)++zer [.string ⟨#[]⟩,.int .i64 0] (n - i)++zer [.string ⟨#[]⟩,.int .i64 0] (G - (n+1)))→OwnV (W.setCells gn ((i+1)*2) (vs.drop (i*2))) 65 2 B (some ⟨gn,0,none⟩) (n+1) G (vs.take (i*2)++us++vs.drop (i*2))):=fun W hW=>by
   have B3:=Blk.sets (vs.drop (i*2)) _ _ _ W ((i+1)*2) hW (by rw[hdl,zbl];rfl) (by rw[List.length_append,htl,hul,Nat.add_mul,Nat.one_mul]);exact⟨by rw[List.length_append,List.length_append,htl,hul,hdl];omega,hGn,hG63,.inr ⟨gn,_,rfl,by omega,B3,by rw[List.length_append,List.length_append,htl,hul,hdl,zbl];simp;omega⟩⟩
  have B2H:=jH B2;have K2H:=jH K2;have HGN:Hid (gn=w.heap.size):=hgn;have HW1:=jH hW1;have HW2:=jH hW2
  have hz3:(c:Int) < (n:Int)+1:=by omega
  have hin:i≤n:=by omega
  have hGi:¬(G=i):=by omega
  have hGim:¬(G=i+1):=by omega
  have hci:¬(c=i):=by omega
  have hw1:IntKind.i64.wrap ((i:Int)+1)=(i:Int)+1:=by rw[IntKind.wrap_i64];omega
  have hb1:(0:Int)≤(i:Int)+1:=by omega
  have htn:((i:Int)+1).toNat=i+1:=by omega
  have hb3:(i:Int)≤(n:Int):=by omega
  unfold maxLen at hG63 hc63;clear hW1 hW2 hgn hv h1 h2 hblk hold hROW hRL hl hsp htl hdl hul K1 K2 B1 B2 hzb hG;go_enter Tryz.func102,Tryz.ntmps102
  go_wp2_with (first
   | (at_builtin;refine Lib.wpList_append_run _ rfl _ _ _ _ rfl _ _ rfl rfl _ _ (hrz _) ?_)
   | (at_builtin;refine zbb rfl _ _ 51 51 rfl _ _ rfl rfl (hcpA _ _) ?_))
  go_region_law (first|refine zcn rfl _ _ 51 51 rfl (.slice (some ⟨gn,(i+1)*2,none⟩) (n - i) (G - (i+1))) (.slice (some ⟨g,i*2,none⟩) (n - i) (c - i)) (by simp[Act.eval,Act.put]) (by simp[Act.eval,Act.put]) (hcpB W2.drew rfl rfl 3 (G - (i+1)) (c - i)) ?_)
  go_wp2;go_ret;refine⟨gn,G,rfl,R3.out _ B2H.out,Kept.sets _ _ _ ?_ fun hh=>absurd hh (by rw[HGN.out];exact Nat.lt_irrefl _),.inr (by rw[HGN.out];exact Nat.le_refl _)⟩;exact (K2H.out.mono fun _ _ f=>f.elim).drew
theorem insNm_shift (g n c i B vb:Nat) (vs us:List Value) (w:World) (h:OwnV w 65 2 B (some ⟨g,0,none⟩) n c vs) (h1:∀u∈vs,u.oneCell'=true) (hv:Blk w vb 65 us) (hul:us.length=2) (h2:∀u∈us,u.oneCell'=true) (hne:vb≠g) (hB:B≤w.heap.size) (hn:n≤1000000) (hi:i < n) (hc:n+1≤c):
  Calls Tryz.prog 102 #[.slice (some ⟨g,0,none⟩) n c,.int .i64 i,.slice (some ⟨vb,0,none⟩) 1 1] w (InsP w 65 2 B g n (vs.take (i*2)++us++vs.drop (i*2))):=by
 obtain⟨i0,hi0,hz0,hzs,hzb⟩:=info_parts zcf;obtain⟨hl,hnc,hc63,hr⟩:=h
 rcases hr with ⟨h0,_⟩|⟨g',sp,e,hBg,hblk,hsp⟩
 ·cases h0
 ·injection e with e
  injection e with e _
  subst e
  have hs:(Tryz.prog.info? 65).map (·.size)=some 2:=by rw[hi0];simp[hzs]
  have hsz:∀w,(Go.sizeOf 65).run Tryz.prog w=.ok 2 w:=fun w=>by simp[sizeOf,typeInfo,hi0,hzs]
  have htl:(vs.take (i*2)).length=i*2:=by rw[List.length_take,hl];omega
  have hdl:(vs.drop (i*2)).length=(n - i)*2:=by rw[List.length_drop,hl];omega
  have hsl:2≤sp.length:=by omega
  have hov:∀lb cb,(callFunc 117 #[.slice (some ⟨vb,0,none⟩) 1 1,.slice (some ⟨g,(i+1)*2,none⟩) lb cb]).run Tryz.prog w=.ok (.value (.bool false)) w:=fun lb cb=>by
   rw[run_callFunc_extern Tryz.func117 (by kernel_rfl) (by kernel_rfl) (by kernel_rfl) (e:=Extern.SlicesOverlaps.overlaps #[51,51] #[4]) (by kernel_rfl),
    Lib.run_overlaps_apart w 51 4 65 Tryz.underlying51 2 hsz ⟨vb,0,none⟩ ⟨g,(i+1)*2,none⟩ 1 1 lb cb hne 65 65 us.length (vs++sp).length hv.shape hblk.shape (by rw[List.length_append,hl];omega) (hv.free _) (hv.free _)]
   rfl
  have B0:Blk w.drew g 65 (vs.take (i*2)++(vs.drop (i*2)++sp.take 2)++sp.drop 2):=by
   have e:vs.take (i*2)++(vs.drop (i*2)++sp.take 2)++sp.drop 2=vs++sp:=by
    rw[←List.append_assoc,List.take_append_drop,List.append_assoc,List.take_append_drop]
   rw[e];exact hblk.drew
  obtain⟨f1,hf1⟩:∃f1,f1=(vs.drop (i*2)++sp.take 2).take 2:=⟨_,rfl⟩;obtain⟨f2,hf2⟩:∃f2,f2=(vs.drop (i*2)++sp.take 2).drop 2:=⟨_,rfl⟩
  have h12:vs.drop (i*2)++sp.take 2=f1++f2:=by rw[hf1,hf2,List.take_append_drop]
  have hl1:f1.length=2:=by rw[hf1,List.length_take,List.length_append,hdl,List.length_take];omega
  have hl2:f2.length=(n - i)*2:=by rw[hf2,List.length_drop,List.length_append,hdl,List.length_take];omega
  rw[h12] at B0
  have B0':Blk w.drew g 65 ((vs.take (i*2)++f1)++f2++sp.drop 2):=by rw[List.append_assoc (vs.take _)];exact B0
  have hcp1:∀ty dc sc,(Builtin.copy_ #[51,51] ty #[.slice (some ⟨g,(i+1)*2,none⟩) (n - i) dc,.slice (some ⟨g,i*2,none⟩) (n+1 - i) sc]).run Tryz.prog w.drew=.ok (goInt (Nat.min (n+1 - i) (n - i))) (w.drew.setCells g ((i+1)*2) (vs.drop (i*2))):=fun ty dc sc=>
   zax w.drew _ _ ty 65 2 g ((i+1)*2) (n - i) dc ⟨g,i*2,none⟩ (n+1 - i) sc (vs.drop (i*2)) Tryz.underlying51 hs (by rw[hdl,show Nat.min (n+1 - i) (n - i)=n - i from Nat.min_eq_right (by omega)])
    (fun j v hj=>by
     rw[Addr.add_lit]
     show w.cell? _=_
     have hj2:=(List.getElem?_eq_some_iff.1 hj).1;rw[hblk.cell,List.getElem?_append_left (by rw[hdl] at hj2;omega)]
     rwa [List.getElem?_drop] at hj)
    (fun j hj=>by
     show (w.cell? _).isSome=true
     rw[hblk.cell,List.getElem?_eq_getElem (by rw[hdl] at hj;rw[List.length_append,hl];omega)];rfl) (fun j _=>hblk.drew.free _) (fun u hu=>h1 u (List.mem_of_mem_drop hu))
  obtain⟨W1,hW1⟩:∃W1,W1=w.drew.setCells g ((i+1)*2) (vs.drop (i*2)):=⟨_,rfl⟩;rw[←hW1] at hcp1
  have B1:Blk W1 g 65 (vs.take (i*2)++f1++(vs.drop (i*2)++sp.drop 2)):=by
   have:=Blk.sets (vs.drop (i*2)) _ _ _ w.drew ((i+1)*2) B0' (by rw[hdl,hl2]) (by rw[List.length_append,htl,hl1];omega)
   rw[hW1,←List.append_assoc];exact this
  have K1:Kept (·=g) w W1:=by rw[hW1];exact Kept.sets _ _ _ kR.drew fun _=>rfl
  have hcp2:∀(W:World),W.cell?=W1.cell?→W.frozen?=W1.frozen?→∀ty dc,(Builtin.copy_ #[51,51] ty #[.slice (some ⟨g,i*2,none⟩) (n+1 - i) dc,.slice (some ⟨vb,0,none⟩) 1 1]).run Tryz.prog W=.ok (goInt (Nat.min 1 (n+1 - i))) (W.setCells g (i*2) us):=fun W hWc hWf ty dc=>
   zax W _ _ ty 65 2 g (i*2) (n+1 - i) dc ⟨vb,0,none⟩ 1 1 us Tryz.underlying51 hs (by rw[hul];simp only[Nat.min_def];split<;>omega)
    (fun j v hj=>by rw[Addr.add_lit,Nat.zero_add,hWc];exact K1.cell ((hv.cell j).trans hj) hne)
    (fun j hj=>by rw[hWc,B1.cell,List.getElem?_eq_getElem (by simp only[List.length_append,htl,hl1,hdl];omega)];rfl) (fun j _=>by rw[hWf];exact B1.free _) h2
  have R3:Hid (∀W:World,Blk W g 65 (vs.take (i*2)++f1++(vs.drop (i*2)++sp.drop 2))→OwnV (W.setCells g (i*2) us) 65 2 B (some ⟨g,0,none⟩) (n+1) c (vs.take (i*2)++us++vs.drop (i*2))):=fun W hW=>by
   have B3:=Blk.sets us _ _ _ W (i*2) hW (by rw[hul,hl1]) htl.symm;rw[←List.append_assoc] at B3;exact⟨by rw[List.length_append,List.length_append,htl,hul,hdl];omega,hc,hc63,.inr ⟨g,_,rfl,hBg,B3,by rw[List.length_append,List.length_append,htl,hul,hdl,List.length_drop];omega⟩⟩
  have B1H:=jH B1;have K1H:=jH K1;have hz3:decide ((c:Int) < (n:Int)+1)=false:=decide_eq_false (by omega)
  have hz2:¬((i:Int)=(n:Int)):=by omega
  have hin:i≤n:=by omega
  have hci:¬(c=i):=by omega
  have hcim:¬(c=i+1):=by omega
  have hw1:IntKind.i64.wrap ((i:Int)+1)=(i:Int)+1:=by rw[IntKind.wrap_i64];omega
  have hb1:(0:Int)≤(i:Int)+1:=by omega
  have htn:((i:Int)+1).toNat=i+1:=by omega
  have htn2:((n:Int)+1).toNat=n+1:=by omega
  have hb2:(i:Int)+1≤(n:Int)+1:=by omega
  have hb3:(i:Int)≤(n:Int)+1:=by omega
  have hb4:(n:Int)+1≤(c:Int):=by omega
  unfold maxLen at hc63;clear hW1 hv h1 h2 hblk hl hsp htl hdl hul K1 B1 hzb B0 B0' h12 hf1 hf2 hl1 hl2 hsl hsz;go_enter Tryz.func102,Tryz.ntmps102
  go_wp2_with (simp only[hov])
  go_region_law (first|refine zcn rfl _ _ 51 51 rfl (.slice (some ⟨g,(i+1)*2,none⟩) (n - i) (c - (i+1))) (.slice (some ⟨g,i*2,none⟩) (n+1 - i) (c - i)) (by simp[Act.eval,Act.put]) (by simp[Act.eval,Act.put]) (hcp1 3 (c - (i+1)) (c - i)) ?_)
  go_wp2_with (at_builtin;refine zbb rfl _ _ 51 51 rfl _ _ rfl rfl (hcp2 W1 rfl rfl _ _) ?_)
  go_ret;exact⟨g,c,rfl,R3.out _ B1H.out,Kept.sets _ _ _ K1H.out fun _=>rfl,.inl rfl⟩
theorem insNm_nil (B vb:Nat) (us:List Value) (w:World) (hv:Blk w vb 65 us) (hul:us.length=2) (h2:∀u∈us,u.oneCell'=true) (hB:B≤w.heap.size):
  Calls Tryz.prog 102 #[.slice none 0 0,.int .i64 0,.slice (some ⟨vb,0,none⟩) 1 1] w (InsA w 65 2 B none 0 us):=by
 have H:Hid (OwnV w 65 2 B none 0 0 []):=OwnV.nil _ _ _ _;have HR:Hid (RowV w (some ⟨vb,0,none⟩) 1 2 us):=zbr hv hul;have H2:=jH h2;clear h2 hv hul;go_enter Tryz.func102,Tryz.ntmps102
 go_wp2_with (first
  | (at_builtin;refine zbp zcf Tryz.underlying51 rfl (by omega) _ rfl _ _ rfl B hB none 0 0 [] rfl H.out (some ⟨vb,0,none⟩) 1 1 us rfl HR.out H2.out (by omega) (by omega) ?_)
  | fail)
 all_goals
  intro A2 c2 w' h3 h4 h5
  have E9:Hid (InsA w 65 2 B none 0 us (.returned (.slice A2 (0+1) c2)) w'):=by
   have h3:OwnV w' 65 2 B A2 (0+1) c2 us:=h3.out
   rcases h5.out with rfl|rfl
   ·rcases h3.2.2.2 with ⟨_,h0⟩|⟨g,sp,h0,_⟩
    ·have:=h3.2.1;omega
    ·cases h0
   ·exact⟨_,c2,rfl,h3,h4.out,.inr (Nat.le_refl _)⟩
  clear h3 h4 h5;go_wp2;go_ret;exact E9.out
theorem insNm_any (A:Option Addr) (n c i B vb:Nat) (vs us:List Value) (w:World) (h:OwnV w 65 2 B A n c vs) (h1:∀u∈vs,u.oneCell'=true) (hv:Blk w vb 65 us) (hul:us.length=2) (h2:∀u∈us,u.oneCell'=true) (hne:∀a,A=some a→vb≠a.block) (hB:B≤w.heap.size) (hn:n≤1000000) (hi:i≤n):
  Calls Tryz.prog 102 #[.slice A n c,.int .i64 i,.slice (some ⟨vb,0,none⟩) 1 1] w (InsA w 65 2 B A n (vs.take (i*2)++us++vs.drop (i*2))):=by
 rcases h.2.2.2 with ⟨h0,hc⟩|⟨g,sp,h0,_⟩
 ·subst h0
  obtain rfl:n=0:=by have:=h.2.1;omega
  obtain rfl:i=0:=by omega
  obtain rfl:vs=[]:=List.eq_nil_of_length_eq_zero (by have:=h.1;omega);subst hc
  have:=insNm_nil B vb us w hv hul h2 hB
  simpa using this
 ·subst h0
  have key:Calls Tryz.prog 102 #[.slice (some ⟨g,0,none⟩) n c,.int .i64 i,.slice (some ⟨vb,0,none⟩) 1 1] w (InsP w 65 2 B g n (vs.take (i*2)++us++vs.drop (i*2))):=by
   rcases Nat.lt_or_ge i n with h0|h0
   ·rcases Nat.lt_or_ge c (n+1) with h3|h3
    ·exact insNm_grow g n c i B vb vs us w h h1 hv hul h2 (hne _ rfl) hB hn h0 h3
    ·exact insNm_shift g n c i B vb vs us w h h1 hv hul h2 (hne _ rfl) hB hn h0 h3
   ·exact insNm_end g n c i B vb vs us w h h1 hv hul h2 (hne _ rfl) hB hn (by omega)
  refine key.mono ?_;rintro e w' ⟨g2,c2,h3,h4,h5,h6⟩;exact⟨g2,c2,h3,h4,h5.mono fun _ _ e=>⟨_,rfl,e.symm⟩,h6.imp (fun e=>by rw[e]) id⟩
end
end Go.Proofs.YtjjamoemheljdaaGreat
