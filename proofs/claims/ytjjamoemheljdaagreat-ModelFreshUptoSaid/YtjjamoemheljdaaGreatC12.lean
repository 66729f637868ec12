/-
  Layer 7: contracts (Pj).
-/
import Derived.Test.YtjjamoemheljdaaGreatC11
namespace Go.Proofs.YtjjamoemheljdaaGreat
set_option maxRecDepth 100000
set_option maxHeartbeats 8000000
set_option linter.unusedSimpArgs false
set_option linter.unusedVariables false
section
open Go.RowKit
theorem zcf:(Tryz.prog.info? 65).map (fun i=>(i.zero,i.size,i.bytes))=some (some (.agg #[.string ⟨#[]⟩,.int .i64 0]),2,24):=by kernel_rfl
theorem zch:(Tryz.prog.info? 53).map (fun i=>(i.zero,i.size,i.bytes))=some (some (.agg #[.int .i64 0,.int .u8 0,.int .i64 0,.slice none 0 0,.slice none 0 0]),5,72):=by kernel_rfl
section
variable {P:Program}
theorem zai {t T:TypeId} {z:Value} {sz by_:Nat} (hinf:(P.info? t).map (fun i=>(i.zero,i.size,i.bytes))=some (some z,sz,by_)) (hu:P.underlying T=some (.slice t)) (hzs:z.cells.size=sz) (hsz:0 < sz)
  {ops:Array Oper} {rest:List Oper} {o:Oper} {a:Act} {Q:Exit→Act→World→Prop} (w0 w:World) (hgd:o.guard=none) (s x:Operand)
  (ho:o.op=.call { callee:=.builtin .append,args:=#[s,x],argTypes:=#[T,T] }) (hk:New w0 w) (B:Nat) (hB:w0.heap.size≤B) (hBw:B≤w.heap.size)
  (A:Option Addr) (n c:Nat) (vs:List Value) (hsv:a.eval s=.slice A n c) (hown:OwnV w t sz B A n c vs) (A':Option Addr) (m c':Nat) (us:List Value) (hx:a.eval x=.slice A' m c') (hr:RowV w A' m sz us)
  (h1:∀u∈us,u.oneCell'=true) (hbytes:(n+m)*by_≤140737488355328) (hsmall:n+m≤140737488355328)
  (h:∀A2 c2 w',Hid (OwnV w' t sz B A2 (n+m) c2 (vs++us))→Hid (New w0 w')→Hid (Kept (zak A) w w')→wpList P ops Q rest (a.put o.dst (.slice A2 (n+m) c2)) w'):
  wpList P ops Q (o::rest) a w:=by
 obtain⟨i0,hi,hz0,hz1,hz2⟩:=info_parts hinf;subst hz1 hz2;refine zca w hgd s x T ho t i0 z hu hi hz0 hzs hsz B A n c vs hsv hown A' m c' us hx hr h1 hbytes hsmall hBw ?_;intro A2 c2 w' h3 h4 _;refine h A2 c2 w' h3 (Kept.of_ownV hk hown hB h4.out) ((Kept.refl (zak A) w).grown h4.out fun q _ hA=>?_);obtain⟨b,hb,e⟩:=Option.map_eq_some_iff.1 hA;exact⟨b,hb,e⟩
end
def TreeP (w:World) (T:TT) (e:Ending) (w':World):Prop:=
 ∃A c es,e=.returned (.agg #[.int .i64 T.p,.slice A es.length c])∧nds es=T.l∧TOwn w' w.heap.size A c es∧New w w'
theorem NOwn.kept {w w':World} {B:Nat} {A:Option Addr} {e:NE} (h:NOwn w B e) (hk:Kept (zak A) w w') (hA:∀a,A=some a→At w a.block 53):NOwn w' B e:=by
 refine⟨h.1.kept hk fun a ha ⟨b,hb,e2⟩=>?_,h.2.kept hk fun a ha ⟨b,hb,e2⟩=>?_⟩
 ·exact (h.1.at_ a ha).1.ne_of (e2 ▸ hA b hb) (by decide) rfl
 ·exact (h.2.at_ a ha).1.ne_of (e2 ▸ hA b hb) (by decide) rfl
theorem nes_app (es:List NE) (e:NE):nes (es++[e])=nes es++e.cells:=by
 show flt NE.cells (es++[e])=_
 rw[zcp];simp[flt]
theorem TOwn.more {w w':World} {B:Nat} {A A2:Option Addr} {c c2 k:Nat} {es:List NE} {e:NE} (h:TOwn w B A c es) (hk:Kept (zak A) w w') (he:NOwn w' B e) (hl:es.length=k)
  (ho:OwnV w' 53 5 B A2 (k+1) c2 (nes es++e.cells)):TOwn w' B A2 c2 (es++[e]):=by
 subst hl;refine⟨by rw[nes_app,List.length_append];exact ho,fun x hx=>?_⟩
 rcases List.mem_append.1 hx with hx|hx
 ·exact (h.2 x hx).kept hk fun a ha=>(h.1.at_ a ha).1
 ·simp at hx;subst hx;exact he
theorem TOwn.box {w w':World} {B gx:Nat} {A:Option Addr} {c:Nat} {es:List NE} (h:TOwn w B A c es) (hk:Kept (·=gx) w w') (hg:At w gx 53) (hA:∀a,A=some a→¬a.block=gx):TOwn w' B A c es:=
 ⟨h.1.kept hk hA,fun e he=>⟨(h.2 e he).1.kept hk fun a ha e2=>((h.2 e he).1.at_ a ha).1.ne_of hg (by decide) e2,(h.2 e he).2.kept hk fun a ha e2=>((h.2 e he).2.at_ a ha).1.ne_of hg (by decide) e2⟩⟩
theorem TOwn.far {w w':World} {B gx:Nat} {t:TypeId} {A:Option Addr} {c:Nat} {es:List NE} (h:TOwn w B A c es) (hk:Kept (·=gx) w w') (hg:At w gx t) (h1:53≠t) (h2:65≠t) (h3:5≠t):TOwn w' B A c es:=
 ⟨h.1.kept hk fun a ha e2=>(h.1.at_ a ha).1.ne_of hg h1 e2,fun e he=>⟨(h.2 e he).1.kept hk fun a ha e2=>((h.2 e he).1.at_ a ha).1.ne_of hg h2 e2,(h.2 e he).2.kept hk fun a ha e2=>((h.2 e he).2.at_ a ha).1.ne_of hg h3 e2⟩⟩
theorem nds_app (es:List NE) (e:NE):nds (es++[e])=nds es++[e.n]:=by unfold nds;simp
theorem zbz (i k l:Int) (A B:Option Addr) (m c b d:Nat):∀u∈[Value.int .i64 i,.int .u8 k,.int .i64 l,.slice A m c,.slice B b d],u.oneCell'=true:=by
 intro u hu;simp at hu;rcases hu with rfl|rfl|rfl|rfl|rfl<;>rfl
theorem nms_one:∀(ns:List (ByteArray×Nat)),∀u∈nms ns,u.oneCell'=true
 | [],u,hu=>by cases hu
 | e::r,u,hu=>by
  rcases List.mem_append.1 (show u∈nmc e++nms r from hu) with h|h
  ·unfold nmc at h;simp at h;rcases h with rfl|rfl<;>rfl
  ·exact nms_one r u h
theorem zbr {w:World} {g:Nat} {t:TypeId} {us:List Value} {sz:Nat} (h:Blk w g t us) (hl:us.length=sz):RowV w (some ⟨g,0,none⟩) 1 sz us:=
 ⟨by rw[hl];omega,fun _=>⟨g,0,rfl,fun j v hj=>by rw[Nat.zero_add,h.cell];exact hj⟩⟩
theorem rnew_any (p:Nat) (w:World) (h1:1≤p) (h2:p≤255):Calls Tryz.prog 11 #[.int .i64 p] w
  fun e w'=>∃A c es,e=.returned (.tuple #[.agg #[.int .i64 p,.slice A es.length c],.int .i64 0])∧nds es=[⟨1,1,1,[],[]⟩]∧TOwn w' w.heap.size A c es∧New w w':=by
 have d1:decide (((p:Nat):Int) < 1)=false:=decide_eq_false (by omega);have d2:decide ((255:Int) < ((p:Nat):Int))=false:=decide_eq_false (by omega);obtain⟨w2,hw2⟩:∃w2,w2=(w.alloc (.cells #[.int .i64 p,.slice (some ⟨w.heap.size+1,0,none⟩) 1 1] 25)).alloc (.cells #[.int .i64 1,.int .u8 1,.int .i64 1,.slice none 0 0,.slice none 0 0] 53):=⟨_,rfl⟩
 have K2:Hid (New w w2):=by rw[hw2];exact (kR.alloc _).alloc _
 have B1:Hid (Blk w2 w.heap.size 25 [.int .i64 p,.slice (some ⟨w.heap.size+1,0,none⟩) 1 1]):=by rw[hw2];exact (Blk.made w _ _).alloc _
 have B2:Hid (Blk w2 (w.heap.size+1) 53 [.int .i64 1,.int .u8 1,.int .i64 1,.slice none 0 0,.slice none 0 0]):=by
  rw[hw2]
  have:=Blk.made (w.alloc (.cells #[.int .i64 p,.slice (some ⟨w.heap.size+1,0,none⟩) 1 1] 25)) 53 #[.int .i64 1,.int .u8 1,.int .i64 1,.slice none 0 0,.slice none 0 0]
  rwa [World.size_alloc] at this
 have HW:=jH hw2;clear hw2;go_enter Tryz.func11,Tryz.ntmps11;go_wp2;rw[←HW.out];obtain⟨d0,d1⟩:=B1.out.p2;refine bodyPost_ret (by simp[results,Tryz.results11,go_sem,d0,d1];try rfl) rfl ?_;refine⟨some ⟨w.heap.size+1,0,none⟩,1,[⟨⟨1,1,1,[],[]⟩,none,0,none,0⟩],rfl,rfl,⟨?_,?_⟩,K2.out⟩
 ·exact⟨rfl,Nat.le_refl _,by unfold maxLen;omega,.inr ⟨w.heap.size+1,[],rfl,by omega,B2.out,rfl⟩⟩
 ·intro e he;simp at he;subst he;exact⟨OwnV.nil _ _ _ _,OwnB.nil _ _ _⟩
theorem zau (p:Nat) (A:Option Addr) (n c:Nat) (es:List NE) (w:World) (h:TIn w A es) (hn:es.length=n) (hR:Rt ⟨p,nds es⟩):
  Calls Tryz.prog 15 #[.agg #[.int .i64 p,.slice A n c]] w (TreeP w ⟨p,nds es⟩):=by
 have hm:n≤48:=by have:=hR.len;rwa [zab,hn] at this
 obtain⟨w1,hw1⟩:∃w1,w1=(w.alloc (.cells #[.int .i64 p,.slice A n c] 25)).alloc (.cells #[.int .i64 0,.slice none 0 0] 25):=⟨_,rfl⟩
 have n1:New w w1:=by rw[hw1];exact (kR.alloc _).alloc _
 have BT:Hid (∀u,New w1 u→u.cell? ⟨w.heap.size,0,none⟩=some (.int .i64 p)∧u.cell? ⟨w.heap.size,1,none⟩=some (.slice A n c)):=fun u hu=>by
  have:Blk w1 w.heap.size 25 [.int .i64 p,.slice A n c]:=by rw[hw1];exact (Blk.made w _ _).alloc _
  have:=this.kept hu id
  exact⟨this.cell 0,this.cell 1⟩
 have BR:Hid (Blk w1 (w.heap.size+1) 25 [.int .i64 0,.slice none 0 0]):=by
  have:=Blk.made (w.alloc (.cells #[.int .i64 p,.slice A n c] 25)) 25 #[.int .i64 0,.slice none 0 0]
  rw[World.size_alloc] at this;rw[hw1];exact this
 have H:=jH (h.new n1);have N1:=jH n1;have HW:=jH hw1;have LN:=jH hn;have RR:=jH hR
 have LE:Hid (∀x∈es,x.n.ns.length≤288∧x.n.b.length≤2040):=fun x hx=>⟨hR.ns_le (zay hx),hR.b_le (zay hx)⟩
 have WS:=jH (fun (u:World) (A:Option Addr) (c:Nat) (es:List NE) (h:TOwn u w1.heap.size A c es)=>h.mono n1.size);clear h n1 hw1 hn hR;go_enter Tryz.func15,Tryz.ntmps15;go_wp2_with fail;rw[←HW.out];clear HW;obtain⟨gk,hgk⟩:∃gk,gk=w.heap.size:=⟨_,rfl⟩;rw[←hgk] at BT BR ⊢;have GK:=jH hgk;clear hgk
 go_loopw [3,4] (fun q i wr=>∃(k:Nat) (A':Option Addr) (c':Nat) (es':List NE),k≤n∧i=.int .i64 k∧q=.slice A' k c'∧Hid (TOwn wr w1.heap.size A' c' es')∧Hid (nds es'=(nds es).take k)∧Hid (New w1 wr)) (fun _ i _=>n - (intOf i).toNat)
 case atStart=>exact⟨0,none,0,[],Nat.zero_le _,rfl,rfl,TOwn.nil _ _,rfl,kR⟩
 case round=>
  obtain⟨k,A',c',es',hk,rfl,rfl,VO,VF,VN⟩:=hrel
  have HLN:Hid (es'.length=k):=by
   have h1:=congrArg List.length VF.out;rw[zab,List.length_take,zab,LN.out] at h1;rw[Hid,h1];omega
  obtain⟨b0,b1⟩:=BT.out wr VN.out
  by_cases hlt:k < n
  ·obtain⟨g,o,x,eA,hx⟩:=H.out.pos (i:=k) (by rw[LN.out];exact hlt);subst eA
   have HX:Hid (nds es'++[x.n]=(nds es).take (k+1)):=by
    rw[Hid,List.take_add_one,zbc hx,VF.out]
    rfl
   have hxm:=List.mem_of_getElem? hx;obtain⟨_,x0,x1,x2,x3,x4⟩:=(H.out.new VN.out).get hx
   have XO:Hid (∀u,New w1 u→NOk u x):=fun u hu=>(H.out.new hu).2 x hxm
   have XL:=jH (LE.out x hxm);obtain⟨w2,hw2⟩:∃w2,w2=wr.alloc (.cells #[.int .i64 x.n.i,.int .u8 x.n.k,.int .i64 x.n.l,.slice x.A x.n.ns.length x.c,.slice x.B x.n.b.length x.d] 53):=⟨_,rfl⟩
   have K2:Hid (New wr w2):=by rw[hw2];exact kR.alloc _
   have BX:Hid (Blk w2 wr.heap.size 53 [.int .i64 x.n.i,.int .u8 x.n.k,.int .i64 x.n.l,.slice x.A x.n.ns.length x.c,.slice x.B x.n.b.length x.d]):=by rw[hw2];exact Blk.made wr _ _
   have HW2:=jH hw2
   have CL:Hid (∀u,New w1 u→Calls Tryz.prog 30 #[.slice x.B x.n.b.length x.d] u (RetL u x.n.b)):=fun u hu=>
    copy_any x.B x.n.b.length x.d x.n.b u (XO.out u hu).2.1 (by have:=XL.out.2;omega)
   have hgx:w1.heap.size≤wr.heap.size:=VN.out.size
   have HGX:Hid (∀a,A'=some a→a.block < wr.heap.size):=fun a ha=>(VO.out.1.at_ a ha).1.lt
   clear hx hxm hw2;obtain⟨⟨xi,xk,xl,xns,xb⟩,xA,xc,xB,xd⟩:=x;simp only at *;generalize hxn:xns.length=nl at *;have HXN:=jH hxn;clear hxn;have hnl:=XL.out.1;go_wp2_with fail;rw[←HW2.out];clear HW2 b0 b1 x0 x1 x2 x3 x4;generalize wr.heap.size=gx at *;refine (CL.out w2 (VN.out.new K2.out)).mono ?_;rintro e w3 ⟨A4,c4,rfl,o4,k4⟩;have N3:Hid (New w1 w3):=(VN.out.new K2.out).new k4;have BX3:=jH (BX.out.kept k4 id);have VO3:=jH ((VO.out.new K2.out).new k4);have hB2:w1.heap.size≤w2.heap.size:=(VN.out.new K2.out).size;have O4:Hid (OwnB w3 5 w1.heap.size A4 c4 xb):=o4.mono hB2
   have gA4:∀a,A4=some a→¬a.block=gx:=fun a ha=>(o4.at_ a ha).1.ne_of BX3.out.at_ (by decide)
   have KS:Hid (Kept (·=gx) w3 (w3.setCell ⟨gx,4,none⟩ (.slice A4 xb.length c4))):=Kept.set1 _ _ _ _;have N4:Hid (New w1 (w3.setCell ⟨gx,4,none⟩ (.slice A4 xb.length c4))):=N3.out.setCell (p:=⟨gx,4,none⟩) (fun hh=>absurd hh (by show ¬gx < _;omega)) _;have BX4:Hid (Blk (w3.setCell ⟨gx,4,none⟩ (.slice A4 xb.length c4)) gx 53 [.int .i64 xi,.int .u8 xk,.int .i64 xl,.slice xA nl xc,.slice A4 xb.length c4]):=BX3.out.put 4 _;have O44:Hid (OwnB (w3.setCell ⟨gx,4,none⟩ (.slice A4 xb.length c4)) 5 w1.heap.size A4 c4 xb):=O4.out.kept KS.out gA4
   have nA:∀a,A'=some a→¬a.block=gx:=fun a ha e2=>by have:=HGX.out a ha;rw[e2] at this;exact absurd this (Nat.lt_irrefl _)
   have VO4:Hid (TOwn (w3.setCell ⟨gx,4,none⟩ (.slice A4 xb.length c4)) w1.heap.size A' c' es'):=TOwn.box VO3.out KS.out BX3.out.at_ nA;obtain⟨c0,c1,c2,c3,t4⟩:=BX3.out.p5;have f4:=BX3.out.free 4;clear o4 k4 gA4
   have XR:Hid (RowV (w3.setCell ⟨gx,4,none⟩ (.slice A4 xb.length c4)) xA nl 2 (nms xns)):=by
    have:=(XO.out _ N4.out).1
    rw[←HXN.out];exact this
   go_wp2_with (first
    | (at_builtin;refine zai zcf Tryz.underlying51 rfl (by omega) w1 _ rfl _ _ rfl N4.out w1.heap.size (Nat.le_refl _) N4.out.size none 0 0 [] rfl (OwnV.nil _ _ _ _) xA nl xc (nms xns) rfl XR.out (nms_one xns) (by omega) (by omega) ?_)
    | fail)
   intro A5 c5 w5 O5 N5 K5
   have K5n:Hid (New (w3.setCell ⟨gx,4,none⟩ (.slice A4 xb.length c4)) w5):=K5.out.mono fun _ _ h=>by obtain⟨a,h,_⟩:=h;cases h
   have BX5:=jH (BX4.out.kept K5n.out id);have VO5:=jH (VO4.out.new K5n.out);have O45:=jH (O44.out.new K5n.out)
   have gA4:∀a,A4=some a→¬a.block=gx:=fun a ha=>(O45.out.at_ a ha).1.ne_of BX5.out.at_ (by decide)
   have gA5:∀a,A5=some a→¬a.block=gx:=fun a ha=>(O5.out.at_ a ha).1.ne_of BX5.out.at_ (by decide)
   have KS6:Hid (Kept (·=gx) w5 (w5.setCell ⟨gx,3,none⟩ (.slice A5 nl c5))):=Kept.set1 _ _ _ _;have N6:Hid (New w1 (w5.setCell ⟨gx,3,none⟩ (.slice A5 nl c5))):=N5.out.setCell (p:=⟨gx,3,none⟩) (fun hh=>absurd hh (by show ¬gx < _;omega)) _;have VO6:=jH (TOwn.box VO5.out KS6.out BX5.out.at_ nA);have O46:=jH (O45.out.kept KS6.out gA4);have O56:=jH (O5.out.kept KS6.out gA5);obtain⟨s0,s1,s2,s3,s4⟩:=BX5.out.p5;have f3:=BX5.out.free 3;clear gA4 gA5 c0 c1 c2 c3 t4 f4 K5 KS KS6 N4 BX4 O44 VO4 XR N3 BX3 VO3 O4;obtain⟨w7,hw7⟩:∃w7,w7=(w5.setCell ⟨gx,3,none⟩ (.slice A5 nl c5)).alloc (.cells #[.int .i64 xi,.int .u8 xk,.int .i64 xl,.slice A5 nl c5,.slice A4 xb.length c4] 53):=⟨_,rfl⟩
   have hsz:(w5.setCell ⟨gx,3,none⟩ (.slice A5 nl c5)).heap.size=w5.heap.size:=by simp[World.setCell]
   have K67:New (w5.setCell ⟨gx,3,none⟩ (.slice A5 nl c5)) w7:=by rw[hw7];exact kR.alloc _
   have B7:Blk w7 w5.heap.size 53 [.int .i64 xi,.int .u8 xk,.int .i64 xl,.slice A5 nl c5,.slice A4 xb.length c4]:=by
    have:=Blk.made (w5.setCell ⟨gx,3,none⟩ (.slice A5 nl c5)) 53 #[.int .i64 xi,.int .u8 xk,.int .i64 xl,.slice A5 nl c5,.slice A4 xb.length c4]
    rw[hsz] at this;rw[hw7];exact this
   have N7:Hid (New w1 w7):=N6.out.new K67;have R7:Hid (RowV w7 (some ⟨w5.heap.size,0,none⟩) 1 5 [.int .i64 xi,.int .u8 xk,.int .i64 xl,.slice A5 nl c5,.slice A4 xb.length c4]):=zbr B7 rfl;have VO7:Hid (TOwn w7 w1.heap.size A' c' es'):=VO6.out.new K67
   have V7:Hid (OwnV w7 53 5 w1.heap.size A' k c' (nes es')):=by have:=VO7.out.1;rw[HLN.out] at this;exact this
   have O47:=jH (O46.out.new K67);have O57:=jH (O56.out.new K67);rw[hw7] at N7 R7 V7;clear K67 B7 hsz
   go_wp2_with (first
    | (at_builtin;refine zai zch Tryz.underlying23 rfl (by omega) w1 _ rfl _ _ rfl N7.out w1.heap.size (Nat.le_refl _) N7.out.size A' k c' (nes es') rfl V7.out (some ⟨w5.heap.size,0,none⟩) 1 1 [.int .i64 xi,.int .u8 xk,.int .i64 xl,.slice A5 nl c5,.slice A4 xb.length c4] rfl R7.out (zbz _ _ _ _ _ _ _ _ _) (by omega) (by omega) ?_)
    | fail)
   intro A8 c8 w8 O8 N8 K8;rw[←hw7] at K8
   have hA:∀a,A'=some a→At w7 a.block 53:=fun a ha=>(VO7.out.1.at_ a ha).1
   have E1:Hid (TOwn w8 w1.heap.size A8 c8 (es'++[⟨⟨xi,xk,xl,xns,xb⟩,A5,c5,A4,c4⟩])):=by
    refine TOwn.more VO7.out K8.out (NOwn.kept ⟨?_,O47.out⟩ K8.out hA) HLN.out ?_
    ·have:=O57.out
     rw[←HXN.out] at this;exact this
    ·have:=O8.out
     rw[←HXN.out] at this;exact this
   have E2:Hid (nds (es'++[⟨⟨xi,xk,xl,xns,xb⟩,A5,c5,A4,c4⟩])=(nds es).take (k+1)):=by rw[Hid,nds_app];exact HX.out
   clear O8 K8 hA VO7 V7 O47 O57 R7 N7 hw7 VO VF s0 s1 s2 s3 s4 f3 O5 N5 K5n BX5 VO5 O45 N6 VO6 O46 O56;go_wp2;go_roundw
   case rel=>exact⟨k+1,A8,c8,_,by omega,by go_num,rfl,E1,E2,N8⟩
   case measure=>simp[intOf];omega
  ·obtain rfl:k=n:=by omega
   have VF2:Hid (nds es'=nds es):=by have:=VF.out;rwa [List.take_of_length_le (by rw[zab,LN.out];exact Nat.le_refl _)] at this
   have BR2:=BR.out.kept VN.out id;obtain⟨f0,f1⟩:=BR2.f2;obtain⟨r0,r1⟩:=BR2.p2;have KS:Hid (Kept (·=gk+1) wr ((wr.setCell ⟨gk+1,0,none⟩ (.int .i64 p)).setCell ⟨gk+1,1,none⟩ (.slice A' k c'))):=(Kept.set1 _ _ _ _).setCell (p:=⟨gk+1,1,none⟩) (fun _=>rfl) _;have B9:Hid (Blk ((wr.setCell ⟨gk+1,0,none⟩ (.int .i64 p)).setCell ⟨gk+1,1,none⟩ (.slice A' k c')) (gk+1) 25 [.int .i64 p,.slice A' k c']):=(BR2.put 0 _).put 1 _
   have gA:∀a,A'=some a→¬a.block=gk+1:=fun a ha=>(VO.out.1.at_ a ha).1.ne_of BR2.at_ (by decide)
   have E1:Hid (TOwn ((wr.setCell ⟨gk+1,0,none⟩ (.int .i64 p)).setCell ⟨gk+1,1,none⟩ (.slice A' k c')) w1.heap.size A' c' es'):=TOwn.far VO.out KS.out BR2.at_ (by decide) (by decide) (by decide);have E2:Hid (New w ((wr.setCell ⟨gk+1,0,none⟩ (.int .i64 p)).setCell ⟨gk+1,1,none⟩ (.slice A' k c'))):=((N1.out.new VN.out).setCell (p:=⟨gk+1,0,none⟩) (fun hh=>absurd hh (by have:=GK.out;show ¬gk+1 < _;omega)) _).setCell (p:=⟨gk+1,1,none⟩) (fun hh=>absurd hh (by have:=GK.out;show ¬gk+1 < _;omega)) _;clear VF BR2 gA;go_wp2;generalize (wr.setCell ⟨gk+1,0,none⟩ (.int .i64 p)).setCell ⟨gk+1,1,none⟩ (.slice A' k c')=w9 at *
   obtain⟨d0,d1⟩:=B9.out.p2;refine bodyPost_ret (by simp[results,Tryz.results15,go_sem,d0,d1];try rfl) rfl ?_;exact⟨A',c',es',by rw[HLN.out],VF2.out,WS.out _ _ _ _ E1.out,E2.out⟩
end
end Go.Proofs.YtjjamoemheljdaaGreat
