/-
  ModelWrites: what is written is read, through each of its names, and nothing else has changed; where what comes in is of bulk at most 1048576.
-/
import Derived.Test.YtjjamoemheljdaaGreatB54
import Derived.SizedLaws
import Derived.ChangeOld
import Derived.ShutString
namespace Go.Proofs.YtjjamoemheljdaaGreat
set_option linter.unusedSimpArgs false
set_option linter.unusedVariables false
section
open Go.ChangeShapes Go.WideShapes Go.ChangeAt Go.RowKit
section
variable {H:Type} {enc:TypeId×Value→H} {P:Program}
theorem i64_bounds {x:Int} (h:(Lit.int .i64 x).wf=true):-9223372036854775808≤x∧x≤9223372036854775807:=by
 simpa [Lit.wf,IntKind.min,IntKind.max,IntKind.signed,IntKind.bits] using h
end
end
section
theorem upd_idem {L:List ND} {j:Nat} {f:ND→ND} (hf:∀n∈L,n.i=j→f n=n):updI L j f=L:=by
 unfold updI
 have:∀n∈L,(if n.i=j then f n else n)=n:=fun n hn=>by
  split
  ·exact hf n hn (by assumption)
  ·rfl
 rw[List.map_congr_left this];simp
theorem do_one {T:TT} {c:AC} (h:1≤c.k∧c.k≤11) (h2:¬twoK c.k) {q j:Nat} (hp:peB c.p=0) (hl:lookF T.l (pnB c.p) 0 1=(q,j,0)):doF T c=actF T c (pnB c.p) [] q j 0 0:=by
 unfold doF;rw[if_neg (by omega),if_neg (by rw[hp];simp),if_neg (fun x=>h2 x.1),hl]
 simp only
 rw[if_neg (by simp),if_neg h2]
theorem do_one_ok {T:TT} {c:AC} (he:(doF T c).2.e=0):1≤c.k∧c.k≤11∧peB c.p=0∧∃q j,lookF T.l (pnB c.p) 0 1=(q,j,0):=by
 unfold doF at he
 split at he
 ·simp[erA] at he
 rename_i h1
 split at he
 ·rename_i h2;exact absurd he h2
 rename_i h2
 split at he
 ·rename_i h3;exact absurd he h3.2
 split at he
 ·rename_i h4;exact absurd he h4
 rename_i h4
 refine⟨by omega,by omega,by omega,(lookF T.l (pnB c.p) 0 1).1,(lookF T.l (pnB c.p) 0 1).2.1,?_⟩
 have h5:(lookF T.l (pnB c.p) 0 1).2.2=0:=by omega
 exact Prod.ext rfl (Prod.ext rfl h5)
theorem do_stat {T:TT} {p t:ByteArray} {a m:Int} {b:List Nat} {q j:Nat} {n:ND} (hp:peB p=0) (hl:lookF T.l (pnB p) 0 1=(q,j,0)) (h0:j≠0) (hn:ndI T.l j=some n):
  doF T ⟨10,p,t,a,m,b⟩=(T,⟨0,j,0,n.k,n.l,n.b.length,[],[]⟩):=by
 rw[do_one (c:=⟨10,p,t,a,m,b⟩) (by simp) (by unfold twoK;simp) hp hl];unfold actF;rw[if_neg (by simp),if_neg h0,hn]
 rfl
end
section
theorem look_upd {L:List ND} {j:Nat} {f:ND→ND} (hi:∀n,(f n).i=n.i) (hk:∀n,(f n).k=n.k) (hs:∀n,(f n).ns=n.ns):∀(g:List ByteArray) (q0 j0:Nat),lookF (updI L j f) g q0 j0=lookF L g q0 j0
 | [],_,_=>rfl
 | x::r,q0,j0=>by
  rw[lookF,lookF,upd_nd (fun n _=>hi n)]
  split
  ·rfl
  ·by_cases h:j0=j
   ·rw[if_pos h,h]
    cases ndI L j with
    | none=>rfl
    | some n=>
     simp only[Option.map]
     rw[hk,hs,look_upd hi hk hs]
   ·rw[if_neg h]
    cases ndI L j0 with
    | none=>rfl
    | some n=>
     simp only
     rw[look_upd hi hk hs]
theorem look_byt {L:List ND} {j:Nat} {b:List Nat} (g:List ByteArray) (q0 j0:Nat):lookF (bytE L j b) g q0 j0=lookF L g q0 j0:=
 look_upd (f:=fun n=>{ n with b:=b }) (fun _=>rfl) (fun _=>rfl) (fun _=>rfl) g q0 j0
theorem byt_at {L:List ND} {j m:Nat} {b:List Nat} {x:ND} (hx:L[m]?=some x) (hi:x.i≠j):(bytE L j b)[m]?=some x:=by
 unfold bytE updI;rw[List.getElem?_map,hx]
 simp[hi]
theorem do_read {T:TT} {p:ByteArray} {a m:Int} {q j:Nat} {n:ND} (hp:peB p=0) (hl:lookF T.l (pnB p) 0 1=(q,j,0)) (h0:j≠0) (hn:ndI T.l j=some n) (hk:n.k=2) (ha:0≤a) (hm:0≤m):
  doF T ⟨9,p,ByteArray.empty,a,m,[]⟩=(T,{ erA 0 with b:=(n.b.drop a.toNat).take m.toNat }):=by
 rw[do_one (c:=⟨9,p,ByteArray.empty,a,m,[]⟩) (by simp) (by unfold twoK;simp) hp hl];unfold actF;rw[if_neg (by simp),if_neg h0,hn]
 simp only
 rw[if_neg (by decide),if_neg (by decide),if_neg (by decide),if_neg (by decide),if_neg (by decide),if_neg (by decide)];unfold bytF;rw[if_neg (by omega),if_neg (by simp only;omega),if_pos rfl]
theorem cut_len (b:List Nat) (n:Nat):(cutB b n).length=n:=by unfold cutB;simp;omega
theorem cut_get {b:List Nat} {n i:Nat} (h:i < n):(cutB b n)[i]?=some (b.getD i 0):=by
 unfold cutB
 by_cases hb:i < b.length
 ·rw[List.getElem?_append_left (by simp;omega),List.getElem?_take_of_lt h]
  simp[hb]
 ·rw[List.getElem?_append_right (by simp;omega)]
  simp only[List.length_take]
  rw[List.getElem?_replicate,if_pos (by omega),List.getD_eq_getElem?_getD,List.getElem?_eq_none (by omega),Option.getD_none]
theorem wr_len (b:List Nat) (a:Nat) (x:List Nat):(wrB b a x).length=a+x.length+(b.length - (a+x.length)):=by unfold wrB;simp[cut_len];omega
theorem wr_mid (b:List Nat) (a:Nat) (x:List Nat):((wrB b a x).drop a).take x.length=x:=by
 unfold wrB
 have h:∀c:List Nat,c.length=a→(c++(x++b.drop (a+x.length))).drop a=x++b.drop (a+x.length):=fun c hc=>by subst hc;exact List.drop_left ..
 rw[h _ (cut_len b a),List.take_left]
theorem wr_get {b:List Nat} {a:Nat} {x:List Nat} {i:Nat} (hi:i < (wrB b a x).length) (hn:¬(a≤i∧i < a+x.length)):(wrB b a x)[i]?=some (b.getD i 0):=by
 by_cases h:i < a
 ·unfold wrB;rw[List.getElem?_append_left (by rw[cut_len];exact h),cut_get h]
 ·rw[wr_len] at hi;unfold wrB;rw[List.getElem?_append_right (by rw[cut_len];omega),cut_len,List.getElem?_append_right (by omega),List.getElem?_drop,List.getD_eq_getElem?_getD]
  have e:a+x.length+(i - a - x.length)=i:=by omega
  rw[e]
  simp[show i < b.length by omega]
theorem write_math {T:TT} (h:Rt T) (h32:T.p=32) {p:ByteArray} {a:Int} {b:List Nat} (hb:∀x∈b,x < 256) (he:(doF T ⟨7,p,ByteArray.empty,a,0,b⟩).2.e=0):
  ∃j n B,(doF T ⟨10,p,ByteArray.empty,0,0,[]⟩).2.i=j∧ndI T.l j=some n∧(doF T ⟨9,p,ByteArray.empty,0,256,[]⟩).2.b=n.b ∧
   (doF T ⟨7,p,ByteArray.empty,a,0,b⟩).1.l=bytE T.l j B∧(doF T ⟨7,p,ByteArray.empty,a,0,b⟩).2.n=b.length∧0≤a ∧
   (doF (doF T ⟨7,p,ByteArray.empty,a,0,b⟩).1 ⟨9,p,ByteArray.empty,a,(b.length:Nat),[]⟩).2.b=b ∧
   (doF (doF T ⟨7,p,ByteArray.empty,a,0,b⟩).1 ⟨9,p,ByteArray.empty,0,256,[]⟩).2.b=B∧n.b.length≤B.length∧B.length≤256 ∧
   (b=[]∨a.toNat+b.length≤B.length) ∧
   ∀i,i < B.length→¬(a.toNat≤i∧i < a.toNat+b.length)→B[i]?=some (n.b.getD i 0):=by
 obtain⟨_,_,hpa,q,j,hl⟩:=do_one_ok he
 simp only at hpa hl
 have hD:=do_one (T:=T) (c:=⟨7,p,ByteArray.empty,a,0,b⟩) (by simp) (by unfold twoK;simp) hpa hl;rw[hD] at he ⊢;unfold actF at he ⊢;rw[if_neg (by simp)] at he ⊢
 by_cases h0:j=0
 ·rw[if_pos h0] at he;simp[erA] at he
 rw[if_neg h0] at he ⊢
 cases hn:ndI T.l j with
 | none=>rw[hn] at he;simp[erA] at he
 | some n=>
  rw[hn] at he
  simp only at he ⊢
  rw[if_neg (by decide),if_neg (by decide),if_neg (by decide),if_neg (by decide),if_neg (by decide),if_neg (by decide)] at he ⊢;unfold bytF at he ⊢
  by_cases hk:n.k≠2
  ·rw[if_pos hk] at he;simp[erA] at he
  rw[if_neg hk] at he ⊢
  by_cases ha:a < 0∨(0:Int) < 0
  ·rw[if_pos ha] at he;simp[erA] at he
  rw[if_neg ha,if_neg (by simp),if_neg (by simp)] at he ⊢;obtain⟨hn1,hn2⟩:=ndI_some hn;have hnl:=(fine_file (h.fin n hn1) (by omega)).2.2.2.2;rw[h32] at hnl;have hst:=do_stat (T:=T) (t:=ByteArray.empty) (a:=0) (m:=0) (b:=[]) hpa hl h0 hn;have hrd:=do_read (T:=T) (a:=0) (m:=256) hpa hl h0 hn (by omega) (by omega) (by omega)
  have hfull:∀c:List Nat,c.length≤256→(c.drop (0:Int).toNat).take (256:Int).toNat=c:=fun c hc=>by
   have e1:(0:Int).toNat=0:=rfl;have e2:(256:Int).toNat=256:=rfl;rw[e1,e2,List.drop_zero,List.take_of_length_le hc]
  by_cases hbe:b=[]
  ·subst hbe;rw[if_pos rfl]
   simp only
   have hrz:=do_read (T:=T) (a:=a) (m:=(([]:List Nat).length:Nat)) hpa hl h0 hn (by omega) (by omega) (by simp);refine⟨j,n,n.b,by rw[hst],hn,by rw[hrd];exact hfull _ (by omega),?_,rfl,by omega,by rw[hrz];simp,by rw[hrd];exact hfull _ (by omega),Nat.le_refl _,by omega,.inl trivial,?_⟩
   ·unfold bytE;refine (upd_idem fun x hx hxj=>?_).symm;rw[nd_uniq h.ord hx hn1 (by omega)]
   ·intro i hi _
    simp[hi]
  rw[if_neg hbe] at he ⊢
  by_cases hlim:8*T.p < a.toNat+b.length
  ·rw[if_pos hlim] at he;simp[erA] at he
  rw[if_neg hlim] at he ⊢
  simp only
  rw[h32] at hlim
  have hlU:lookF (bytE T.l j (wrB n.b a.toNat b)) (pnB p) 0 1=(q,j,0):=by rw[look_byt];exact hl
  have hnU:ndI (bytE T.l j (wrB n.b a.toNat b)) j=some { n with b:=wrB n.b a.toNat b }:=by
   unfold bytE;rw[upd_nd (f:=fun x=>{ x with b:=wrB n.b a.toNat b }) (fun _ _=>rfl),if_pos rfl,hn]
   rfl
  have hwl:=wr_len n.b a.toNat b;have hr1:=do_read (T:=⟨T.p,bytE T.l j (wrB n.b a.toNat b)⟩) (a:=a) (m:=(b.length:Nat)) hpa hlU h0 hnU (by simp only;omega) (by omega) (by omega);have hr2:=do_read (T:=⟨T.p,bytE T.l j (wrB n.b a.toNat b)⟩) (a:=0) (m:=256) hpa hlU h0 hnU (by simp only;omega) (by omega) (by omega);refine⟨j,n,wrB n.b a.toNat b,by rw[hst],hn,by rw[hrd];exact hfull _ (by omega),rfl,trivial,by omega,?_,?_,by omega,by omega,.inr (by omega),fun i hi hh=>wr_get hi hh⟩
  ·rw[hr1]
   show ((wrB n.b a.toNat b).drop a.toNat).take ((b.length:Nat):Int).toNat=b
   rw[Int.toNat_natCast,wr_mid]
  ·rw[hr2]
   exact hfull (wrB n.b a.toNat b) (by omega)
end
end Go.Proofs.YtjjamoemheljdaaGreat

namespace Go.Proofs.YtjjamoemheljdaaGreat.modelWrites
set_option linter.unusedSimpArgs false
set_option linter.unusedVariables false
open Go.ChangeShapes Go.WideShapes Go.ChangeAt Go.RowKit
theorem own:ownKnob Tryz.prog.godebug=none:=by kernel_rfl
theorem laidOut:laidOutB Tryz.prog=true:=by kernel_rfl
set_option maxRecDepth 100000 in
set_option maxHeartbeats 6400000 in
theorem walk (A:Option Addr) (n c:Nat) (al:List AC) (a:ByteArray) (av:Int) (Ab:Option Addr) (bl bc:Nat) (b:List Nat) (w:World) (hl:ActsC w A n al) (_:n≤c) (_:c≤maxLen) (ha:a.size≤1048576) (hi:-9223372036854775808≤av∧av≤9223372036854775807) (hB:IsB w (.slice Ab bl bc) Ab bl bc b) (_:True):
  Calls Tryz.prog 5 #[.slice A n c,.string a,.int .i64 av,.slice Ab bl bc] w (True1 w):=by
 have HSA:=jH ha;have HI:=jH hi;have HB:=jH hB;have HBL:Hid (b.length=bl):=jH hB.bts.1;have HCP:Hid (bl≤140737488351232):=jH (Nat.le_trans hB.le hB.cap);clear ha hi hB
 have HRT:Hid (Rt (playT (al.take 30))):=playT_rt fun x hx=>hl.byt x (List.mem_of_mem_take hx)
 obtain⟨T9,hT9⟩:∃T9,T9=playT (al.take 30):=⟨_,rfl⟩
 have HE:Hid ((⟨32,T9.l⟩:TT)=T9):=by rw[hT9];exact playT_eta _
 have H32:Hid (T9.p=32):=by rw[hT9];exact playT_p _
 have CP:=jH (mplayed_yes A n c al w hl);rw[←hT9] at CP HRT;clear hT9;clear hl
 go_enter Tryz.func5,Tryz.ntmps5
 go_wp2_with fail
 refine CP.out.mono ?_;rintro e w2 ⟨A3,c3,es3,rfl,hL3,hO3,hN3⟩;clear CP;have N1:Hid (New w w):=jH kR
 obtain⟨w3,g3,hZ,hg,k3,hB3,hT3⟩:∃w3 g3,w2.alloc (.cells #[.int .i64 32,.slice A3 es3.length c3] 25)=w3∧w2.heap.size=g3∧New w2 w3∧TBx w w3 g3 T9.l A3 es3.length c3∧LT w w3 g3 32 T9.l:=by
  have hk:=(Kept.refl (fun _=>False) w2).alloc (.cells #[.int .i64 32,.slice A3 es3.length c3] 25);have hO4:=(hO3.mono N1.out.size).new hk
  exact⟨_,_,rfl,rfl,hk,⟨Blk.made w2 _ _,es3,hO4,rfl,hL3⟩,A3,c3,es3,Blk.made w2 _ _,hO4,hL3,(N1.out.new hN3).new hk,(N1.out.new hN3).size⟩
 have HB3:=jH hB3;have HT3:=jH hT3;have HN:=jH ((N1.out.new hN3).new k3);clear hB3 hT3 hL3 hO3;clear hN3 k3 N1
 have HRL:Hid (Rt ⟨32,T9.l⟩):=by rw[HE.out];exact HRT
 have hb:=HB3.out;clear HB3;have b0:=hb.c0;have b1:=hb.c1;have hlt:=hb.lt;have CD:=jH (hb.do_ HRL.out kR 10 a (⟨#[]⟩:ByteArray) 0 0 none 0 0 [] HSA.out (by decide) (Bts.nil _ _) (by decide));clear hb;obtain⟨Rs,hRs⟩:∃r,r=doF ⟨32,T9.l⟩ ⟨10,a,(⟨#[]⟩:ByteArray),0,0,[]⟩:=⟨_,rfl⟩;rw[←hRs] at CD;have HRs:=jH hRs;clear hRs
 go_upto_region 3 with (go_at_call 16;refine CD.out.mono ?_;rintro e we ⟨A3,c3,es3,B3,d3,T3,t3,rfl,hL3,hO3,hB3,hX3,hK3,hA3⟩)
 clear hZ hg;have hQ:=jH (two_box (t3:=t3) HN.out hL3 hO3 hB3 hX3 hK3 hA3);clear hL3 hO3 hB3 hX3 hK3 hA3 CD b0 b1 hlt;obtain⟨w4,gq,gas,hZ,hg,hg2,hk,hT,hA⟩:=hQ.out;rw[hZ,hg,hg2];clear hZ hg hg2 hQ;have HTq:=jH hT;have HAs:=jH hA
 replace HN:=jH (HN.out.new hk)
 clear hT hA
 replace HT3:=jH (HT3.out.new hk)
 clear hk;obtain⟨A1,n1,c1,hb⟩:=HT3.out.bx;have b0:=hb.c0;have b1:=hb.c1;have hlt:=hb.lt;have CD:=jH (hb.do_ HRL.out kR 9 a (⟨#[]⟩:ByteArray) 0 256 none 0 0 [] HSA.out (by decide) (Bts.nil _ _) (by decide));clear hb;obtain⟨Rwas,hRwas⟩:∃r,r=doF ⟨32,T9.l⟩ ⟨9,a,(⟨#[]⟩:ByteArray),0,256,[]⟩:=⟨_,rfl⟩;rw[←hRwas] at CD;have HRwas:=jH hRwas;clear hRwas
 go_upto_region 4 with (go_at_call 16;refine CD.out.mono ?_;rintro e we ⟨A3,c3,es3,B3,d3,T3,t3,rfl,hL3,hO3,hB3,hX3,hK3,hA3⟩)
 have hQ:=jH (two_box (t3:=t3) HN.out hL3 hO3 hB3 hX3 hK3 hA3);clear hL3 hO3 hB3 hX3 hK3 hA3 CD b0 b1 hlt;obtain⟨w5,gq2,gawas,hZ,hg,hg2,hk,hT,hA⟩:=hQ.out;rw[hZ,hg,hg2];clear hZ hg hg2 hQ;have HTq2:=jH hT;have HAwas:=jH hA
 replace HN:=jH (HN.out.new hk)
 clear hT hA
 replace HT3:=jH (HT3.out.new hk)
 replace HTq:=jH (HTq.out.new hk)
 replace HAs:=jH (HAs.out.new hk)
 clear hk;obtain⟨A1,n1,c1,hb⟩:=HT3.out.bx;have b0:=hb.c0;have b1:=hb.c1;have hlt:=hb.lt;have CD:=jH (hb.do_ HRL.out kR 7 a (⟨#[]⟩:ByteArray) av 0 Ab bl bc b HSA.out (by decide) (HB.out.bts.new HN.out) (by have:=HCP.out;omega));clear hb;obtain⟨Rw,hRw⟩:∃r,r=doF ⟨32,T9.l⟩ ⟨7,a,(⟨#[]⟩:ByteArray),av,0,b⟩:=⟨_,rfl⟩;rw[←hRw] at CD;have HRw:=jH hRw;clear hRw
 go_upto_region 5 with (go_at_call 16;refine CD.out.mono ?_;rintro e we ⟨A3,c3,es3,B3,d3,T3,t3,rfl,hL3,hO3,hB3,hX3,hK3,hA3⟩)
 have hQ:=jH (two_box (t3:=t3) HN.out hL3 hO3 hB3 hX3 hK3 hA3);clear hL3 hO3 hB3 hX3 hK3 hA3 CD b0 b1 hlt;obtain⟨w6,gu,gaw,hZ,hg,hg2,hk,hT,hA⟩:=hQ.out;rw[hZ,hg,hg2];clear hZ hg hg2 hQ;have HTu:=jH hT;have HAw:=jH hA
 replace HN:=jH (HN.out.new hk)
 clear hT hA
 replace HT3:=jH (HT3.out.new hk)
 replace HTq:=jH (HTq.out.new hk)
 replace HTq2:=jH (HTq2.out.new hk)
 replace HAs:=jH (HAs.out.new hk)
 replace HAwas:=jH (HAwas.out.new hk)
 clear hk
 have HDRw:Hid (Rw=doF T9 ⟨7,a,ByteArray.empty,av,0,b⟩):=jH (by rw[HRw.out,HE.out]<;>rfl)
 have HERw:Hid ((⟨32,Rw.1.l⟩:TT)=Rw.1):=jH (by
  have h1:=do_eta T9 ⟨7,a,ByteArray.empty,av,0,b⟩;rw[H32.out] at h1
  rw[HDRw.out,h1])
 have HRTRw:Hid (Rt Rw.1):=jH (by rw[HDRw.out];exact rt_do HRT.out ⟨7,a,ByteArray.empty,av,0,b⟩ HB.out.bts.2.1);have H32Rw:Hid (Rw.1.p=32):=jH (by rw[HDRw.out,do_p];exact H32.out);have HRLRw:Hid (Rt ⟨32,Rw.1.l⟩):=jH (by rw[HERw.out];exact HRTRw.out)
 have HDs:Hid (Rs=doF T9 ⟨10,a,ByteArray.empty,0,0,[]⟩):=jH (by rw[HRs.out,HE.out]<;>rfl)
 have HDwas:Hid (Rwas=doF T9 ⟨9,a,ByteArray.empty,0,256,[]⟩):=jH (by rw[HRwas.out,HE.out]<;>rfl)
 obtain⟨_,_,_,_,hA⟩:=HAw.out.bx;have e0:=hA.c0;have wlt:=hA.lt;clear hA
 by_cases he:Rw.2.e≠0
 ·have d0:decide (((Rw.2.e:Nat):Int)=0)=false:=decide_eq_false (by omega);have HSM:Hid (Rw.1.l=T9.l):=jH (by rw[HDRw.out] at he ⊢;rw[do_same (.inl he)]);obtain⟨A1,n1,c1,hS⟩:=HT3.out.bx;obtain⟨A2,n2,c2,hU⟩:=HTu.out.bx;have s0:=hS.c0;have s1:=hS.c1;have slt:=hS.lt;have u0:=hU.c0;have u1:=hU.c1;have ult:=hU.lt;rw[HSM.out] at hU;have CS:=jH (hS.same hU HRL.out kR kR);clear hS hU
  go_wp2_with fail
  refine CS.out.mono ?_;rintro e wx ⟨rfl,hkx⟩;have HNx:=jH (HN.out.new hkx);clear hkx CS s0 s1 slt u0 u1 ult
  go_wp2_with fail
  refine (mlives_any _).mono ?_;rintro e wy ⟨rfl,hky⟩;have HNy:=jH (HNx.out.new hky);clear hky
  go_wp2_with fail
  try simp only[Exit.then]
  refine bodyPost_ret (by simp[results,Tryz.results5,go_sem];try rfl) rfl ?_
  exact⟨rfl,HNy.out⟩
 have he0:Rw.2.e=0:=by omega
 rw[he0] at e0;obtain⟨j,nd,Bn,m1,m2,m3,m4,m5,m6,m7,m8,m9,m10,m12,m11⟩:=write_math (T:=T9) HRT.out H32.out (p:=a) (a:=av) (b:=b) HB.out.bts.2.1 (by rw[←HDRw.out];exact he0);rw[HBL.out] at m5 m7;rw[←HDs.out] at m1;rw[←HDwas.out] at m3;rw[←HDRw.out] at m4 m5 m7 m8;have M1:=jH m1;have M2:=jH m2;have M3:=jH m3;have M4:=jH m4;have M5:=jH m5;have M6:=jH m6;have M7:=jH m7;have M8:=jH m8;have M9:=jH m9;have M10:=jH m10;have M11:=jH m11;have M12:=jH m12;clear m1 m2 m3 m4 m5 m6 m7 m8 m9 m10 m11 m12;clear he;obtain⟨A1,n1,c1,hb⟩:=HTu.out.bx;have b0:=hb.c0;have b1:=hb.c1;have hlt:=hb.lt;have CD:=jH (hb.do_ HRLRw.out kR 9 a (⟨#[]⟩:ByteArray) av ((bl:Nat):Int) none 0 0 [] HSA.out (by decide) (Bts.nil _ _) (by decide))
 clear hb;obtain⟨Rr,hRr⟩:∃r,r=doF ⟨32,Rw.1.l⟩ ⟨9,a,(⟨#[]⟩:ByteArray),av,((bl:Nat):Int),[]⟩:=⟨_,rfl⟩;rw[←hRr] at CD;have HRr:=jH hRr;clear hRr
 go_upto_region 8 with (go_at_call 16;refine CD.out.mono ?_;rintro e we ⟨A3,c3,es3,B3,d3,T3,t3,rfl,hL3,hO3,hB3,hX3,hK3,hA3⟩)
 have hQ:=jH (two_box (t3:=t3) HN.out hL3 hO3 hB3 hX3 hK3 hA3);clear hL3 hO3 hB3 hX3 hK3 hA3 CD b0 b1 hlt;obtain⟨w7,gq3,gar,hZ,hg,hg2,hk,hT,hA⟩:=hQ.out;rw[hZ,hg,hg2];clear hZ hg hg2 hQ;have HTq3:=jH hT;have HAr:=jH hA
 replace HN:=jH (HN.out.new hk)
 clear hT hA
 replace HT3:=jH (HT3.out.new hk)
 replace HTq:=jH (HTq.out.new hk)
 replace HTq2:=jH (HTq2.out.new hk)
 replace HTu:=jH (HTu.out.new hk)
 replace HAs:=jH (HAs.out.new hk)
 replace HAwas:=jH (HAwas.out.new hk)
 replace HAw:=jH (HAw.out.new hk)
 clear e0 wlt;clear hk
 have HDr:Hid (Rr.2.b=b):=jH (by
  have h1:Rr=doF Rw.1 ⟨9,a,ByteArray.empty,av,((bl:Nat):Int),[]⟩:=by rw[HRr.out,HERw.out]<;>rfl
  rw[h1]
  exact M7.out)
 obtain⟨_,_,_,_,hA⟩:=HAw.out.bx;have w2c:=hA.c2;have wlt:=hA.lt;clear hA;obtain⟨Br,dr,_,_,hA⟩:=HAr.out.bx;have r6:=hA.c6;have hrb:=hA.bts;have rlt:=hA.lt;rw[HDr.out,HBL.out] at r6 hrb;rw[M5.out] at w2c;have CS:=jH (same_eq Br Ab bl dr bc b w7 hrb (HB.out.bts.new HN.out) (by have:=HCP.out;unfold maxLen;omega));clear hA hrb
 go_upto_region 10 with (first|(go_at_call 24;refine CS.out.mono ?_;rintro e wz ⟨qz,rfl,rfl⟩))
 obtain⟨w8,hw8⟩:∃w8,w8=w7.drewN qz:=⟨_,rfl⟩
 have hk:New w7 w8:=by rw[hw8];exact kR.drewN qz
 rw[←hw8];clear hw8 r6 w2c wlt rlt CS;have HX:=jH (HN.out.new hk);clear HN;have HN:=HX;clear HX
 replace HT3:=jH (HT3.out.new hk)
 replace HTq:=jH (HTq.out.new hk)
 replace HTq2:=jH (HTq2.out.new hk)
 replace HTu:=jH (HTu.out.new hk)
 replace HTq3:=jH (HTq3.out.new hk)
 replace HAs:=jH (HAs.out.new hk)
 replace HAwas:=jH (HAwas.out.new hk)
 replace HAw:=jH (HAw.out.new hk)
 replace HAr:=jH (HAr.out.new hk)
 clear hk;obtain⟨A1,n1,c1,hb⟩:=HTu.out.bx;have b0:=hb.c0;have b1:=hb.c1;have hlt:=hb.lt;have CD:=jH (hb.do_ HRLRw.out kR 9 a (⟨#[]⟩:ByteArray) 0 256 none 0 0 [] HSA.out (by decide) (Bts.nil _ _) (by decide));clear hb;obtain⟨Rnow,hRnow⟩:∃r,r=doF ⟨32,Rw.1.l⟩ ⟨9,a,(⟨#[]⟩:ByteArray),0,256,[]⟩:=⟨_,rfl⟩;rw[←hRnow] at CD;have HRnow:=jH hRnow;clear hRnow
 go_upto_region 11 with (go_at_call 16;refine CD.out.mono ?_;rintro e we ⟨A3,c3,es3,B3,d3,T3,t3,rfl,hL3,hO3,hB3,hX3,hK3,hA3⟩)
 have hQ:=jH (two_box (t3:=t3) HN.out hL3 hO3 hB3 hX3 hK3 hA3);clear hL3 hO3 hB3 hX3 hK3 hA3 CD b0 b1 hlt;obtain⟨w9,gq4,ganow,hZ,hg,hg2,hk,hT,hA⟩:=hQ.out;rw[hZ,hg,hg2];clear hZ hg hg2 hQ;have HTq4:=jH hT;have HAnow:=jH hA
 replace HN:=jH (HN.out.new hk)
 clear hT hA
 replace HT3:=jH (HT3.out.new hk)
 replace HTq:=jH (HTq.out.new hk)
 replace HTq2:=jH (HTq2.out.new hk)
 replace HTu:=jH (HTu.out.new hk)
 replace HTq3:=jH (HTq3.out.new hk)
 replace HAs:=jH (HAs.out.new hk)
 replace HAwas:=jH (HAwas.out.new hk)
 replace HAw:=jH (HAw.out.new hk)
 replace HAr:=jH (HAr.out.new hk)
 clear hk
 have HDn:Hid (Rnow.2.b=Bn):=jH (by
  have h1:Rnow=doF Rw.1 ⟨9,a,ByteArray.empty,0,256,[]⟩:=by rw[HRnow.out,HERw.out]<;>rfl
  rw[h1]
  exact M8.out)
 obtain⟨Nb,nbd,_,_,hA⟩:=HAnow.out.bx;have HNB:=jH hA;clear hA;obtain⟨Wb,wbd,_,_,hA⟩:=HAwas.out.bx;have HWB:=jH hA;clear hA;obtain⟨_,_,_,_,hA⟩:=HAs.out.bx;have HSB:=jH hA;clear hA HAs HAnow HAwas HAw HAr HTq HTq2 HTq3 HTq4;obtain⟨A1,n1,c1,hS⟩:=HT3.out.bx;obtain⟨A2,n2,c2,hU⟩:=HTu.out.bx;have HS:=jH hS;have HU:=jH hU;clear hS hU HT3 HTu
 go_wp2_with fail
 go_loopw [20] (fun i wx=>∃k:Nat,k≤Bn.length∧i=.int .i64 k∧Hid (New w9 wx)) (fun i _=>Bn.length - (intOf i).toNat)
 case atStart=>exact⟨0,Nat.zero_le _,rfl,kR⟩
 case round=>
  obtain⟨k,hk,rfl,hkr⟩:=hrel;have n6:=(HNB.out.new hkr.out).c6;have hnb:=(HNB.out.new hkr.out).bts;have nlt:=(HNB.out.new hkr.out).lt;rw[HDn.out] at n6 hnb;have p6:=(HWB.out.new hkr.out).c6;have hwb:=(HWB.out.new hkr.out).bts;have plt:=(HWB.out.new hkr.out).lt;rw[M3.out] at p6 hwb;have hl9:=M9.out;have hl10:=M10.out;have hav:=M6.out
  by_cases hlt:k < Bn.length
  ·have hl1:((k:Nat):Int) < ((Bn.length:Nat):Int):=by omega
   obtain⟨gN,oN,x,rfl,hx,_,hxc⟩:=hnb.at_ hlt
   have hov:b≠[]→av+(bl:Int)≤256:=fun h=>by
    rcases M12.out with h1|h1
    ·exact absurd h1 h
    ·rw[HBL.out] at h1;omega
   have hbz:b=[]→bl=0:=fun h=>by have:=HBL.out;rw[h] at this;simpa using this.symm
   have hsum:av+(bl:Int)≤9223372036854775807:=by
    by_cases h:b=[]
    ·have:=hbz h;have:=HI.out.2;omega
    ·have:=hov h;omega
   clear hov hbz hnb
   by_cases h1:av≤((k:Nat):Int)
   ·by_cases h2:((k:Nat):Int) < av+((bl:Nat):Int)
    ·have hk2:Hid (k+1≤Bn.length):=hlt;clear hwb hxc hx
     go_wp2_with fail
     go_roundw
     case rel=>exact⟨k+1,hk2.out,by go_num,hkr⟩
     case measure=>have:=hk2.out;simp[intOf];omega
    ·have hxb:Bn[k]?=some (nd.b.getD k 0):=M11.out k hlt (by have:=HBL.out;omega);have hk2:Hid (k+1≤Bn.length):=hlt;rw[hx] at hxb
     injection hxb with hxb
     by_cases h5:k < nd.b.length
     ·have hl5:((k:Nat):Int) < ((nd.b.length:Nat):Int):=by omega
      have hl6:decide (((nd.b.length:Nat):Int)≤((k:Nat):Int))=false:=decide_eq_false (by omega);have hl7:decide (nd.b.length≤k)=false:=decide_eq_false (by omega);obtain⟨gW,oW,y,rfl,hy,_,hyc⟩:=hwb.at_ h5
      have hxy:x=y:=by rw[hxb,List.getD_eq_getElem?_getD,hy];rfl
      subst hxy;clear hwb hx hxb hy
      go_wp2_with fail
      go_quiet (fail)
      go_wp2_with fail
      go_roundw
      case rel=>exact⟨k+1,hk2.out,by go_num,hkr.out.drewN _⟩
      case measure=>have:=hk2.out;simp[intOf];omega
     ·have hl5:¬((k:Nat):Int) < ((nd.b.length:Nat):Int):=by omega
      have hl6:((nd.b.length:Nat):Int)≤((k:Nat):Int):=by omega
      have hxz:x=0:=by rw[hxb,List.getD_eq_getElem?_getD,List.getElem?_eq_none (by omega)];rfl
      subst hxz;clear hwb hx hxb
      go_wp2_with fail
      go_quiet (fail)
      go_wp2_with fail
      go_roundw
      case rel=>exact⟨k+1,hk2.out,by go_num,hkr.out.drewN _⟩
      case measure=>have:=hk2.out;simp[intOf];omega
   ·have hxb:Bn[k]?=some (nd.b.getD k 0):=M11.out k hlt (by have:=HBL.out;omega);have hk2:Hid (k+1≤Bn.length):=hlt;rw[hx] at hxb
    injection hxb with hxb
    by_cases h5:k < nd.b.length
    ·have hl5:((k:Nat):Int) < ((nd.b.length:Nat):Int):=by omega
     have hl6:decide (((nd.b.length:Nat):Int)≤((k:Nat):Int))=false:=decide_eq_false (by omega);have hl7:decide (nd.b.length≤k)=false:=decide_eq_false (by omega);obtain⟨gW,oW,y,rfl,hy,_,hyc⟩:=hwb.at_ h5
     have hxy:x=y:=by rw[hxb,List.getD_eq_getElem?_getD,hy];rfl
     subst hxy;clear hwb hx hxb hy
     go_wp2_with fail
     go_quiet (fail)
     go_wp2_with fail
     go_roundw
     case rel=>exact⟨k+1,hk2.out,by go_num,hkr.out.drewN _⟩
     case measure=>have:=hk2.out;simp[intOf];omega
    ·have hl5:¬((k:Nat):Int) < ((nd.b.length:Nat):Int):=by omega
     have hl6:((nd.b.length:Nat):Int)≤((k:Nat):Int):=by omega
     have hxz:x=0:=by rw[hxb,List.getD_eq_getElem?_getD,List.getElem?_eq_none (by omega)];rfl
     subst hxz;clear hwb hx hxb
     go_wp2_with fail
     go_quiet (fail)
     go_wp2_with fail
     go_roundw
     case rel=>exact⟨k+1,hk2.out,by go_num,hkr.out.drewN _⟩
     case measure=>have:=hk2.out;simp[intOf];omega
  ·have hl1:¬((k:Nat):Int) < ((Bn.length:Nat):Int):=by omega
   clear hnb hwb
   go_wp2_with fail
   go_loopw [21] (fun i wx=>∃m:Nat,m≤n1∧i=.int .i64 m∧Hid (New w9 wx)) (fun i _=>n1 - (intOf i).toNat)
   case atStart=>exact⟨0,Nat.zero_le _,rfl,hkr⟩
   case round=>
    clear hkr n6 nlt p6 plt hl1 hlt hk;obtain⟨m,hm,rfl,hmr⟩:=hrel;have t0:=(HS.out.new hmr.out).c0;have t1:=(HS.out.new hmr.out).c1;have tlt:=(HS.out.new hmr.out).lt
    by_cases hlt:m < n1
    ·have hl1:((m:Nat):Int) < ((n1:Nat):Int):=by omega
     have hk2:Hid (m+1≤n1):=hlt
     have h48:n1≤48:=by have:=HRL.out.len;rw[←HS.out.len];exact this
     obtain⟨x,hx⟩:∃x,T9.l[m]?=some x:=⟨_,List.getElem?_eq_getElem (by rw[HS.out.len];exact hlt)⟩;obtain⟨bk,o,e1,rfl,_,he1,hg1⟩:=HS.out.get hx;obtain⟨_,v0,_⟩:=hg1 _ hmr.out;rw[he1] at v0;have s1:=(HSB.out.new hmr.out).c1;have slt:=(HSB.out.new hmr.out).lt;rw[M1.out] at s1
     by_cases hij:x.i=j
     ·rw[hij] at v0;clear hg1
      go_wp2_with fail
      go_quiet (fail)
      go_wp2_with fail
      go_roundw
      case rel=>exact⟨m+1,hk2.out,by go_num,hmr.out.drewN _⟩
      case measure=>have:=hk2.out;simp[intOf];omega
     ·have dij:decide (((x.i:Nat):Int)=((j:Nat):Int))=false:=decide_eq_false (by omega)
      have hux:Rw.1.l[m]?=some x:=by rw[M4.out];exact byt_at hx hij
      have CN:Hid (∀u,New w9 u→Calls Tryz.prog 25 #[.agg #[.int .i64 32,.slice A2 n2 c2],.int .i64 ((x.i:Nat):Int)] u (NewNum u ((m:Nat):Int))):=fun u hu=>by
       have:=HU.out.node HRLRw.out hu x.i
       rwa [noI_at HRLRw.out.ord hux] at this
      obtain⟨bk2,o2,e2,rfl,hl2,he2,hg2⟩:=HU.out.get hux;have u0:=(HU.out.new hmr.out).c0;have u1:=(HU.out.new hmr.out).c1;have ult:=(HU.out.new hmr.out).lt;have dij2:decide (x.i=j)=false:=decide_eq_false hij
      go_upto_region 20 with fail
      go_quiet (fail)
      go_upto_region 21 with fail
      obtain⟨wv,hwv⟩:∃wv,wv=wr.drewN nq:=⟨_,rfl⟩
      have hmv:Hid (New w9 wv):=by rw[hwv];exact hmr.out.drewN nq
      rw[←hwv];clear hwv t0 t1 tlt u0 u1 ult v0 s1 slt dij dij2;have t0:=(HS.out.new hmv.out).c0;have t1:=(HS.out.new hmv.out).c1;have u0:=(HU.out.new hmv.out).c0;have u1:=(HU.out.new hmv.out).c1;obtain⟨_,v0,_⟩:=hg1 _ hmv.out;rw[he1] at v0;have cA:=jH (fun (d:Nat) (os:Array Obj)=>Calls.regrown_of (d:=d) (os:=os) ((CN.out _ (hmv.out.new (New.of_below (below_regrown wv d os)))).mono fun e w' h=>⟨h.1,h.2.below⟩))
      have rt0:=fun d os=>cell_regrown t0 d os
      have rt1:=fun d os=>cell_regrown t1 d os
      have ru0:=fun d os=>cell_regrown u0 d os
      have ru1:=fun d os=>cell_regrown u1 d os
      have rv0:=fun d os=>cell_regrown v0 d os
      clear t0 t1 u0 u1 v0;refine wp_region_quiet_below (by kernel_rfl) (by kernel_rfl) ?_
      repeat (quiet_step (fail))
      quiet_step (first|(go_at_call 25;exact cA.out _ _))
      repeat (quiet_step (fail))
      refine wpQuiet_nil ?_
      intro _ hw'
      obtain⟨⟨dq,osq⟩,hw''⟩:=hw';subst hw'';have HK:=jH (New.of_below (below_regrown wv dq osq));generalize Go.Sort.grow (redrawn wv dq) osq=wn at *;clear cA rt0 rt1 ru0 ru1 rv0 CN;have hmn:=jH (hmv.out.new HK.out);have t0:=(HS.out.new hmn.out).c0;have t1:=(HS.out.new hmn.out).c1;have u0:=(HU.out.new hmn.out).c0;have u1:=(HU.out.new hmn.out).c1;obtain⟨z1,_,_,_,v3,v4⟩:=hg1 _ hmn.out;obtain⟨z2,_,_,_,y3,y4⟩:=hg2 _ hmn.out;have hb1:=z1.2.1;have hb2:=z2.2.1;rw[he1] at v3 v4 hb1;rw[he2] at y3 y4 hb2
      have HLE:Hid (x.b.length≤maxLen):=jH (by
       have:=HRL.out.b_le (List.mem_of_getElem? hx)
       unfold maxLen;omega)
      go_upto_region 22 with fail
      clear hg1 hg2 z1 z2
      have cS:=jH (fun (d:Nat) (os:Array Obj)=>Calls.regrown_of (d:=d) (os:=os) ((same_eq _ _ _ e2.d e1.d _ _ (hb2.new (New.of_below (below_regrown wn d os))) (hb1.new (New.of_below (below_regrown wn d os))) HLE.out).mono fun e w' h=>by
       obtain⟨q,h1,rfl⟩:=h
       exact⟨h1,((Kept.refl (fun _=>False) _).drewN q).below⟩))
      have rt0:=fun d os=>cell_regrown t0 d os
      have rt1:=fun d os=>cell_regrown t1 d os
      have ru0:=fun d os=>cell_regrown u0 d os
      have ru1:=fun d os=>cell_regrown u1 d os
      have rv3:=fun d os=>cell_regrown v3 d os
      have rv4:=fun d os=>cell_regrown v4 d os
      have ry3:=fun d os=>cell_regrown y3 d os
      have ry4:=fun d os=>cell_regrown y4 d os
      clear t0 t1 u0 u1 v3 v4 y3 y4;refine wp_region_quiet_below (by kernel_rfl) (by kernel_rfl) ?_
      repeat (quiet_step (fail))
      quiet_step (first|(go_at_call 24;exact cS.out _ _))
      repeat (quiet_step (fail))
      refine wpQuiet_nil ?_
      intro _ hw'
      obtain⟨⟨dq,osq⟩,hw''⟩:=hw';subst hw'';have HK2:=jH (New.of_below (below_regrown wn dq osq));generalize Go.Sort.grow (redrawn wn dq) osq=wl at *;have hml:=jH (hmn.out.new HK2.out)
      go_wp2_with fail
      go_roundw
      case rel=>exact⟨m+1,hk2.out,by go_num,hml⟩
      case measure=>have:=hk2.out;simp[intOf];omega
    ·have hl1:¬((m:Nat):Int) < ((n1:Nat):Int):=by omega
     have n6:=(HNB.out.new hmr.out).c6;have nlt:=(HNB.out.new hmr.out).lt;rw[HDn.out] at n6;have p6:=(HWB.out.new hmr.out).c6;have plt:=(HWB.out.new hmr.out).lt;rw[M3.out] at p6
     have h21:n2=n1:=by rw[←HU.out.len,M4.out,len_byt,HS.out.len]
     have u1:=(HU.out.new hmr.out).c1;have ult:=(HU.out.new hmr.out).lt;rw[h21] at u1
     have h9:((nd.b.length:Nat):Int)≤((Bn.length:Nat):Int):=by have:=M9.out;omega
     have h91:nd.b.length≤Bn.length:=M9.out;have HNf:=jH (HN.out.new hmr.out)
     go_wp2_with fail
     refine (mlives_any _).mono ?_;rintro e wy ⟨rfl,hky⟩;have HNy:Hid (New w wy):=jH (by first|exact HNf.out.new hky|exact (HNf.out.drewN _).new hky);clear hky
     go_wp2_with fail
     try simp only[Exit.then]
     refine bodyPost_ret (by simp[results,Tryz.results5,go_sem];try rfl) rfl ?_
     exact⟨rfl,HNy.out⟩
set_option maxRecDepth 100000 in
theorem lifted (os:Os) (started:os.Started) (H:Type) (enc:TypeId×Value→H) (F:Stop.Interp):
  ReturnsInHanded {} Tryz.checked os 5 .any ((Rows.OpenSpec.upto Rows.modelWritesSpec).pre6 enc Tryz.prog Tryz.f5 Rows.modelWritesUptoRow.domain false) (((Rows.OpenSpec.upto Rows.modelWritesSpec).at F).post enc Tryz.prog Tryz.f5 false true false false):=by
 refine lift_upto (C:=Tryz.checked) (s:=Rows.modelWritesSpec) (tb:=4) own started (by kernel_rfl) Tryz.func5
  (OpenSpec.witness (enc:=enc) (C:=Tryz.checked) (s:=Rows.OpenSpec.upto Rows.modelWritesSpec) (k:=Rows.uptoSmall) rfl false ⟨#[],#[.slice none 0 0,.string .empty,.int .i64 0,.slice none 0 0],[]⟩ 8 (by kernel_rfl) (by kernel_rfl) (by kernel_rfl)
   (x:=([.nil,.lit (.string []),.lit (.int .i64 0),.nil],[],[])) (by kernel_rfl) rfl (by kernel_rfl))
  rfl (by kernel_rfl) Tryz.underlying4 ?_ laidOut (of_decide_eq_true (by kernel_rfl)) ?_
 ·intro ds hd
  match ds,hd with
  | [d0,d1,d2,d3],_=>exact⟨rfl,rfl,rfl⟩
 ·intro W base args ds hA hk
  have hA:Args enc Tryz.prog W base Tryz.f5.params.toList args.toList ds:=hA;rw[Tryz.params5] at hA;obtain⟨v0,vs0,d0,ds0,p0,hargs,rfl,a0,hA⟩:=hA.cons_;obtain⟨v1,vs1,d1,ds1,p1,rfl,rfl,a1,hA⟩:=hA.cons_;obtain⟨v2,vs2,d2,ds2,p2,rfl,rfl,a2,hA⟩:=hA.cons_;obtain⟨v3,vs3,d3,ds3,p3,rfl,rfl,a3,hA⟩:=hA.cons_;obtain⟨rfl,rfl⟩:=hA.nil_
  obtain rfl:args=#[v0,v1,v2,v3]:=by cases args;simp_all
  obtain⟨A0,n0,c0,l0,rfl,b0,k0,m0⟩:=a0.actsC_ (bulk_at hk (by simp));obtain⟨x1,rfl,rfl,b1⟩:=a1.string_ Tryz.underlying9;obtain⟨x2,rfl,w2⟩:=a2.int_ Tryz.underlying3;obtain⟨A3,n3,c3,l3,b3⟩:=a3.bytes_ Tryz.underlying32 Tryz.underlying5 (by kernel_rfl) (by kernel_rfl);obtain rfl:=b3.val
  exact walk A0 n0 c0 l0 x1 x2 A3 n3 c3 l3 W b0 k0 m0 (str_bulk (bulk_at hk (by simp))) (i64_bounds w2) b3 (bulk_ok hk)
theorem proved:Rows.ModelWritesUptoSaid:=
 OpenClaim.holds_of_cond 5 Tryz.f5 rfl rfl rfl rfl rfl rfl rfl ⟨rfl,rfl,rfl,rfl,rfl⟩ rfl rfl rfl rfl rfl (by kernel_rfl) Tryz.func5 (by kernel_rfl)
  (of_decide_eq_true (by kernel_rfl)) (by unfold Func.isWrapper;first|(rw[if_pos (by decide +kernel)];kernel_rfl)|(rw[if_neg (by decide +kernel)];exact⟨rfl,rfl⟩))
  (fun os started H enc _ F=>lifted os started H enc F)
end Go.Proofs.YtjjamoemheljdaaGreat.modelWrites
