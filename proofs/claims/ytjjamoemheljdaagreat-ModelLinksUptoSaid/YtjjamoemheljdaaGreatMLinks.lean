/-
  ModelLinks: a link is one name more of the same node; unlinked again, the tree is what it was; where what comes in is of bulk at most 1048576.
-/
import Derived.Test.YtjjamoemheljdaaGreatB54
namespace Go.Proofs.YtjjamoemheljdaaGreat
set_option linter.unusedSimpArgs false
set_option linter.unusedVariables false
section
theorem entF_is {ns:List (ByteArray×Nat)} (ho:OrdS ns) {e:ByteArray×Nat} (h:e∈ns):entF ns e.1=e.2:=by
 have:=ns_uniq ho (entF_mem ⟨e,h,rfl⟩) h rfl
 exact congrArg (·.2) this
end
section
theorem lookF_app {L:List ND}:∀(l r:List ByteArray) (q0 j0 q j:Nat),lookF L l q0 j0=(q,j,0)→j≠0→lookF L (l++r) q0 j0=lookF L r q j
 | [],r,q0,j0,q,j,h,_=>by
  unfold lookF at h
  injection h with h1 h2
  injection h2 with h2 _
  subst h1 h2
  rfl
 | x::l,r,q0,j0,q,j,h,hj=>by
  rw[List.cons_append];rw[lookF] at h ⊢
  by_cases h0:j0=0
  ·rw[if_pos h0] at h;simp at h
  ·rw[if_neg h0] at h ⊢
   cases hn:ndI L j0 with
   | none=>
    rw[hn] at h
    simp only[Prod.mk.injEq] at h
    exact absurd h.2.1.symm hj
   | some n=>
    rw[hn] at h
    simp only at h ⊢
    by_cases hk:n.k≠1
    ·rw[if_pos hk] at h;simp at h
    ·rw[if_neg hk] at h ⊢
     exact lookF_app l r j0 _ q j h hj
theorem way_look {T:TT} (h:Rt T) {l:List ByteArray} {j:Nat} (hw:Way T.l l j):∃q,lookF T.l l 0 1=(q,j,0):=by
 induction hw with
 | root=>exact⟨0,rfl⟩
 | more hw hn he ih=>
  obtain⟨q,hq⟩:=ih
  rename_i l0 n e
  have hi:=(h.rng n hn).1;refine⟨n.i,?_⟩;rw[lookF_app _ _ _ _ _ _ hq (by omega)];unfold lookF;rw[if_neg (by omega),ndI_mem h.ord hn]
  simp only
  rw[if_neg (by rw[fine_ns (h.fin n hn) he];simp)];unfold lookF;rw[entF_is (h.fin n hn).1 he]
theorem look_of {T:TT} (h:Rt T) {g:List ByteArray} {q j:Nat} (hp:LkP T.l g q j):lookF T.l g 0 1=(q,j,0):=by
 rcases hp.here with ⟨rfl,rfl,rfl⟩|⟨l,x,n,rfl,hw,hn,hk,rfl⟩
 ·rfl
 ·obtain⟨q',hq⟩:=way_look h hw;obtain⟨h1,h2⟩:=ndI_some hn;have hi:=(h.rng n h1).1;rw[lookF_app _ _ _ _ _ _ hq (by omega)];unfold lookF;rw[if_neg (by omega),hn]
  simp only
  rw[if_neg (by rw[hk];simp)];unfold lookF
  rfl
theorem way_mono {L M:List ND} (hm:∀n∈L,∀e∈n.ns,∃m∈M,m.i=n.i∧e∈m.ns) {l:List ByteArray} {j:Nat} (hw:Way L l j):Way M l j:=by
 induction hw with
 | root=>exact .root
 | more hw hn he ih=>
  obtain⟨m,h1,h2,h3⟩:=hm _ hn _ he;rw[←h2] at ih
  exact Way.more ih h1 h3
theorem del_add {nm:ByteArray} {j:Nat} {ns:List (ByteArray×Nat)} (h:¬hasNm nm ns):delNm nm (addNm nm j ns)=ns:=by
 unfold delNm addNm;rw[List.filter_append,List.filter_cons_of_neg (by simp),←List.filter_append,List.takeWhile_append_dropWhile]
 exact List.filter_eq_self.2 fun e he=>by simp;exact fun x=>h ⟨e,he,x⟩
theorem upd_upd {L:List ND} {j:Nat} {f g:ND→ND} (hf:∀n,n.i=j→(f n).i=n.i):updI (updI L j f) j g=updI L j fun n=>g (f n):=by
 unfold updI;rw[List.map_map]
 apply List.map_congr_left
 intro n _
 simp only[Function.comp]
 by_cases h:n.i=j
 ·rw[if_pos h,if_pos h,if_pos (by rw[hf n h,h])]
 ·rw[if_neg h,if_neg h,if_neg h]
theorem upd_idem {L:List ND} {j:Nat} {f:ND→ND} (hf:∀n∈L,n.i=j→f n=n):updI L j f=L:=by
 unfold updI
 have:∀n∈L,(if n.i=j then f n else n)=n:=fun n hn=>by
  split
  ·exact hf n hn (by assumption)
  ·rfl
 rw[List.map_congr_left this];simp
theorem del_addE {L:List ND} {r:Nat} {x:ByteArray} {j:Nat} (h:∀n∈L,n.i=r→¬hasNm x n.ns):delE (addE L r x j) r x=L:=by
 unfold delE addE;rw[upd_upd (f:=fun n=>{ n with ns:=addNm x j n.ns }) (g:=fun n=>{ n with ns:=delNm x n.ns }) (fun _ _=>rfl)]
 exact upd_idem fun n hn hi=>by
  simp only
  rw[del_add (h n hn hi)]
theorem lnk_lnk {L:List ND} {j a b:Nat} (h:∀n∈L,n.i=j→n.l=b):lnkE (lnkE L j a) j b=L:=by
 unfold lnkE;rw[upd_upd (f:=fun n=>{ n with l:=a }) (g:=fun n=>{ n with l:=b }) (fun _ _=>rfl)]
 exact upd_idem fun n hn hi=>by
  simp only
  rw[←h n hn hi]
theorem do_one {T:TT} {c:AC} (h:1≤c.k∧c.k≤11) (h2:¬twoK c.k) {q j:Nat} (hp:peB c.p=0) (hl:lookF T.l (pnB c.p) 0 1=(q,j,0)):doF T c=actF T c (pnB c.p) [] q j 0 0:=by
 unfold doF;rw[if_neg (by omega),if_neg (by rw[hp];simp),if_neg (fun x=>h2 x.1),hl]
 simp only
 rw[if_neg (by simp),if_neg h2]
theorem do_two {T:TT} {c:AC} (h2:twoK c.k) {q j r v:Nat} (hp:peB c.p=0) (ht:peB c.t=0) (hl:lookF T.l (pnB c.p) 0 1=(q,j,0)) (hm:lookF T.l (pnB c.t) 0 1=(r,v,0)):doF T c=actF T c (pnB c.p) (pnB c.t) q j r v:=by
 unfold doF
 have:¬(c.k=0∨11 < c.k):=by rcases h2 with h|h<;>omega
 rw[if_neg this,if_neg (by rw[hp];simp),if_neg (fun x=>x.2 ht),hl,hm]
 simp only
 rw[if_neg (by simp),if_pos h2,if_neg (by simp)]
theorem do_one_ok {T:TT} {c:AC} (he:(doF T c).2.e=0):1≤c.k∧c.k≤11∧peB c.p=0∧∃q j,lookF T.l (pnB c.p) 0 1=(q,j,0):=by
 unfold doF at he
 split at he
 ·simp[erA] at he
 rename_i h1
 split at he
 ·rename_i h2;exact absurd he h2
 rename_i h2
 split at he
 ·rename_i h3;exact absurd he h3.2
 split at he
 ·rename_i h4;exact absurd he h4
 rename_i h4
 refine⟨by omega,by omega,by omega,(lookF T.l (pnB c.p) 0 1).1,(lookF T.l (pnB c.p) 0 1).2.1,?_⟩
 have h5:(lookF T.l (pnB c.p) 0 1).2.2=0:=by omega
 exact Prod.ext rfl (Prod.ext rfl h5)
theorem do_two_ok {T:TT} {c:AC} (h2:twoK c.k) (he:(doF T c).2.e=0):peB c.t=0∧∃r v,lookF T.l (pnB c.t) 0 1=(r,v,0):=by
 unfold doF at he
 split at he
 ·simp[erA] at he
 split at he
 ·rename_i h2;exact absurd he h2
 split at he
 ·rename_i h3;exact absurd he h3.2
 rename_i h3
 split at he
 ·rename_i h4;exact absurd he h4
 split at he
 ·rename_i h4;exact absurd he h4
 rename_i h4
 refine⟨Decidable.byContradiction fun x=>h3 ⟨h2,x⟩,(lookF T.l (pnB c.t) 0 1).1,(lookF T.l (pnB c.t) 0 1).2.1,?_⟩
 have h5:(lookF T.l (pnB c.t) 0 1).2.2=0:=by omega
 exact Prod.ext rfl (Prod.ext rfl h5)
theorem do_stat {T:TT} {p t:ByteArray} {a m:Int} {b:List Nat} {q j:Nat} {n:ND} (hp:peB p=0) (hl:lookF T.l (pnB p) 0 1=(q,j,0)) (h0:j≠0) (hn:ndI T.l j=some n):
  doF T ⟨10,p,t,a,m,b⟩=(T,⟨0,j,0,n.k,n.l,n.b.length,[],[]⟩):=by
 rw[do_one (c:=⟨10,p,t,a,m,b⟩) (by simp) (by unfold twoK;simp) hp hl];unfold actF;rw[if_neg (by simp),if_neg h0,hn]
 rfl
theorem look_add {T U:TT} (hU:Rt U) {m:List ByteArray} {r v j:Nat} (hp:LkP T.l m r v) (hv:v≠1) (hm:∀n∈T.l,∀e∈n.ns,∃n'∈U.l,n'.i=n.i∧e∈n'.ns) (hr:∀n,ndI T.l r=some n→n.k=1→∃n',ndI U.l r=some n'∧n'.k=1∧(lst m,j)∈n'.ns):LkP U.l m r j:=by
 rcases hp.here with ⟨rfl,rfl,rfl⟩|⟨l,x,n,rfl,hw,hn,hk,_⟩
 ·exact absurd rfl hv
 ·obtain⟨n',h1,h2,h3⟩:=hr n hn hk;rw[lst_app] at h3
  exact⟨.inr ⟨l,x,n',rfl,way_mono hm hw,h1,h2,(entF_is (hU.fin n' (ndI_some h1).1).1 h3).symm⟩⟩
theorem link_math {T:TT} (h:Rt T) {a b:ByteArray} (he:(doF T ⟨4,a,b,0,0,[]⟩).2.e=0):
  (doF (doF T ⟨4,a,b,0,0,[]⟩).1 ⟨10,b,ByteArray.empty,0,0,[]⟩).2.i=(doF T ⟨10,a,ByteArray.empty,0,0,[]⟩).2.i ∧
  (doF (doF T ⟨4,a,b,0,0,[]⟩).1 ⟨10,b,ByteArray.empty,0,0,[]⟩).2.l=(doF T ⟨10,a,ByteArray.empty,0,0,[]⟩).2.l+1 ∧
  doF (doF T ⟨4,a,b,0,0,[]⟩).1 ⟨5,b,ByteArray.empty,0,0,[]⟩=(T,erA 0)∧(doF T ⟨10,a,ByteArray.empty,0,0,[]⟩).2.l≤6:=by
 have hU:=rt_do h ⟨4,a,b,0,0,[]⟩ (by simp);obtain⟨_,_,hpa,q,j,hl⟩:=do_one_ok he;obtain⟨hpb,r,v,hm⟩:=do_two_ok (.inl rfl) he
 simp only at hpa hl hpb hm
 have hD:=do_two (T:=T) (c:=⟨4,a,b,0,0,[]⟩) (.inl rfl) hpa hpb hl hm;rw[hD] at he hU ⊢;unfold actF at he hU ⊢;rw[if_neg (by simp)] at he hU ⊢
 by_cases h0:j=0
 ·rw[if_pos h0] at he;simp[erA] at he
 rw[if_neg h0] at he hU ⊢
 cases hn:ndI T.l j with
 | none=>rw[hn] at he;simp[erA] at he
 | some n=>
  rw[hn] at he hU
  simp only at he hU ⊢
  rw[if_neg (by decide),if_pos trivial] at he hU ⊢;unfold lnF at he hU ⊢
  by_cases hk:n.k≠2
  ·rw[if_pos hk] at he;simp[erA] at he
  rw[if_neg hk] at he hU ⊢
  by_cases hv:v≠0
  ·rw[if_pos hv] at he;simp[erA] at he
  rw[if_neg hv] at he hU ⊢
  by_cases h6:6≤n.l
  ·rw[if_pos h6] at he;simp[erA] at he
  rw[if_neg h6] at he hU ⊢
  obtain rfl:v=0:=by omega
  have hpm:=look_ok h hm;obtain⟨hn1,hn2⟩:=ndI_some hn
  simp only at hU ⊢
  obtain⟨d,hd⟩:=h.dep;obtain⟨l0,nr,_,_,hnr,hri,hrk,hre,_⟩:=hpm.dir h hd (.inr (by omega));have hnone:¬hasNm (lst (pnB b)) nr.ns:=hasNm_none (h.ent_ne hnr) hre
  have hndr:∀k,ndI (linkE T.l r (lst (pnB b)) j n.l) k=if k=r then (ndI (lnkE T.l j (n.l+1)) r).map (fun x=>{ x with ns:=addNm (lst (pnB b)) j x.ns }) else ndI (lnkE T.l j (n.l+1)) k:=fun k=>by
   unfold linkE addE
   exact upd_nd (f:=fun x=>{ x with ns:=addNm (lst (pnB b)) j x.ns }) (fun _ _=>rfl) k
  have hndl:∀k,ndI (lnkE T.l j (n.l+1)) k=if k=j then (ndI T.l j).map (fun x=>{ x with l:=n.l+1 }) else ndI T.l k:=fun k=>by
   unfold lnkE
   exact upd_nd (f:=fun x=>{ x with l:=n.l+1 }) (fun _ _=>rfl) k
  have hpU:LkP (linkE T.l r (lst (pnB b)) j n.l) (pnB b) r j:=by
   refine look_add (T:=T) (U:=⟨T.p,linkE T.l r (lst (pnB b)) j n.l⟩) hU hpm (by omega) ?_ ?_
   ·intro x hx e hex
    have h1:∃x1∈lnkE T.l j (n.l+1),x1.i=x.i∧x1.ns=x.ns:=by
     unfold lnkE
     rcases mem_updE (j:=j) (f:=fun x=>{ x with l:=n.l+1 }) hx with ⟨_,hh⟩|⟨_,hh⟩
     ·exact⟨x,hh,rfl,rfl⟩
     ·exact⟨_,hh,rfl,rfl⟩
    obtain⟨x1,hx1,hi1,hs1⟩:=h1
    show ∃n'∈addE (lnkE T.l j (n.l+1)) r (lst (pnB b)) j,_
    unfold addE
    rcases mem_updE (j:=r) (f:=fun x=>{ x with ns:=addNm (lst (pnB b)) j x.ns }) hx1 with ⟨_,hh⟩|⟨_,hh⟩
    ·exact⟨x1,hh,hi1,by rw[hs1];exact hex⟩
    ·exact⟨_,hh,hi1,by rw[mem_add,hs1];exact .inr hex⟩
   ·intro x hx hxk
    show ∃n',ndI (linkE T.l r (lst (pnB b)) j n.l) r=some n'∧_
    rw[hndr,if_pos rfl,hndl]
    by_cases hrj:r=j
    ·subst hrj;rw[hx] at hn
     injection hn with hn
     subst hn
     omega
    ·rw[if_neg hrj,hx]
     exact⟨_,rfl,hxk,by rw[mem_add];exact .inl rfl⟩
  have hlU:=look_of hU hpU
  have hnU:∃n2,ndI (linkE T.l r (lst (pnB b)) j n.l) j=some n2∧n2.k=n.k∧n2.l=n.l+1:=by
   rw[hndr]
   by_cases hrj:j=r
   ·have h7:=nd_uniq h.ord hn1 hnr (by omega);rw[h7] at hk
    omega
   ·rw[if_neg hrj,hndl,if_pos rfl,hn]
    exact⟨_,rfl,rfl,rfl⟩
  obtain⟨n2,hn2,hk2,hl2⟩:=hnU;have hSU:=do_stat (T:=⟨T.p,linkE T.l r (lst (pnB b)) j n.l⟩) (t:=ByteArray.empty) (a:=0) (m:=0) (b:=[]) hpb hlU h0 hn2;have hST:=do_stat (T:=T) (t:=ByteArray.empty) (a:=0) (m:=0) (b:=[]) hpa hl h0 hn;rw[hSU,hST];refine⟨rfl,hl2,?_,by simp only;omega⟩;rw[do_one (T:=⟨T.p,linkE T.l r (lst (pnB b)) j n.l⟩) (c:=⟨5,b,ByteArray.empty,0,0,[]⟩) (by simp) (by unfold twoK;simp) hpb hlU];unfold actF;rw[if_neg (by simp),if_neg h0]
  show (match ndI (linkE T.l r (lst (pnB b)) j n.l) j with|none=>_|some n=>_)=_
  rw[hn2]
  simp only
  rw[if_neg (by decide),if_neg (by decide),if_pos trivial];unfold ulF;rw[if_neg (by omega),hl2];unfold loseE;have h1:=(fine_file (h.fin n hn1) (by omega)).2.1;rw[if_neg (by omega)];unfold linkE;rw[del_addE,lnk_lnk]
  ·intro x hx hxi
   rw[nd_uniq h.ord hx hn1 (by omega)];omega
  ·intro x hx hxi
   unfold lnkE at hx
   rcases mem_upd.1 hx with ⟨y,hy,hyj,rfl⟩|⟨hy,hyj⟩
   ·rw[nd_uniq h.ord hy hnr (by simp only at hxi;omega)];exact hnone
   ·rw[nd_uniq h.ord hy hnr (by omega)];exact hnone
end
end Go.Proofs.YtjjamoemheljdaaGreat

namespace Go.Proofs.YtjjamoemheljdaaGreat.modelLinks
set_option linter.unusedSimpArgs false
set_option linter.unusedVariables false
open Go.ChangeShapes Go.WideShapes Go.ChangeAt Go.RowKit
theorem own:ownKnob Tryz.prog.godebug=none:=by kernel_rfl
theorem laidOut:laidOutB Tryz.prog=true:=by kernel_rfl
set_option maxRecDepth 100000 in
set_option maxHeartbeats 6400000 in
theorem walk (A:Option Addr) (n c:Nat) (al:List AC) (a b:ByteArray) (w:World) (hl:ActsC w A n al) (_:n≤c) (_:c≤maxLen) (ha:a.size≤1048576) (hb:b.size≤1048576) (_:True):
  Calls Tryz.prog 7 #[.slice A n c,.string a,.string b] w (True1 w):=by
 have HSA:=Lib.hid ha;have HSB:=Lib.hid hb;clear ha hb
 have HRT:Hid (Rt (playT (al.take 30))):=playT_rt fun x hx=>hl.byt x (List.mem_of_mem_take hx)
 obtain⟨T9,hT9⟩:∃T9,T9=playT (al.take 30):=⟨_,rfl⟩
 have HE:Hid ((⟨32,T9.l⟩:TT)=T9):=by rw[hT9];exact playT_eta _
 have H32:Hid (T9.p=32):=by rw[hT9];exact playT_p _
 have CP:=Lib.hid (mplayed_yes A n c al w hl);rw[←hT9] at CP HRT;clear hT9;clear hl
 go_enter Tryz.func7,Tryz.ntmps7
 go_wp2_with fail
 refine CP.out.mono ?_;rintro e w2 ⟨A3,c3,es3,rfl,hL3,hO3,hN3⟩;clear CP;have N1:Hid (New w w):=Lib.hid (Kept.refl _ _)
 obtain⟨w3,g3,hZ,hg,k3,hB3,hT3⟩:∃w3 g3,w2.alloc (.cells #[.int .i64 32,.slice A3 es3.length c3] 25)=w3∧w2.heap.size=g3∧New w2 w3∧TBx w w3 g3 T9.l A3 es3.length c3∧LT w w3 g3 32 T9.l:=by
  have hk:=(Kept.refl (fun _=>False) w2).alloc (.cells #[.int .i64 32,.slice A3 es3.length c3] 25);have hO4:=(hO3.mono N1.out.size).new hk
  exact⟨_,_,rfl,rfl,hk,⟨Blk.made w2 _ _,es3,hO4,rfl,hL3⟩,A3,c3,es3,Blk.made w2 _ _,hO4,hL3,(N1.out.new hN3).new hk,(N1.out.new hN3).size⟩
 have HB3:=Lib.hid hB3;have HT3:=Lib.hid hT3;have HN:=Lib.hid ((N1.out.new hN3).new k3);clear hB3 hT3 hL3 hO3;clear hN3 k3 N1
 have HRL:Hid (Rt ⟨32,T9.l⟩):=by rw[HE.out];exact HRT
 have hb:=HB3.out;clear HB3;have b0:=hb.c0;have b1:=hb.c1;have hlt:=hb.lt;have CD:=Lib.hid (hb.do_ HRL.out (Kept.refl _ _) 10 a (⟨#[]⟩:ByteArray) 0 0 none 0 0 [] HSA.out (by decide) (Bts.nil _ _) (by decide));clear hb;obtain⟨Rs,hRs⟩:∃r,r=doF ⟨32,T9.l⟩ ⟨10,a,(⟨#[]⟩:ByteArray),0,0,[]⟩:=⟨_,rfl⟩;rw[←hRs] at CD;have HRs:=Lib.hid hRs;clear hRs
 go_upto_region 3 with (go_at_call 16;refine CD.out.mono ?_;rintro e we ⟨A3,c3,es3,B3,d3,T3,t3,rfl,hL3,hO3,hB3,hX3,hK3,hA3⟩)
 clear hZ hg;have hQ:=Lib.hid (two_box (t3:=t3) HN.out hL3 hO3 hB3 hX3 hK3 hA3);clear hL3 hO3 hB3 hX3 hK3 hA3 CD b0 b1 hlt;obtain⟨w4,gq,gas,hZ,hg,hg2,hk,hT,hA⟩:=hQ.out;rw[hZ,hg,hg2];clear hZ hg hg2 hQ;have HTq:=Lib.hid hT;have HAs:=Lib.hid hA;have HX:=Lib.hid (HN.out.new hk);clear hT hA HN;have HN:=HX;clear HX;have HX:=Lib.hid (HT3.out.new hk);clear HT3;have HT3:=HX;clear HX;clear hk;obtain⟨A1,n1,c1,hb⟩:=HT3.out.bx;have b0:=hb.c0;have b1:=hb.c1;have hlt:=hb.lt;have CD:=Lib.hid (hb.do_ HRL.out (Kept.refl _ _) 4 a b 0 0 none 0 0 [] HSA.out HSB.out (Bts.nil _ _) (by decide));clear hb;obtain⟨Re,hRe⟩:∃r,r=doF ⟨32,T9.l⟩ ⟨4,a,b,0,0,[]⟩:=⟨_,rfl⟩
 rw[←hRe] at CD;have HRe:=Lib.hid hRe;clear hRe
 go_upto_region 4 with (go_at_call 16;refine CD.out.mono ?_;rintro e we ⟨A3,c3,es3,B3,d3,T3,t3,rfl,hL3,hO3,hB3,hX3,hK3,hA3⟩)
 have hQ:=Lib.hid (two_box (t3:=t3) HN.out hL3 hO3 hB3 hX3 hK3 hA3);clear hL3 hO3 hB3 hX3 hK3 hA3 CD b0 b1 hlt;obtain⟨w5,gu,gae,hZ,hg,hg2,hk,hT,hA⟩:=hQ.out;rw[hZ,hg,hg2];clear hZ hg hg2 hQ;have HTu:=Lib.hid hT;have HAe:=Lib.hid hA;have HX:=Lib.hid (HN.out.new hk);clear hT hA HN;have HN:=HX;clear HX;have HX:=Lib.hid (HT3.out.new hk);clear HT3;have HT3:=HX;clear HX;have HX:=Lib.hid (HTq.out.new hk);clear HTq;have HTq:=HX;clear HX;have HX:=Lib.hid (HAs.out.new hk);clear HAs;have HAs:=HX;clear HX;clear hk
 have HDRe:Hid (Re=doF T9 ⟨4,a,b,0,0,[]⟩):=Lib.hid (by rw[HRe.out,HE.out]<;>rfl)
 have HERe:Hid ((⟨32,Re.1.l⟩:TT)=Re.1):=Lib.hid (by
  have h1:=do_eta T9 ⟨4,a,b,0,0,[]⟩;rw[H32.out] at h1
  rw[HDRe.out,h1])
 have HRTRe:Hid (Rt Re.1):=Lib.hid (by rw[HDRe.out];exact rt_do HRT.out ⟨4,a,b,0,0,[]⟩ (by simp));have H32Re:Hid (Re.1.p=32):=Lib.hid (by rw[HDRe.out,do_p];exact H32.out);have HRLRe:Hid (Rt ⟨32,Re.1.l⟩):=Lib.hid (by rw[HERe.out];exact HRTRe.out)
 have HDs:Hid (Rs=doF T9 ⟨10,a,ByteArray.empty,0,0,[]⟩):=Lib.hid (by rw[HRs.out,HE.out]<;>rfl)
 obtain⟨B5,d5,T5,t5,hA⟩:=HAe.out.bx;have e0:=hA.c0;have elt:=hA.lt;clear hA
 by_cases he:Re.2.e≠0
 ·have d0:decide (((Re.2.e:Nat):Int)=0)=false:=decide_eq_false (by omega);have HSM:Hid (Re.1.l=T9.l):=Lib.hid (by rw[HDRe.out] at he ⊢;rw[do_same (.inl he)]);obtain⟨A1,n1,c1,hS⟩:=HT3.out.bx;obtain⟨A2,n2,c2,hU⟩:=HTu.out.bx;have s0:=hS.c0;have s1:=hS.c1;have slt:=hS.lt;have u0:=hU.c0;have u1:=hU.c1;have ult:=hU.lt;rw[HSM.out] at hU;have CS:=Lib.hid (hS.same hU HRL.out (Kept.refl _ _) (Kept.refl _ _));clear hS hU
  go_wp2_with fail
  refine CS.out.mono ?_;rintro e wx ⟨rfl,hkx⟩;have HNx:=Lib.hid (HN.out.new hkx);clear hkx CS s0 s1 slt u0 u1 ult
  go_wp2_with fail
  refine (mlives_any _).mono ?_;rintro e wy ⟨rfl,hky⟩;have HNy:=Lib.hid (HNx.out.new hky);clear hky
  go_wp2_with fail
  try simp only[Exit.then]
  refine bodyPost_ret (by simp[results,Tryz.results7,go_sem];try rfl) rfl ?_
  exact⟨rfl,HNy.out⟩
 have he0:Re.2.e=0:=by omega
 rw[he0] at e0;have HM:=Lib.hid (link_math (T:=T9) HRT.out (a:=a) (b:=b) (by rw[←HDRe.out];exact he0));clear he;obtain⟨A1,n1,c1,hb⟩:=HTu.out.bx;have b0:=hb.c0;have b1:=hb.c1;have hlt:=hb.lt;have CD:=Lib.hid (hb.do_ HRLRe.out (Kept.refl _ _) 10 b (⟨#[]⟩:ByteArray) 0 0 none 0 0 [] HSB.out (by decide) (Bts.nil _ _) (by decide));clear hb;obtain⟨Rx,hRx⟩:∃r,r=doF ⟨32,Re.1.l⟩ ⟨10,b,(⟨#[]⟩:ByteArray),0,0,[]⟩:=⟨_,rfl⟩;rw[←hRx] at CD;have HRx:=Lib.hid hRx;clear hRx
 go_upto_region 7 with (go_at_call 16;refine CD.out.mono ?_;rintro e we ⟨A3,c3,es3,B3,d3,T3,t3,rfl,hL3,hO3,hB3,hX3,hK3,hA3⟩)
 have hQ:=Lib.hid (two_box (t3:=t3) HN.out hL3 hO3 hB3 hX3 hK3 hA3);clear hL3 hO3 hB3 hX3 hK3 hA3 CD b0 b1 hlt;obtain⟨w6,gq2,gax,hZ,hg,hg2,hk,hT,hA⟩:=hQ.out;rw[hZ,hg,hg2];clear hZ hg hg2 hQ;have HTq2:=Lib.hid hT;have HAx:=Lib.hid hA;have HX:=Lib.hid (HN.out.new hk);clear hT hA HN;have HN:=HX;clear HX;have HX:=Lib.hid (HT3.out.new hk);clear HT3;have HT3:=HX;clear HX;have HX:=Lib.hid (HTq.out.new hk);clear HTq;have HTq:=HX;clear HX;have HX:=Lib.hid (HTu.out.new hk);clear HTu;have HTu:=HX;clear HX;have HX:=Lib.hid (HAs.out.new hk);clear HAs;have HAs:=HX;clear HX;have HX:=Lib.hid (HAe.out.new hk);clear HAe
 have HAe:=HX;clear HX;clear e0 elt;clear hk;obtain⟨A1,n1,c1,hb⟩:=HTu.out.bx;have b0:=hb.c0;have b1:=hb.c1;have hlt:=hb.lt;have CD:=Lib.hid (hb.do_ HRLRe.out (Kept.refl _ _) 5 b (⟨#[]⟩:ByteArray) 0 0 none 0 0 [] HSB.out (by decide) (Bts.nil _ _) (by decide));clear hb;obtain⟨Rf,hRf⟩:∃r,r=doF ⟨32,Re.1.l⟩ ⟨5,b,(⟨#[]⟩:ByteArray),0,0,[]⟩:=⟨_,rfl⟩;rw[←hRf] at CD;have HRf:=Lib.hid hRf;clear hRf
 go_upto_region 8 with (go_at_call 16;refine CD.out.mono ?_;rintro e we ⟨A3,c3,es3,B3,d3,T3,t3,rfl,hL3,hO3,hB3,hX3,hK3,hA3⟩)
 have hQ:=Lib.hid (two_box (t3:=t3) HN.out hL3 hO3 hB3 hX3 hK3 hA3);clear hL3 hO3 hB3 hX3 hK3 hA3 CD b0 b1 hlt;obtain⟨w7,gv,gaf,hZ,hg,hg2,hk,hT,hA⟩:=hQ.out;rw[hZ,hg,hg2];clear hZ hg hg2 hQ;have HTv:=Lib.hid hT;have HAf:=Lib.hid hA;have HX:=Lib.hid (HN.out.new hk);clear hT hA HN;have HN:=HX;clear HX;have HX:=Lib.hid (HT3.out.new hk);clear HT3;have HT3:=HX;clear HX;have HX:=Lib.hid (HTq.out.new hk);clear HTq;have HTq:=HX;clear HX;have HX:=Lib.hid (HTu.out.new hk);clear HTu;have HTu:=HX;clear HX;have HX:=Lib.hid (HTq2.out.new hk);clear HTq2;have HTq2:=HX;clear HX;have HX:=Lib.hid (HAs.out.new hk)
 clear HAs;have HAs:=HX;clear HX;have HX:=Lib.hid (HAe.out.new hk);clear HAe;have HAe:=HX;clear HX;have HX:=Lib.hid (HAx.out.new hk);clear HAx;have HAx:=HX;clear HX;clear hk
 have HDx:Hid (Rx=doF Re.1 ⟨10,b,ByteArray.empty,0,0,[]⟩):=Lib.hid (by rw[HRx.out,HERe.out]<;>rfl)
 have HDf:Hid (Rf=doF Re.1 ⟨5,b,ByteArray.empty,0,0,[]⟩):=Lib.hid (by rw[HRf.out,HERe.out]<;>rfl)
 have hxi:Rx.2.i=Rs.2.i:=by rw[HDx.out,HDs.out,HDRe.out];exact HM.out.1
 have hxl:Rx.2.l=Rs.2.l+1:=by rw[HDx.out,HDs.out,HDRe.out];exact HM.out.2.1
 have hf:Rf=(T9,erA 0):=by rw[HDf.out,HDRe.out];exact HM.out.2.2.1
 obtain⟨_,_,_,_,hx⟩:=HAx.out.bx;obtain⟨_,_,_,_,hs⟩:=HAs.out.bx;obtain⟨_,_,_,_,hf0⟩:=HAf.out.bx;have x1:=hx.c1;have x4:=hx.c4;have xlt:=hx.lt;have s1':=hs.c1;have s4:=hs.c4;have slt':=hs.lt;have f0:=hf0.c0;have flt:=hf0.lt;rw[hxi] at x1;rw[hxl] at x4;rw[hf] at f0
 have hsl:Rs.2.l≤6:=by rw[HDs.out];exact HM.out.2.2.2
 generalize Rs.2.l=kl at *;generalize Rs.2.i=ki at *;have dl:decide ((((kl+1:Nat):Nat):Int)=((kl:Nat):Int)+1)=true:=decide_eq_true (by omega);have HVL:Hid (Rf.1.l=T9.l):=Lib.hid (by rw[hf]);clear hx hs hf0 hf HAe HAs HAx HAf HTu HTq HTq2;obtain⟨A1,n1,c1,hS⟩:=HT3.out.bx;obtain⟨A2,n2,c2,hU⟩:=HTv.out.bx;have s0:=hS.c0;have s1:=hS.c1;have slt:=hS.lt;have u0:=hU.c0;have u1:=hU.c1;have ult:=hU.lt;rw[HVL.out] at hU;have CS:=Lib.hid (hS.same hU HRL.out (Kept.refl _ _) (Kept.refl _ _));clear hS hU
 go_wp2_with fail
 refine CS.out.mono ?_;rintro e wx ⟨rfl,hkx⟩;have HNx:=Lib.hid (HN.out.new hkx);clear hkx CS s0 s1 slt u0 u1 ult
 go_wp2_with fail
 refine (mlives_any _).mono ?_;rintro e wy ⟨rfl,hky⟩;have HNy:=Lib.hid (HNx.out.new hky);clear hky
 go_wp2_with fail
 try simp only[Exit.then]
 refine bodyPost_ret (by simp[results,Tryz.results7,go_sem];try rfl) rfl ?_
 exact⟨rfl,HNy.out⟩
set_option maxRecDepth 100000 in
theorem lifted (os:Os) (started:os.Started) (H:Type) (enc:TypeId×Value→H) (F:Stop.Interp):
  ReturnsInHanded {} Tryz.checked os 7 .any ((Rows.OpenSpec.upto Rows.modelLinksSpec).pre6 enc Tryz.prog Tryz.f7 Rows.modelLinksUptoRow.domain false) (((Rows.OpenSpec.upto Rows.modelLinksSpec).at F).post enc Tryz.prog Tryz.f7 false true false false):=by
 refine lift_upto (C:=Tryz.checked) (s:=Rows.modelLinksSpec) (tb:=4) own started (by kernel_rfl) Tryz.func7
  (OpenSpec.witness (enc:=enc) (C:=Tryz.checked) (s:=Rows.OpenSpec.upto Rows.modelLinksSpec) (k:=Rows.uptoSmall) rfl false ⟨#[],#[.slice none 0 0,.string .empty,.string .empty],[]⟩ 8 (by kernel_rfl) (by kernel_rfl) (by kernel_rfl)
   (x:=([.nil,.lit (.string []),.lit (.string [])],[],[])) (by kernel_rfl) rfl (by kernel_rfl))
  rfl (by kernel_rfl) Tryz.underlying4 ?_ laidOut (of_decide_eq_true (by kernel_rfl)) ?_
 ·intro ds hd
  match ds,hd with
  | [d0,d1,d2],_=>exact⟨rfl,rfl,rfl⟩
 ·intro W base args ds hA hk
  have hA:Args enc Tryz.prog W base Tryz.f7.params.toList args.toList ds:=hA;rw[Tryz.params7] at hA;obtain⟨v0,vs0,d0,ds0,p0,hargs,rfl,a0,hA⟩:=hA.cons_;obtain⟨v1,vs1,d1,ds1,p1,rfl,rfl,a1,hA⟩:=hA.cons_;obtain⟨v2,vs2,d2,ds2,p2,rfl,rfl,a2,hA⟩:=hA.cons_;obtain⟨rfl,rfl⟩:=hA.nil_
  obtain rfl:args=#[v0,v1,v2]:=by cases args;simp_all
  obtain⟨A0,n0,c0,l0,rfl,b0,k0,m0⟩:=a0.actsC_ (bulk_at hk (by simp));obtain⟨x1,rfl,rfl,b1⟩:=a1.string_ Tryz.underlying9;obtain⟨x2,rfl,rfl,b2⟩:=a2.string_ Tryz.underlying9
  exact walk A0 n0 c0 l0 x1 x2 W b0 k0 m0 (str_bulk (bulk_at hk (by simp))) (str_bulk (bulk_at hk (by simp))) (bulk_ok hk)
theorem proved:Rows.ModelLinksUptoSaid:=
 OpenClaim.holds_of_cond 7 Tryz.f7 rfl rfl rfl rfl rfl rfl rfl ⟨rfl,rfl,rfl,rfl,rfl⟩ rfl rfl rfl rfl rfl (by kernel_rfl) Tryz.func7 (by kernel_rfl)
  (of_decide_eq_true (by kernel_rfl)) (by unfold Func.isWrapper;first|(rw[if_pos (by decide +kernel)];kernel_rfl)|(rw[if_neg (by decide +kernel)];exact⟨rfl,rfl⟩))
  (fun os started H enc _ F=>lifted os started H enc F)
end Go.Proofs.YtjjamoemheljdaaGreat.modelLinks
