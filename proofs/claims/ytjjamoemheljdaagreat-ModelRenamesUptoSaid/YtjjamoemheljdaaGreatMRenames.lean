/-
  ModelRenames: what is renamed is what it was, under its new name, and not under the old one, unless both were names of one node; where what comes in is of bulk at most 1048576.
-/
import Derived.Test.YtjjamoemheljdaaGreatB54
namespace Go.Proofs.YtjjamoemheljdaaGreat
set_option linter.unusedSimpArgs false
set_option linter.unusedVariables false
section
theorem entF_is {ns:List (ByteArray×Nat)} (ho:OrdS ns) {e:ByteArray×Nat} (h:e∈ns):entF ns e.1=e.2:=by
 have:=ns_uniq ho (entF_mem ⟨e,h,rfl⟩) h rfl
 exact congrArg (·.2) this
end
section
theorem lookF_app {L:List ND}:∀(l r:List ByteArray) (q0 j0 q j:Nat),lookF L l q0 j0=(q,j,0)→j≠0→lookF L (l++r) q0 j0=lookF L r q j
 | [],r,q0,j0,q,j,h,_=>by
  unfold lookF at h
  injection h with h1 h2
  injection h2 with h2 _
  subst h1 h2
  rfl
 | x::l,r,q0,j0,q,j,h,hj=>by
  rw[List.cons_append];rw[lookF] at h ⊢
  by_cases h0:j0=0
  ·rw[if_pos h0] at h;simp at h
  ·rw[if_neg h0] at h ⊢
   cases hn:ndI L j0 with
   | none=>
    rw[hn] at h
    simp only[Prod.mk.injEq] at h
    exact absurd h.2.1.symm hj
   | some n=>
    rw[hn] at h
    simp only at h ⊢
    by_cases hk:n.k≠1
    ·rw[if_pos hk] at h;simp at h
    ·rw[if_neg hk] at h ⊢
     exact lookF_app l r j0 _ q j h hj
theorem way_look {T:TT} (h:Rt T) {l:List ByteArray} {j:Nat} (hw:Way T.l l j):∃q,lookF T.l l 0 1=(q,j,0):=by
 induction hw with
 | root=>exact⟨0,rfl⟩
 | more hw hn he ih=>
  obtain⟨q,hq⟩:=ih
  rename_i l0 n e
  have hi:=(h.rng n hn).1;refine⟨n.i,?_⟩;rw[lookF_app _ _ _ _ _ _ hq (by omega)];unfold lookF;rw[if_neg (by omega),ndI_mem h.ord hn]
  simp only
  rw[if_neg (by rw[fine_ns (h.fin n hn) he];simp)];unfold lookF;rw[entF_is (h.fin n hn).1 he]
theorem look_of {T:TT} (h:Rt T) {g:List ByteArray} {q j:Nat} (hp:LkP T.l g q j):lookF T.l g 0 1=(q,j,0):=by
 rcases hp.here with ⟨rfl,rfl,rfl⟩|⟨l,x,n,rfl,hw,hn,hk,rfl⟩
 ·rfl
 ·obtain⟨q',hq⟩:=way_look h hw;obtain⟨h1,h2⟩:=ndI_some hn;have hi:=(h.rng n h1).1;rw[lookF_app _ _ _ _ _ _ hq (by omega)];unfold lookF;rw[if_neg (by omega),hn]
  simp only
  rw[if_neg (by rw[hk];simp)];unfold lookF
  rfl
theorem do_one {T:TT} {c:AC} (h:1≤c.k∧c.k≤11) (h2:¬twoK c.k) {q j:Nat} (hp:peB c.p=0) (hl:lookF T.l (pnB c.p) 0 1=(q,j,0)):doF T c=actF T c (pnB c.p) [] q j 0 0:=by
 unfold doF;rw[if_neg (by omega),if_neg (by rw[hp];simp),if_neg (fun x=>h2 x.1),hl]
 simp only
 rw[if_neg (by simp),if_neg h2]
theorem do_two {T:TT} {c:AC} (h2:twoK c.k) {q j r v:Nat} (hp:peB c.p=0) (ht:peB c.t=0) (hl:lookF T.l (pnB c.p) 0 1=(q,j,0)) (hm:lookF T.l (pnB c.t) 0 1=(r,v,0)):doF T c=actF T c (pnB c.p) (pnB c.t) q j r v:=by
 unfold doF
 have:¬(c.k=0∨11 < c.k):=by rcases h2 with h|h<;>omega
 rw[if_neg this,if_neg (by rw[hp];simp),if_neg (fun x=>x.2 ht),hl,hm]
 simp only
 rw[if_neg (by simp),if_pos h2,if_neg (by simp)]
theorem do_one_ok {T:TT} {c:AC} (he:(doF T c).2.e=0):1≤c.k∧c.k≤11∧peB c.p=0∧∃q j,lookF T.l (pnB c.p) 0 1=(q,j,0):=by
 unfold doF at he
 split at he
 ·simp[erA] at he
 rename_i h1
 split at he
 ·rename_i h2;exact absurd he h2
 rename_i h2
 split at he
 ·rename_i h3;exact absurd he h3.2
 split at he
 ·rename_i h4;exact absurd he h4
 rename_i h4
 refine⟨by omega,by omega,by omega,(lookF T.l (pnB c.p) 0 1).1,(lookF T.l (pnB c.p) 0 1).2.1,?_⟩
 have h5:(lookF T.l (pnB c.p) 0 1).2.2=0:=by omega
 exact Prod.ext rfl (Prod.ext rfl h5)
theorem do_two_ok {T:TT} {c:AC} (h2:twoK c.k) (he:(doF T c).2.e=0):peB c.t=0∧∃r v,lookF T.l (pnB c.t) 0 1=(r,v,0):=by
 unfold doF at he
 split at he
 ·simp[erA] at he
 split at he
 ·rename_i h2;exact absurd he h2
 split at he
 ·rename_i h3;exact absurd he h3.2
 rename_i h3
 split at he
 ·rename_i h4;exact absurd he h4
 split at he
 ·rename_i h4;exact absurd he h4
 rename_i h4
 refine⟨Decidable.byContradiction fun x=>h3 ⟨h2,x⟩,(lookF T.l (pnB c.t) 0 1).1,(lookF T.l (pnB c.t) 0 1).2.1,?_⟩
 have h5:(lookF T.l (pnB c.t) 0 1).2.2=0:=by omega
 exact Prod.ext rfl (Prod.ext rfl h5)
theorem do_stat {T:TT} {p t:ByteArray} {a m:Int} {b:List Nat} {q j:Nat} {n:ND} (hp:peB p=0) (hl:lookF T.l (pnB p) 0 1=(q,j,0)) (h0:j≠0) (hn:ndI T.l j=some n):
  doF T ⟨10,p,t,a,m,b⟩=(T,⟨0,j,0,n.k,n.l,n.b.length,[],[]⟩):=by
 rw[do_one (c:=⟨10,p,t,a,m,b⟩) (by simp) (by unfold twoK;simp) hp hl];unfold actF;rw[if_neg (by simp),if_neg h0,hn]
 rfl
end
section
theorem way_keep {L M:List ND} {l:List ByteArray} {j:Nat} (hw:Way L l j):
  (∀l' n e,Way L l' n.i→n∈L→e∈n.ns→(l'++[e.1]) <+: l→(e.2=j∨∃n2∈L,n2.i=e.2∧n2.ns≠[])→∃m∈M,m.i=n.i∧e∈m.ns)→Way M l j:=by
 induction hw with
 | root=>intro _;exact .root
 | more hw hn he ih=>
  rename_i l0 n0 e0
  intro hk
  obtain⟨m,h1,h2,h3⟩:=hk _ _ _ hw hn he (List.prefix_refl _) (.inl rfl)
  have:=ih fun l' n e a b c p q=>hk l' n e a b c (p.trans (List.prefix_append _ _)) (.inr (by
   rcases q with q|q
   ·exact⟨n0,hn,q.symm,fun z=>by rw[z] at he;cases he⟩
   ·exact q))
  rw[←h2] at this
  exact Way.more this h1 h3
theorem move_node {T:TT} {q r j v:Nat} {x y:ByteArray} {z:ND} (hz:z∈T.l) (hv:z.i≠v):
  ∃z'∈moveE (lessV T r y v) q x r y j,z'.i=z.i∧z'.k=z.k∧z'.l=z.l∧z'.b=z.b∧(∀e∈z.ns,¬(z.i=q∧e.1=x)→¬(z.i=r∧e.1=y)→e∈z'.ns)∧(z.i=r→(y,j)∈z'.ns):=by
 have h1:∃z1∈lessV T r y v,z1.i=z.i∧z1.k=z.k∧z1.l=z.l∧z1.b=z.b∧∀e∈z.ns,¬(z.i=r∧e.1=y)→e∈z1.ns:=by
  unfold lessV
  split
  ·exact⟨z,hz,rfl,rfl,rfl,rfl,fun e he _=>he⟩
  ·split
   ·exact⟨z,hz,rfl,rfl,rfl,rfl,fun e he _=>he⟩
   ·unfold loseE
    have h0:∃z0∈delE T.l r y,z0.i=z.i∧z0.k=z.k∧z0.l=z.l∧z0.b=z.b∧∀e∈z.ns,¬(z.i=r∧e.1=y)→e∈z0.ns:=by
     unfold delE
     rcases mem_updE (j:=r) (f:=fun n=>{ n with ns:=delNm y n.ns }) hz with ⟨_,hh⟩|⟨hi,hh⟩
     ·exact⟨_,hh,rfl,rfl,rfl,rfl,fun e he _=>he⟩
     ·exact⟨_,hh,rfl,rfl,rfl,rfl,fun e he hn=>mem_del.2 ⟨he,fun q=>hn ⟨hi,q⟩⟩⟩
    obtain⟨z0,hz0,a1,a2,a3,a4,a5⟩:=h0
    split
    ·exact⟨z0,mem_rem.2 ⟨hz0,by omega⟩,a1,a2,a3,a4,a5⟩
    ·unfold lnkE
     rename_i hx _ _
     rcases mem_updE (j:=v) (f:=fun n=>{ n with l:=hx.l - 1 }) hz0 with ⟨_,hh⟩|⟨hi,hh⟩
     ·exact⟨_,hh,a1,a2,a3,a4,a5⟩
     ·omega
 obtain⟨z1,hz1,a1,a2,a3,a4,a5⟩:=h1
 have h2:∃z2∈delE (lessV T r y v) q x,z2.i=z.i∧z2.k=z.k∧z2.l=z.l∧z2.b=z.b∧∀e∈z.ns,¬(z.i=q∧e.1=x)→¬(z.i=r∧e.1=y)→e∈z2.ns:=by
  unfold delE
  rcases mem_updE (j:=q) (f:=fun n=>{ n with ns:=delNm x n.ns }) hz1 with ⟨_,hh⟩|⟨hi,hh⟩
  ·exact⟨_,hh,a1,a2,a3,a4,fun e he _ h=>a5 e he h⟩
  ·exact⟨_,hh,a1,a2,a3,a4,fun e he hn h=>mem_del.2 ⟨a5 e he h,fun q=>hn ⟨by omega,q⟩⟩⟩
 obtain⟨z2,hz2,b1,b2,b3,b4,b5⟩:=h2;unfold moveE addE
 rcases mem_updE (j:=r) (f:=fun n=>{ n with ns:=addNm y j n.ns }) hz2 with ⟨hi,hh⟩|⟨hi,hh⟩
 ·exact⟨_,hh,b1,b2,b3,b4,b5,fun e=>absurd (b1.trans e) hi⟩
 ·exact⟨_,hh,b1,b2,b3,b4,fun e he h1 h2=>mem_add.2 (.inr (b5 e he h1 h2)),fun _=>mem_add.2 (.inl rfl)⟩
theorem move_gone {L:List ND} {q r j:Nat} {x y:ByteArray} {z:ND} (hz:z∈moveE L q x r y j) (hi:z.i=q) (hne:¬(q=r∧x=y)):¬hasNm x z.ns:=by
 have hd:∀z1∈delE L q x,z1.i=q→¬hasNm x z1.ns:=by
  intro z1 hz1 hi1 ⟨e,he,hx⟩
  unfold delE at hz1
  rcases mem_upd.1 hz1 with ⟨z0,_,_,rfl⟩|⟨_,hh⟩
  ·exact (mem_del.1 he).2 hx
  ·exact hh hi1
 unfold moveE addE at hz
 rcases mem_upd.1 hz with ⟨z1,hz1,hi1,rfl⟩|⟨hz1,_⟩
 ·rintro ⟨e,he,hx⟩
  rcases mem_add.1 he with rfl|he
  ·exact hne ⟨by simp only at hi;omega,hx.symm⟩
  ·exact hd z1 hz1 hi ⟨e,he,hx⟩
 ·exact hd z hz1 hi
theorem stat_none {T:TT} {p t:ByteArray} {a m:Int} {b:List Nat} {q:Nat} (hp:peB p=0) (hl:lookF T.l (pnB p) 0 1=(q,0,0)):doF T ⟨10,p,t,a,m,b⟩=(T,erA 12):=by
 rw[do_one (c:=⟨10,p,t,a,m,b⟩) (by simp) (by unfold twoK;simp) hp hl];unfold actF;rw[if_neg (by simp),if_pos rfl]
theorem rename_math {T:TT} (h:Rt T) {a b:ByteArray} (he:(doF T ⟨6,a,b,0,0,[]⟩).2.e=0):
  ∃j n,doF T ⟨10,a,ByteArray.empty,0,0,[]⟩=(T,⟨0,j,0,n.k,n.l,n.b.length,[],[]⟩)∧ndI T.l j=some n ∧
   doF (doF T ⟨6,a,b,0,0,[]⟩).1 ⟨10,b,ByteArray.empty,0,0,[]⟩=((doF T ⟨6,a,b,0,0,[]⟩).1,⟨0,j,0,n.k,n.l,n.b.length,[],[]⟩) ∧
   ((doF T ⟨10,b,ByteArray.empty,0,0,[]⟩).2.e=0∧(doF T ⟨10,b,ByteArray.empty,0,0,[]⟩).2.i=j∧(doF T ⟨6,a,b,0,0,[]⟩).1=T ∨
    ¬((doF T ⟨10,b,ByteArray.empty,0,0,[]⟩).2.e=0∧(doF T ⟨10,b,ByteArray.empty,0,0,[]⟩).2.i=j) ∧
     (doF (doF T ⟨6,a,b,0,0,[]⟩).1 ⟨10,a,ByteArray.empty,0,0,[]⟩).2.e=12 ∧
     ∃n',ndI (doF T ⟨6,a,b,0,0,[]⟩).1.l j=some n'∧n'.b=n.b):=by
 have hU:=rt_do h ⟨6,a,b,0,0,[]⟩ (by simp);obtain⟨_,_,hpa,q,j,hl⟩:=do_one_ok he;obtain⟨hpb,r,v,hm⟩:=do_two_ok (.inr rfl) he
 simp only at hpa hl hpb hm
 have hD:=do_two (T:=T) (c:=⟨6,a,b,0,0,[]⟩) (.inr rfl) hpa hpb hl hm;rw[hD] at he hU ⊢;unfold actF at he hU ⊢;rw[if_neg (by simp)] at he hU ⊢
 by_cases h0:j=0
 ·rw[if_pos h0] at he;simp[erA] at he
 rw[if_neg h0] at he hU ⊢
 cases hn:ndI T.l j with
 | none=>rw[hn] at he;simp[erA] at he
 | some n=>
  rw[hn] at he hU
  simp only at he hU ⊢
  rw[if_neg (by decide),if_neg (by decide),if_neg (by decide),if_pos trivial] at he hU ⊢;unfold mvF at he hU ⊢
  by_cases hg:pnB a=[]∨pnB b=[]∨begL (pnB b) (pnB a)
  ·rw[if_pos hg] at he;simp[erA] at he
  rw[if_neg hg] at he hU ⊢;have hSa:=do_stat (T:=T) (t:=ByteArray.empty) (a:=0) (m:=0) (b:=[]) hpa hl h0 hn;refine⟨j,n,hSa,hn,?_⟩
  by_cases hjv:j=v
  ·subst hjv;rw[if_pos rfl]
   simp only
   have hSb:=do_stat (T:=T) (t:=ByteArray.empty) (a:=0) (m:=0) (b:=[]) hpb hm h0 hn;rw[hSb]
   exact⟨rfl,.inl ⟨rfl,rfl,trivial⟩⟩
  rw[if_neg hjv] at he hU ⊢
  by_cases hw0:wayE T v n≠0
  ·rw[if_pos hw0] at he;exact absurd he hw0
  rw[if_neg hw0] at he hU ⊢
  by_cases h6:6 < (pnB b).length+hgt T.l 8 j
  ·rw[if_pos h6] at he;simp[erA] at he
  rw[if_neg h6] at he hU ⊢
  simp only at hU ⊢
  have hgne:pnB a≠[]:=fun e=>hg (.inl e)
  have hmne:pnB b≠[]:=fun e=>hg (.inr (.inl e))
  have hbeg:¬begL (pnB b) (pnB a):=fun e=>hg (.inr (.inr e))
  have hpg:=look_ok h hl;have hpm:=look_ok h hm;obtain⟨d,hd⟩:=h.dep;obtain⟨la,nq,hga,hwa,hnq,hqi,hqk,hqe,_⟩:=hpg.dir h hd (.inl hgne);obtain⟨lb,nr,hmb,hwb,hnr,hri,hrk,hre,_⟩:=hpm.dir h hd (.inl hmne);obtain⟨hn1,hn2⟩:=ndI_some hn
  have hxe:(lst (pnB a),j)∈nq.ns:=by rw[hqe];exact ent_pos (by omega)
  have hvns:∀z∈T.l,z.i=v→z.ns=[]:=fun z hz hzi=>by
   have hv0:¬v=0:=by have:=(h.rng z hz).1;omega
   unfold wayE at hw0;rw[if_neg hv0,←hzi,ndI_mem h.ord hz] at hw0
   simp only at hw0
   split at hw0
   ·exact absurd (by decide) hw0
   ·split at hw0
    ·exact absurd (by decide) hw0
    ·rename_i hh;simpa using hh
  have hne:∀z∈T.l,∀e∈z.ns,z.i≠v:=fun z hz e he hzi=>by rw[hvns z hz hzi] at he;cases he
  have hwq:Way T.l la nq.i:=by rw[hqi];exact hwa
  have hwr:Way T.l lb nr.i:=by rw[hri];exact hwb
  have hUa:Way (moveE (lessV T r (lst (pnB b)) v) q (lst (pnB a)) r (lst (pnB b)) j) la q:=by
   refine way_keep hwa fun l' z e hwz hz hez hpre hnx=>?_
   obtain⟨z',hz',b1,_,_,_,b5,_⟩:=move_node (T:=T) (q:=q) (r:=r) (j:=j) (v:=v) (x:=lst (pnB a)) (y:=lst (pnB b)) hz (hne z hz e hez);refine⟨z',hz',b1,b5 e hez ?_ ?_⟩
   ·rintro ⟨hzq,_⟩
    have:z=nq:=nd_uniq h.ord hz hnq (by omega)
    subst this;have h7:=hwz.uniq h hwq (ndI_mem h.ord hz) hqk;have h8:=hpre.length_le;rw[h7] at h8
    simp at h8
    omega
   ·rintro ⟨hzr,hey⟩
    have:z=nr:=nd_uniq h.ord hz hnr (by omega)
    subst this;have h7:=entF_is (h.fin z hz).1 hez;rw[hey,←hre] at h7
    rcases hnx with h8|⟨n2,hn2,h8,h9⟩
    ·exact hne nq hnq _ hxe (by omega)
    ·exact h9 (hvns n2 hn2 (by omega))
  have hUb:Way (moveE (lessV T r (lst (pnB b)) v) q (lst (pnB a)) r (lst (pnB b)) j) lb r:=by
   refine way_keep hwb fun l' z e hwz hz hez hpre hnx=>?_
   obtain⟨z',hz',b1,_,_,_,b5,_⟩:=move_node (T:=T) (q:=q) (r:=r) (j:=j) (v:=v) (x:=lst (pnB a)) (y:=lst (pnB b)) hz (hne z hz e hez);refine⟨z',hz',b1,b5 e hez ?_ ?_⟩
   ·rintro ⟨hzq,hex⟩
    have:z=nq:=nd_uniq h.ord hz hnq (by omega)
    subst this;have h7:=hwz.uniq h hwq (ndI_mem h.ord hz) hqk;subst h7;rw[hex,←hga] at hpre;refine hbeg ⟨?_,?_⟩
    ·have:=hpre.length_le
     rw[hmb];simp;omega
    ·obtain⟨t,ht⟩:=hpre;rw[hmb,←ht,List.append_assoc,List.take_left]
   ·rintro ⟨hzr,_⟩
    have:z=nr:=nd_uniq h.ord hz hnr (by omega)
    subst this;have h7:=hwz.uniq h hwr (ndI_mem h.ord hz) hrk;have h8:=hpre.length_le;rw[h7] at h8
    simp at h8
    omega
  have hrv:nr.i≠v:=fun e=>by
   have:=hvns nr hnr e
   rw[this] at hre;unfold entF at hre
   have:=(h.rng nr hnr).1
   omega
  obtain⟨nr',hnr',r1,r2,_,_,_,r6⟩:=move_node (T:=T) (q:=q) (r:=r) (j:=j) (v:=v) (x:=lst (pnB a)) (y:=lst (pnB b)) hnr hrv;obtain⟨nq',hnq',q1,q2,_⟩:=move_node (T:=T) (q:=q) (r:=r) (j:=j) (v:=v) (x:=lst (pnB a)) (y:=lst (pnB b)) hnq (hne nq hnq _ hxe);obtain⟨n',hn',n1,n2,n3,n4,_⟩:=move_node (T:=T) (q:=q) (r:=r) (j:=j) (v:=v) (x:=lst (pnB a)) (y:=lst (pnB b)) hn1 (by omega);have hUo:=hU.ord
  have hpU:LkP (moveE (lessV T r (lst (pnB b)) v) q (lst (pnB a)) r (lst (pnB b)) j) (pnB b) r j:=by
   refine⟨.inr ⟨lb,lst (pnB b),nr',hmb,hUb,?_,by omega,(entF_is (hU.fin nr' hnr').1 (r6 hri)).symm⟩⟩
   have:=ndI_mem hUo hnr'
   rwa [r1,hri] at this
  have hqr:¬(q=r∧lst (pnB a)=lst (pnB b)):=by
   rintro ⟨e1,e2⟩
   have:nq=nr:=nd_uniq h.ord hnq hnr (by omega)
   subst this;rw[e2,←hre] at hqe
   omega
  have hpO:LkP (moveE (lessV T r (lst (pnB b)) v) q (lst (pnB a)) r (lst (pnB b)) j) (pnB a) q 0:=by
   refine⟨.inr ⟨la,lst (pnB a),nq',hga,hUa,?_,by omega,(entF_none (move_gone hnq' (by omega) hqr)).symm⟩⟩
   have:=ndI_mem hUo hnq'
   rwa [q1,hqi] at this
  have hnU:ndI (moveE (lessV T r (lst (pnB b)) v) q (lst (pnB a)) r (lst (pnB b)) j) j=some n':=by
   have:=ndI_mem hUo hn'
   rwa [n1,hn2] at this
  have hSb:=do_stat (T:=⟨T.p,moveE (lessV T r (lst (pnB b)) v) q (lst (pnB a)) r (lst (pnB b)) j⟩) (t:=ByteArray.empty) (a:=0) (m:=0) (b:=[]) hpb (look_of hU hpU) h0 hnU;have hSo:=stat_none (T:=⟨T.p,moveE (lessV T r (lst (pnB b)) v) q (lst (pnB a)) r (lst (pnB b)) j⟩) (t:=ByteArray.empty) (a:=0) (m:=0) (b:=[]) hpa (look_of hU hpO);rw[hSb,hSo,n2,n3,n4];refine⟨rfl,.inr ⟨?_,rfl,n',hnU,n4⟩⟩;rintro ⟨e1,e2⟩
  by_cases hv0:v=0
  ·subst hv0;rw[stat_none hpb hm] at e1
   simp[erA] at e1
  ·have hwv:=hpm.way hv0;obtain⟨nv,hnv⟩:=hwv.node h;rw[do_stat hpb hm hv0 hnv] at e2
   exact hjv e2.symm
end
end Go.Proofs.YtjjamoemheljdaaGreat

namespace Go.Proofs.YtjjamoemheljdaaGreat.modelRenames
set_option linter.unusedSimpArgs false
set_option linter.unusedVariables false
open Go.ChangeShapes Go.WideShapes Go.ChangeAt Go.RowKit
theorem own:ownKnob Tryz.prog.godebug=none:=by kernel_rfl
theorem laidOut:laidOutB Tryz.prog=true:=by kernel_rfl
set_option maxRecDepth 100000 in
set_option maxHeartbeats 6400000 in
theorem walk (A:Option Addr) (n c:Nat) (al:List AC) (a b:ByteArray) (w:World) (hl:ActsC w A n al) (_:n≤c) (_:c≤maxLen) (ha:a.size≤1048576) (hb:b.size≤1048576) (_:True):
  Calls Tryz.prog 6 #[.slice A n c,.string a,.string b] w (True1 w):=by
 have HSA:=Lib.hid ha;have HSB:=Lib.hid hb;clear ha hb
 have HRT:Hid (Rt (playT (al.take 30))):=playT_rt fun x hx=>hl.byt x (List.mem_of_mem_take hx)
 obtain⟨T9,hT9⟩:∃T9,T9=playT (al.take 30):=⟨_,rfl⟩
 have HE:Hid ((⟨32,T9.l⟩:TT)=T9):=by rw[hT9];exact playT_eta _
 have H32:Hid (T9.p=32):=by rw[hT9];exact playT_p _
 have CP:=Lib.hid (mplayed_yes A n c al w hl);rw[←hT9] at CP HRT;clear hT9;clear hl
 go_enter Tryz.func6,Tryz.ntmps6
 go_wp2_with fail
 refine CP.out.mono ?_;rintro e w2 ⟨A3,c3,es3,rfl,hL3,hO3,hN3⟩;clear CP;have N1:Hid (New w w):=Lib.hid (Kept.refl _ _)
 obtain⟨w3,g3,hZ,hg,k3,hB3,hT3⟩:∃w3 g3,w2.alloc (.cells #[.int .i64 32,.slice A3 es3.length c3] 25)=w3∧w2.heap.size=g3∧New w2 w3∧TBx w w3 g3 T9.l A3 es3.length c3∧LT w w3 g3 32 T9.l:=by
  have hk:=(Kept.refl (fun _=>False) w2).alloc (.cells #[.int .i64 32,.slice A3 es3.length c3] 25);have hO4:=(hO3.mono N1.out.size).new hk
  exact⟨_,_,rfl,rfl,hk,⟨Blk.made w2 _ _,es3,hO4,rfl,hL3⟩,A3,c3,es3,Blk.made w2 _ _,hO4,hL3,(N1.out.new hN3).new hk,(N1.out.new hN3).size⟩
 have HB3:=Lib.hid hB3;have HT3:=Lib.hid hT3;have HN:=Lib.hid ((N1.out.new hN3).new k3);clear hB3 hT3 hL3 hO3;clear hN3 k3 N1
 have HRL:Hid (Rt ⟨32,T9.l⟩):=by rw[HE.out];exact HRT
 have hb:=HB3.out;clear HB3;have b0:=hb.c0;have b1:=hb.c1;have hlt:=hb.lt;have CD:=Lib.hid (hb.do_ HRL.out (Kept.refl _ _) 10 a (⟨#[]⟩:ByteArray) 0 0 none 0 0 [] HSA.out (by decide) (Bts.nil _ _) (by decide));clear hb;obtain⟨Rs,hRs⟩:∃r,r=doF ⟨32,T9.l⟩ ⟨10,a,(⟨#[]⟩:ByteArray),0,0,[]⟩:=⟨_,rfl⟩;rw[←hRs] at CD;have HRs:=Lib.hid hRs;clear hRs
 go_upto_region 3 with (go_at_call 16;refine CD.out.mono ?_;rintro e we ⟨A3,c3,es3,B3,d3,T3,t3,rfl,hL3,hO3,hB3,hX3,hK3,hA3⟩)
 clear hZ hg;have hQ:=Lib.hid (two_box (t3:=t3) HN.out hL3 hO3 hB3 hX3 hK3 hA3);clear hL3 hO3 hB3 hX3 hK3 hA3 CD b0 b1 hlt;obtain⟨w4,gq,gas,hZ,hg,hg2,hk,hT,hA⟩:=hQ.out;rw[hZ,hg,hg2];clear hZ hg hg2 hQ;have HTq:=Lib.hid hT;have HAs:=Lib.hid hA;have HX:=Lib.hid (HN.out.new hk);clear hT hA HN;have HN:=HX;clear HX;have HX:=Lib.hid (HT3.out.new hk);clear HT3;have HT3:=HX;clear HX;clear hk;obtain⟨A1,n1,c1,hb⟩:=HT3.out.bx;have b0:=hb.c0;have b1:=hb.c1;have hlt:=hb.lt;have CD:=Lib.hid (hb.do_ HRL.out (Kept.refl _ _) 10 b (⟨#[]⟩:ByteArray) 0 0 none 0 0 [] HSB.out (by decide) (Bts.nil _ _) (by decide));clear hb
 obtain⟨Rx,hRx⟩:∃r,r=doF ⟨32,T9.l⟩ ⟨10,b,(⟨#[]⟩:ByteArray),0,0,[]⟩:=⟨_,rfl⟩;rw[←hRx] at CD;have HRx:=Lib.hid hRx;clear hRx
 go_upto_region 4 with (go_at_call 16;refine CD.out.mono ?_;rintro e we ⟨A3,c3,es3,B3,d3,T3,t3,rfl,hL3,hO3,hB3,hX3,hK3,hA3⟩)
 have hQ:=Lib.hid (two_box (t3:=t3) HN.out hL3 hO3 hB3 hX3 hK3 hA3);clear hL3 hO3 hB3 hX3 hK3 hA3 CD b0 b1 hlt;obtain⟨w5,gq2,gax,hZ,hg,hg2,hk,hT,hA⟩:=hQ.out;rw[hZ,hg,hg2];clear hZ hg hg2 hQ;have HTq2:=Lib.hid hT;have HAx:=Lib.hid hA;have HX:=Lib.hid (HN.out.new hk);clear hT hA HN;have HN:=HX;clear HX;have HX:=Lib.hid (HT3.out.new hk);clear HT3;have HT3:=HX;clear HX;have HX:=Lib.hid (HTq.out.new hk);clear HTq;have HTq:=HX;clear HX;have HX:=Lib.hid (HAs.out.new hk);clear HAs;have HAs:=HX;clear HX;clear hk;obtain⟨A1,n1,c1,hb⟩:=HT3.out.bx;have b0:=hb.c0;have b1:=hb.c1;have hlt:=hb.lt;have CD:=Lib.hid (hb.do_ HRL.out (Kept.refl _ _) 6 a b 0 0 none 0 0 [] HSA.out HSB.out (Bts.nil _ _) (by decide))
 clear hb;obtain⟨Re,hRe⟩:∃r,r=doF ⟨32,T9.l⟩ ⟨6,a,b,0,0,[]⟩:=⟨_,rfl⟩;rw[←hRe] at CD;have HRe:=Lib.hid hRe;clear hRe
 go_upto_region 5 with (go_at_call 16;refine CD.out.mono ?_;rintro e we ⟨A3,c3,es3,B3,d3,T3,t3,rfl,hL3,hO3,hB3,hX3,hK3,hA3⟩)
 have hQ:=Lib.hid (two_box (t3:=t3) HN.out hL3 hO3 hB3 hX3 hK3 hA3);clear hL3 hO3 hB3 hX3 hK3 hA3 CD b0 b1 hlt;obtain⟨w6,gu,gae,hZ,hg,hg2,hk,hT,hA⟩:=hQ.out;rw[hZ,hg,hg2];clear hZ hg hg2 hQ;have HTu:=Lib.hid hT;have HAe:=Lib.hid hA;have HX:=Lib.hid (HN.out.new hk);clear hT hA HN;have HN:=HX;clear HX;have HX:=Lib.hid (HT3.out.new hk);clear HT3;have HT3:=HX;clear HX;have HX:=Lib.hid (HTq.out.new hk);clear HTq;have HTq:=HX;clear HX;have HX:=Lib.hid (HTq2.out.new hk);clear HTq2;have HTq2:=HX;clear HX;have HX:=Lib.hid (HAs.out.new hk);clear HAs;have HAs:=HX;clear HX;have HX:=Lib.hid (HAx.out.new hk)
 clear HAx;have HAx:=HX;clear HX;clear hk
 have HDRe:Hid (Re=doF T9 ⟨6,a,b,0,0,[]⟩):=Lib.hid (by rw[HRe.out,HE.out]<;>rfl)
 have HERe:Hid ((⟨32,Re.1.l⟩:TT)=Re.1):=Lib.hid (by
  have h1:=do_eta T9 ⟨6,a,b,0,0,[]⟩;rw[H32.out] at h1
  rw[HDRe.out,h1])
 have HRTRe:Hid (Rt Re.1):=Lib.hid (by rw[HDRe.out];exact rt_do HRT.out ⟨6,a,b,0,0,[]⟩ (by simp));have H32Re:Hid (Re.1.p=32):=Lib.hid (by rw[HDRe.out,do_p];exact H32.out);have HRLRe:Hid (Rt ⟨32,Re.1.l⟩):=Lib.hid (by rw[HERe.out];exact HRTRe.out)
 have HDs:Hid (Rs=doF T9 ⟨10,a,ByteArray.empty,0,0,[]⟩):=Lib.hid (by rw[HRs.out,HE.out]<;>rfl)
 have HDx:Hid (Rx=doF T9 ⟨10,b,ByteArray.empty,0,0,[]⟩):=Lib.hid (by rw[HRx.out,HE.out]<;>rfl)
 obtain⟨_,_,_,_,hA⟩:=HAe.out.bx;have e0:=hA.c0;have elt:=hA.lt;clear hA
 by_cases he:Re.2.e≠0
 ·have d0:decide (((Re.2.e:Nat):Int)=0)=false:=decide_eq_false (by omega);have HSM:Hid (Re.1.l=T9.l):=Lib.hid (by rw[HDRe.out] at he ⊢;rw[do_same (.inl he)]);obtain⟨A1,n1,c1,hS⟩:=HT3.out.bx;obtain⟨A2,n2,c2,hU⟩:=HTu.out.bx;have s0:=hS.c0;have s1:=hS.c1;have slt:=hS.lt;have u0:=hU.c0;have u1:=hU.c1;have ult:=hU.lt;rw[HSM.out] at hU;have CS:=Lib.hid (hS.same hU HRL.out (Kept.refl _ _) (Kept.refl _ _));clear hS hU
  go_wp2_with fail
  refine CS.out.mono ?_;rintro e wx ⟨rfl,hkx⟩;have HNx:=Lib.hid (HN.out.new hkx);clear hkx CS s0 s1 slt u0 u1 ult
  go_wp2_with fail
  refine (mlives_any _).mono ?_;rintro e wy ⟨rfl,hky⟩;have HNy:=Lib.hid (HNx.out.new hky);clear hky
  go_wp2_with fail
  try simp only[Exit.then]
  refine bodyPost_ret (by simp[results,Tryz.results6,go_sem];try rfl) rfl ?_
  exact⟨rfl,HNy.out⟩
 have he0:Re.2.e=0:=by omega
 rw[he0] at e0;obtain⟨j,nd,m1,m2,m3,m4⟩:=rename_math (T:=T9) HRT.out (a:=a) (b:=b) (by rw[←HDRe.out];exact he0);have M1:=Lib.hid m1;have M2:=Lib.hid m2;have M3:=Lib.hid m3;have M4:=Lib.hid m4;clear m1 m2 m3 m4;clear he;obtain⟨A1,n1,c1,hb⟩:=HTu.out.bx;have b0:=hb.c0;have b1:=hb.c1;have hlt:=hb.lt;have CD:=Lib.hid (hb.do_ HRLRe.out (Kept.refl _ _) 10 b (⟨#[]⟩:ByteArray) 0 0 none 0 0 [] HSB.out (by decide) (Bts.nil _ _) (by decide));clear hb;obtain⟨Rnow,hRnow⟩:∃r,r=doF ⟨32,Re.1.l⟩ ⟨10,b,(⟨#[]⟩:ByteArray),0,0,[]⟩:=⟨_,rfl⟩;rw[←hRnow] at CD;have HRnow:=Lib.hid hRnow;clear hRnow
 go_upto_region 8 with (go_at_call 16;refine CD.out.mono ?_;rintro e we ⟨A3,c3,es3,B3,d3,T3,t3,rfl,hL3,hO3,hB3,hX3,hK3,hA3⟩)
 have hQ:=Lib.hid (two_box (t3:=t3) HN.out hL3 hO3 hB3 hX3 hK3 hA3);clear hL3 hO3 hB3 hX3 hK3 hA3 CD b0 b1 hlt;obtain⟨w7,gq3,ganow,hZ,hg,hg2,hk,hT,hA⟩:=hQ.out;rw[hZ,hg,hg2];clear hZ hg hg2 hQ;have HTq3:=Lib.hid hT;have HAnow:=Lib.hid hA;have HX:=Lib.hid (HN.out.new hk);clear hT hA HN;have HN:=HX;clear HX;have HX:=Lib.hid (HT3.out.new hk);clear HT3;have HT3:=HX;clear HX;have HX:=Lib.hid (HTq.out.new hk);clear HTq;have HTq:=HX;clear HX;have HX:=Lib.hid (HTq2.out.new hk);clear HTq2;have HTq2:=HX;clear HX;have HX:=Lib.hid (HTu.out.new hk);clear HTu;have HTu:=HX;clear HX;have HX:=Lib.hid (HAs.out.new hk)
 clear HAs;have HAs:=HX;clear HX;have HX:=Lib.hid (HAx.out.new hk);clear HAx;have HAx:=HX;clear HX;have HX:=Lib.hid (HAe.out.new hk);clear HAe;have HAe:=HX;clear HX;clear e0 elt;clear hk;obtain⟨A1,n1,c1,hb⟩:=HTu.out.bx;have b0:=hb.c0;have b1:=hb.c1;have hlt:=hb.lt;have CD:=Lib.hid (hb.do_ HRLRe.out (Kept.refl _ _) 10 a (⟨#[]⟩:ByteArray) 0 0 none 0 0 [] HSA.out (by decide) (Bts.nil _ _) (by decide));clear hb;obtain⟨Rold,hRold⟩:∃r,r=doF ⟨32,Re.1.l⟩ ⟨10,a,(⟨#[]⟩:ByteArray),0,0,[]⟩:=⟨_,rfl⟩;rw[←hRold] at CD;have HRold:=Lib.hid hRold;clear hRold
 go_upto_region 9 with (go_at_call 16;refine CD.out.mono ?_;rintro e we ⟨A3,c3,es3,B3,d3,T3,t3,rfl,hL3,hO3,hB3,hX3,hK3,hA3⟩)
 have hQ:=Lib.hid (two_box (t3:=t3) HN.out hL3 hO3 hB3 hX3 hK3 hA3);clear hL3 hO3 hB3 hX3 hK3 hA3 CD b0 b1 hlt;obtain⟨w8,gq4,gaold,hZ,hg,hg2,hk,hT,hA⟩:=hQ.out;rw[hZ,hg,hg2];clear hZ hg hg2 hQ;have HTq4:=Lib.hid hT;have HAold:=Lib.hid hA;have HX:=Lib.hid (HN.out.new hk);clear hT hA HN;have HN:=HX;clear HX;have HX:=Lib.hid (HT3.out.new hk);clear HT3;have HT3:=HX;clear HX;have HX:=Lib.hid (HTq.out.new hk);clear HTq;have HTq:=HX;clear HX;have HX:=Lib.hid (HTq2.out.new hk);clear HTq2;have HTq2:=HX;clear HX;have HX:=Lib.hid (HTu.out.new hk);clear HTu;have HTu:=HX;clear HX;have HX:=Lib.hid (HTq3.out.new hk)
 clear HTq3;have HTq3:=HX;clear HX;have HX:=Lib.hid (HAs.out.new hk);clear HAs;have HAs:=HX;clear HX;have HX:=Lib.hid (HAx.out.new hk);clear HAx;have HAx:=HX;clear HX;have HX:=Lib.hid (HAe.out.new hk);clear HAe;have HAe:=HX;clear HX;have HX:=Lib.hid (HAnow.out.new hk);clear HAnow;have HAnow:=HX;clear HX;clear hk
 have hs:Rs.2=⟨0,j,0,nd.k,nd.l,nd.b.length,[],[]⟩:=by rw[HDs.out,M1.out]
 have hn:Rnow.2=⟨0,j,0,nd.k,nd.l,nd.b.length,[],[]⟩:=by
  have:Rnow=doF Re.1 ⟨10,b,ByteArray.empty,0,0,[]⟩:=by rw[HRnow.out,HERe.out]<;>rfl
  rw[this,HDRe.out,M3.out]
 have ho:Rold=doF Re.1 ⟨10,a,ByteArray.empty,0,0,[]⟩:=by rw[HRold.out,HERe.out]<;>rfl
 obtain⟨_,_,_,_,hA⟩:=HAs.out.bx;have s0:=hA.c0;have s1:=hA.c1;have s3:=hA.c3;have s4:=hA.c4;have s5:=hA.c5;have slt:=hA.lt;clear hA;obtain⟨_,_,_,_,hA⟩:=HAnow.out.bx;have k0:=hA.c0;have k1:=hA.c1;have k3:=hA.c3;have k4:=hA.c4;have k5:=hA.c5;have nowlt:=hA.lt;clear hA;obtain⟨_,_,_,_,hA⟩:=HAx.out.bx;have x0:=hA.c0;have x1:=hA.c1;have xlt:=hA.lt;clear hA;obtain⟨_,_,_,_,hA⟩:=HAold.out.bx;have o0:=hA.c0;have oldlt:=hA.lt;clear hA;rw[hs] at s0 s1 s3 s4 s5;rw[hn] at k0 k1 k3 k4 k5
 simp only at s0 s1 s3 s4 s5 k0 k1 k3 k4 k5
 have HO:=Lib.hid ho;have hs0:=Lib.hid hs;clear hs hn ho HTq HTq2 HTq3 HTq4 HAx HAe HAnow
 rcases M4.out with ⟨p1,p2,p3⟩|⟨p1,p2,nd',p3,p4⟩
 ·rw[←HDx.out] at p1 p2;rw[p1] at x0;rw[p2] at x1;have HSM:Hid (Re.1.l=T9.l):=Lib.hid (by rw[HDRe.out,p3]);clear p1 p2 p3;obtain⟨A1,n1,c1,hS⟩:=HT3.out.bx;obtain⟨A2,n2,c2,hU⟩:=HTu.out.bx;have s0:=hS.c0;have s1:=hS.c1;have slt:=hS.lt;have u0:=hU.c0;have u1:=hU.c1;have ult:=hU.lt;rw[HSM.out] at hU;have CS:=Lib.hid (hS.same hU HRL.out (Kept.refl _ _) (Kept.refl _ _));clear hS hU
  go_wp2_with fail
  refine CS.out.mono ?_;rintro e wx ⟨rfl,hkx⟩;have HNx:=Lib.hid (HN.out.new hkx);clear hkx CS s0 s1 slt u0 u1 ult
  go_wp2_with fail
  refine (mlives_any _).mono ?_;rintro e wy ⟨rfl,hky⟩;have HNy:=Lib.hid (HNx.out.new hky);clear hky
  go_wp2_with fail
  try simp only[Exit.then]
  refine bodyPost_ret (by simp[results,Tryz.results6,go_sem];try rfl) rfl ?_
  exact⟨rfl,HNy.out⟩
 rw[←HDx.out] at p1;rw[←HDRe.out] at p2 p3;rw[←HO.out] at p2;have HP2:=Lib.hid p2;have HP3:=Lib.hid p3;have HP4:=Lib.hid p4;clear p2 p3 p4;obtain⟨A1,n1,c1,hS⟩:=HT3.out.bx;obtain⟨A2,n2,c2,hU⟩:=HTu.out.bx;have t0:=hS.c0;have t1:=hS.c1;have tlt:=hS.lt;have HS:=Lib.hid hS;have HU:=Lib.hid hU;clear hS hU;obtain⟨xe,hxe⟩:∃xe,Rx.2.e=xe:=⟨_,rfl⟩;obtain⟨xi,hxi⟩:∃xi,Rx.2.i=xi:=⟨_,rfl⟩;rw[hxe,hxi] at p1;rw[hxe] at x0;rw[hxi] at x1;clear hxe hxi;obtain⟨_,_,_,_,hA⟩:=HAs.out.bx;have HSs:=Lib.hid hA;clear hA;obtain⟨_,_,_,_,hA⟩:=HAold.out.bx;have HOo:=Lib.hid hA;clear hA HAs HAold HTu HT3
 by_cases hx0:xe=0
 ·rw[hx0] at x0;have dx:decide (((xi:Nat):Int)=((j:Nat):Int))=false:=decide_eq_false (by have:=fun h=>p1 ⟨hx0,h⟩;omega)
  have dy:¬xi=j:=fun h=>p1 ⟨hx0,h⟩
  clear p1
  go_upto_region 13 with fail
  have hn1:∀u,New w8 u→Calls Tryz.prog 25 #[.agg #[.int .i64 32,.slice A1 n1 c1],.int .i64 ((j:Nat):Int)] u (NewNum u ((posI T9.l j:Nat):Int)):=fun u hu=>by
   have:=HS.out.node HRL.out hu j
   rwa [noI_some M2.out] at this
  have hn2:∀u,New w8 u→Calls Tryz.prog 25 #[.agg #[.int .i64 32,.slice A2 n2 c2],.int .i64 ((j:Nat):Int)] u (NewNum u ((posI Re.1.l j:Nat):Int)):=fun u hu=>by
   have:=HU.out.node HRLRe.out hu j
   rwa [noI_some HP3.out] at this
  have u0:=HU.out.c0;have u1:=HU.out.c1;have ult:=HU.out.lt;have cA:=Lib.hid (fun (d:Nat) (os:Array Obj)=>Calls.regrown_of (d:=d) (os:=os) ((hn1 _ (New.of_below (below_regrown w8 d os))).mono fun e w' h=>⟨h.1,h.2.below⟩));have cB:=Lib.hid (fun (d:Nat) (os:Array Obj)=>Calls.regrown_of (d:=d) (os:=os) ((hn2 _ (New.of_below (below_regrown w8 d os))).mono fun e w' h=>⟨h.1,h.2.below⟩))
  have rt0:=fun d os=>cell_regrown t0 d os
  have rt1:=fun d os=>cell_regrown t1 d os
  have ru0:=fun d os=>cell_regrown u0 d os
  have ru1:=fun d os=>cell_regrown u1 d os
  have rs1:=fun d os=>cell_regrown s1 d os
  clear t0 t1 u0 u1 s1;clear hn1 hn2 s0 s3 s4 s5 k0 k1 k3 k4 k5 x0 x1 o0;obtain⟨bk,o,e1,rfl,hl1,he1,hg1⟩:=HS.out.get (pos_some M2.out);obtain⟨bk2,o2,e2,rfl,hl2,he2,hg2⟩:=HU.out.get (pos_some HP3.out);generalize hq1:posI T9.l j=p1 at *;generalize hq2:posI Re.1.l j=p2 at *;refine wp_region_quiet_below (by kernel_rfl) (by kernel_rfl) ?_
  repeat (quiet_step (fail))
  quiet_step (first|(go_at_call 25;exact cA.out _ _))
  repeat (quiet_step (fail))
  quiet_step (first|(go_at_call 25;exact cB.out _ _))
  repeat (quiet_step (fail))
  refine wpQuiet_nil ?_
  intro _ hw'
  obtain⟨⟨dq,osq⟩,hw''⟩:=hw';subst hw'';have HK:=Lib.hid (New.of_below (below_regrown w8 dq osq));generalize Go.Sort.grow (redrawn w8 dq) osq=w9 at *;have z0:=(HOo.out.new HK.out).c0;have zlt:=(HOo.out.new HK.out).lt;rw[HP2.out] at z0;have t0:=(HS.out.new HK.out).c0;have t1:=(HS.out.new HK.out).c1;have u0:=(HU.out.new HK.out).c0;have u1:=(HU.out.new HK.out).c1;obtain⟨g1,_,_,_,_,v1⟩:=hg1 _ HK.out;obtain⟨g2,_,_,_,_,v2⟩:=hg2 _ HK.out;have hb1:=g1.2.1;have hb2:=g2.2.1;rw[he1] at hb1 v1;rw[he2,HP4.out] at hb2 v2
  have HLE:Hid (nd.b.length≤maxLen):=Lib.hid (by
   have:=HRT.out.b_le (ndI_some M2.out).1
   unfold maxLen;omega)
  have HN9:=Lib.hid (HN.out.new HK.out);clear hg1 hg2 g1 g2
  have cS:=Lib.hid (fun (d:Nat) (os:Array Obj)=>Calls.regrown_of (d:=d) (os:=os) ((same_eq _ _ _ e1.d e2.d _ _ (hb1.new (New.of_below (below_regrown w9 d os))) (hb2.new (New.of_below (below_regrown w9 d os))) HLE.out).mono fun e w' h=>by
   obtain⟨q,h1,rfl⟩:=h
   exact⟨h1,((Kept.refl (fun _=>False) _).drewN q).below⟩))
  have cL:=Lib.hid (fun (d:Nat) (os:Array Obj)=>Calls.regrown_of (d:=d) (os:=os) ((mlives_any (Go.Sort.grow (redrawn w9 d) os)).mono fun e w' h=>⟨h.1,h.2.below⟩))
  have rz0:=fun d os=>cell_regrown z0 d os
  have rt0:=fun d os=>cell_regrown t0 d os
  have rt1:=fun d os=>cell_regrown t1 d os
  have ru0:=fun d os=>cell_regrown u0 d os
  have ru1:=fun d os=>cell_regrown u1 d os
  have rv1:=fun d os=>cell_regrown v1 d os
  have rv2:=fun d os=>cell_regrown v2 d os
  clear z0 t0 t1 u0 u1 v1 v2;clear hb1 hb2 rs1 cA cB
  go_wp2
  refine wp_region_quiet_below (by kernel_rfl) (by kernel_rfl) ?_
  repeat (quiet_step (fail))
  quiet_step (first|(go_at_call 24;exact cS.out _ _))
  repeat (quiet_step (fail))
  quiet_step (first|(go_at_call 13;exact cL.out _ _))
  repeat (quiet_step (fail))
  refine wpQuiet_nil ?_
  intro _ hw'
  obtain⟨⟨dq,osq⟩,hw''⟩:=hw';subst hw'';have HKd:=Lib.hid (New.of_below (below_regrown w9 dq osq));generalize Go.Sort.grow (redrawn w9 dq) osq=wd at *;have HNd:=Lib.hid (HN9.out.new HKd.out)
  go_wp2
  try simp only[Exit.then]
  refine bodyPost_ret (by simp[results,Tryz.results6,go_sem];try rfl) rfl ?_
  exact⟨rfl,HNd.out⟩
 ·have dx:decide (((xe:Nat):Int)=0)=false:=decide_eq_false (by omega);clear p1
  go_upto_region 13 with fail
  have hn1:∀u,New w8 u→Calls Tryz.prog 25 #[.agg #[.int .i64 32,.slice A1 n1 c1],.int .i64 ((j:Nat):Int)] u (NewNum u ((posI T9.l j:Nat):Int)):=fun u hu=>by
   have:=HS.out.node HRL.out hu j
   rwa [noI_some M2.out] at this
  have hn2:∀u,New w8 u→Calls Tryz.prog 25 #[.agg #[.int .i64 32,.slice A2 n2 c2],.int .i64 ((j:Nat):Int)] u (NewNum u ((posI Re.1.l j:Nat):Int)):=fun u hu=>by
   have:=HU.out.node HRLRe.out hu j
   rwa [noI_some HP3.out] at this
  have u0:=HU.out.c0;have u1:=HU.out.c1;have ult:=HU.out.lt;have cA:=Lib.hid (fun (d:Nat) (os:Array Obj)=>Calls.regrown_of (d:=d) (os:=os) ((hn1 _ (New.of_below (below_regrown w8 d os))).mono fun e w' h=>⟨h.1,h.2.below⟩));have cB:=Lib.hid (fun (d:Nat) (os:Array Obj)=>Calls.regrown_of (d:=d) (os:=os) ((hn2 _ (New.of_below (below_regrown w8 d os))).mono fun e w' h=>⟨h.1,h.2.below⟩))
  have rt0:=fun d os=>cell_regrown t0 d os
  have rt1:=fun d os=>cell_regrown t1 d os
  have ru0:=fun d os=>cell_regrown u0 d os
  have ru1:=fun d os=>cell_regrown u1 d os
  have rs1:=fun d os=>cell_regrown s1 d os
  clear t0 t1 u0 u1 s1;clear hn1 hn2 s0 s3 s4 s5 k0 k1 k3 k4 k5 x0 x1 o0;obtain⟨bk,o,e1,rfl,hl1,he1,hg1⟩:=HS.out.get (pos_some M2.out);obtain⟨bk2,o2,e2,rfl,hl2,he2,hg2⟩:=HU.out.get (pos_some HP3.out);generalize hq1:posI T9.l j=p1 at *;generalize hq2:posI Re.1.l j=p2 at *;refine wp_region_quiet_below (by kernel_rfl) (by kernel_rfl) ?_
  repeat (quiet_step (fail))
  quiet_step (first|(go_at_call 25;exact cA.out _ _))
  repeat (quiet_step (fail))
  quiet_step (first|(go_at_call 25;exact cB.out _ _))
  repeat (quiet_step (fail))
  refine wpQuiet_nil ?_
  intro _ hw'
  obtain⟨⟨dq,osq⟩,hw''⟩:=hw';subst hw'';have HK:=Lib.hid (New.of_below (below_regrown w8 dq osq));generalize Go.Sort.grow (redrawn w8 dq) osq=w9 at *;have z0:=(HOo.out.new HK.out).c0;have zlt:=(HOo.out.new HK.out).lt;rw[HP2.out] at z0;have t0:=(HS.out.new HK.out).c0;have t1:=(HS.out.new HK.out).c1;have u0:=(HU.out.new HK.out).c0;have u1:=(HU.out.new HK.out).c1;obtain⟨g1,_,_,_,_,v1⟩:=hg1 _ HK.out;obtain⟨g2,_,_,_,_,v2⟩:=hg2 _ HK.out;have hb1:=g1.2.1;have hb2:=g2.2.1;rw[he1] at hb1 v1;rw[he2,HP4.out] at hb2 v2
  have HLE:Hid (nd.b.length≤maxLen):=Lib.hid (by
   have:=HRT.out.b_le (ndI_some M2.out).1
   unfold maxLen;omega)
  have HN9:=Lib.hid (HN.out.new HK.out);clear hg1 hg2 g1 g2
  have cS:=Lib.hid (fun (d:Nat) (os:Array Obj)=>Calls.regrown_of (d:=d) (os:=os) ((same_eq _ _ _ e1.d e2.d _ _ (hb1.new (New.of_below (below_regrown w9 d os))) (hb2.new (New.of_below (below_regrown w9 d os))) HLE.out).mono fun e w' h=>by
   obtain⟨q,h1,rfl⟩:=h
   exact⟨h1,((Kept.refl (fun _=>False) _).drewN q).below⟩))
  have cL:=Lib.hid (fun (d:Nat) (os:Array Obj)=>Calls.regrown_of (d:=d) (os:=os) ((mlives_any (Go.Sort.grow (redrawn w9 d) os)).mono fun e w' h=>⟨h.1,h.2.below⟩))
  have rz0:=fun d os=>cell_regrown z0 d os
  have rt0:=fun d os=>cell_regrown t0 d os
  have rt1:=fun d os=>cell_regrown t1 d os
  have ru0:=fun d os=>cell_regrown u0 d os
  have ru1:=fun d os=>cell_regrown u1 d os
  have rv1:=fun d os=>cell_regrown v1 d os
  have rv2:=fun d os=>cell_regrown v2 d os
  clear z0 t0 t1 u0 u1 v1 v2;clear hb1 hb2 rs1 cA cB
  go_wp2
  refine wp_region_quiet_below (by kernel_rfl) (by kernel_rfl) ?_
  repeat (quiet_step (fail))
  quiet_step (first|(go_at_call 24;exact cS.out _ _))
  repeat (quiet_step (fail))
  quiet_step (first|(go_at_call 13;exact cL.out _ _))
  repeat (quiet_step (fail))
  refine wpQuiet_nil ?_
  intro _ hw'
  obtain⟨⟨dq,osq⟩,hw''⟩:=hw';subst hw'';have HKd:=Lib.hid (New.of_below (below_regrown w9 dq osq));generalize Go.Sort.grow (redrawn w9 dq) osq=wd at *;have HNd:=Lib.hid (HN9.out.new HKd.out)
  go_wp2
  try simp only[Exit.then]
  refine bodyPost_ret (by simp[results,Tryz.results6,go_sem];try rfl) rfl ?_
  exact⟨rfl,HNd.out⟩
set_option maxRecDepth 100000 in
theorem lifted (os:Os) (started:os.Started) (H:Type) (enc:TypeId×Value→H) (F:Stop.Interp):
  ReturnsInHanded {} Tryz.checked os 6 .any ((Rows.OpenSpec.upto Rows.modelRenamesSpec).pre6 enc Tryz.prog Tryz.f6 Rows.modelRenamesUptoRow.domain false) (((Rows.OpenSpec.upto Rows.modelRenamesSpec).at F).post enc Tryz.prog Tryz.f6 false true false false):=by
 refine lift_upto (C:=Tryz.checked) (s:=Rows.modelRenamesSpec) (tb:=4) own started (by kernel_rfl) Tryz.func6
  (OpenSpec.witness (enc:=enc) (C:=Tryz.checked) (s:=Rows.OpenSpec.upto Rows.modelRenamesSpec) (k:=Rows.uptoSmall) rfl false ⟨#[],#[.slice none 0 0,.string .empty,.string .empty],[]⟩ 8 (by kernel_rfl) (by kernel_rfl) (by kernel_rfl)
   (x:=([.nil,.lit (.string []),.lit (.string [])],[],[])) (by kernel_rfl) rfl (by kernel_rfl))
  rfl (by kernel_rfl) Tryz.underlying4 ?_ laidOut (of_decide_eq_true (by kernel_rfl)) ?_
 ·intro ds hd
  match ds,hd with
  | [d0,d1,d2],_=>exact⟨rfl,rfl,rfl⟩
 ·intro W base args ds hA hk
  have hA:Args enc Tryz.prog W base Tryz.f6.params.toList args.toList ds:=hA;rw[Tryz.params6] at hA;obtain⟨v0,vs0,d0,ds0,p0,hargs,rfl,a0,hA⟩:=hA.cons_;obtain⟨v1,vs1,d1,ds1,p1,rfl,rfl,a1,hA⟩:=hA.cons_;obtain⟨v2,vs2,d2,ds2,p2,rfl,rfl,a2,hA⟩:=hA.cons_;obtain⟨rfl,rfl⟩:=hA.nil_
  obtain rfl:args=#[v0,v1,v2]:=by cases args;simp_all
  obtain⟨A0,n0,c0,l0,rfl,b0,k0,m0⟩:=a0.actsC_ (bulk_at hk (by simp));obtain⟨x1,rfl,rfl,b1⟩:=a1.string_ Tryz.underlying9;obtain⟨x2,rfl,rfl,b2⟩:=a2.string_ Tryz.underlying9
  exact walk A0 n0 c0 l0 x1 x2 W b0 k0 m0 (str_bulk (bulk_at hk (by simp))) (str_bulk (bulk_at hk (by simp))) (bulk_ok hk)
theorem proved:Rows.ModelRenamesUptoSaid:=
 OpenClaim.holds_of_cond 6 Tryz.f6 rfl rfl rfl rfl rfl rfl rfl ⟨rfl,rfl,rfl,rfl,rfl⟩ rfl rfl rfl rfl rfl (by kernel_rfl) Tryz.func6 (by kernel_rfl)
  (of_decide_eq_true (by kernel_rfl)) (by unfold Func.isWrapper;first|(rw[if_pos (by decide +kernel)];kernel_rfl)|(rw[if_neg (by decide +kernel)];exact⟨rfl,rfl⟩))
  (fun os started H enc _ F=>lifted os started H enc F)
end Go.Proofs.YtjjamoemheljdaaGreat.modelRenames
