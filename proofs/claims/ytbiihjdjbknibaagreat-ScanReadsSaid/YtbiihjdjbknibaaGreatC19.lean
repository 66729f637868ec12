/-
  Layer 7: contracts (Hb Hc).
-/
import Derived.Test.YtbiihjdjbknibaaGreatC18
namespace Go.Proofs.YtbiihjdjbknibaaGreat
set_option maxRecDepth 100000
set_option maxHeartbeats 8000000
set_option linter.unusedSimpArgs false
set_option linter.unusedVariables false
section
set_option maxRecDepth 100000
def sl (c:List Nat) (o n:Nat):List Nat:=(c.drop o).take n
theorem sl_get (c:List Nat) (o n k:Nat) (hk:k < n):(sl c o n)[k]?=c[o+k]?:=by
 unfold sl;rw[List.getElem?_take,if_pos hk,List.getElem?_drop]
theorem sl_len (c:List Nat) (o n:Nat) (h:o+n≤c.length):(sl c o n).length=n:=by
 unfold sl;rw[List.length_take,List.length_drop];omega
theorem sl_ext (c d:List Nat) (o p n:Nat) (hc:o+n≤c.length) (hd:p+n≤d.length) (h:∀k,k < n→c[o+k]?=d[p+k]?):sl c o n=sl d p n:=by
 apply List.ext_getElem?
 intro k
 by_cases hk:k < n
 ·rw[sl_get _ _ _ _ hk,sl_get _ _ _ _ hk,h k hk]
 ·rw[List.getElem?_eq_none (by rw[sl_len _ _ _ hc];omega),List.getElem?_eq_none (by rw[sl_len _ _ _ hd];omega)]
theorem lay_at (c M:List Nat) (off:Nat) (h:off+M.length≤c.length) (j:Nat):(lay c off M)[j]?=if off≤j∧j < off+M.length then M[j - off]? else c[j]?:=by
 unfold lay
 by_cases h1:j < off
 ·rw[if_neg (by omega),List.getElem?_append_left (by rw[List.length_take];omega),List.getElem?_take,if_pos h1]
 ·by_cases h2:j < off+M.length
  ·rw[if_pos ⟨by omega,h2⟩,List.getElem?_append_right (by rw[List.length_take];omega),List.length_take,Nat.min_eq_left (by omega),List.getElem?_append_left (by omega)]
  ·rw[if_neg (by omega),List.getElem?_append_right (by rw[List.length_take];omega),List.length_take,Nat.min_eq_left (by omega),List.getElem?_append_right (by omega),List.getElem?_drop]
   congr 1
   omega
theorem sl_lay_in (c M:List Nat) (off o n:Nat) (h:off+M.length≤c.length) (h1:off≤o) (h2:o+n≤off+M.length):sl (lay c off M) o n=sl M (o - off) n:=by
 apply sl_ext
 ·rw[lay_length _ _ _ h];omega
 ·omega
 ·intro k hk;rw[lay_at c M off h,if_pos ⟨by omega,by omega⟩]
  congr 1
  omega
theorem sl_lay_out (c M:List Nat) (off o n:Nat) (h:off+M.length≤c.length) (h1:o+n≤off∨off+M.length≤o) (h2:o+n≤c.length):sl (lay c off M) o n=sl c o n:=by
 apply sl_ext
 ·rw[lay_length _ _ _ h];omega
 ·omega
 ·intro k hk;rw[lay_at c M off h,if_neg (by omega)]
end
section
set_option maxRecDepth 100000
def okHd (k e q:Nat):Prop:=isHd k e q∧e < 4294967296∧q < 18446744073709551616
theorem okHd.k256 {k e q:Nat} (h:okHd k e q):k < 256:=by have:=h.1.1;omega
theorem ph_ok {n k e q:Nat} (hn:isPg n) (h:okHd k e q):phE n k e q=0∧phL n k e q=page n 1 (hdL k e q):=by
 have hl:=hdL_length k e q;have hn':=hn;unfold isPg at hn'
 have hle:((hdL k e q).length:Int)≤(n:Int) - 5:=by omega
 have hkd:isKd 1:=by unfold isKd;omega
 constructor
 ·unfold phE sPutE;rw[if_pos h.1,if_pos ⟨hn,hkd⟩,if_pos hle]
 ·unfold phL sPutL;rw[if_pos h.1,if_pos ⟨hn,hkd,hle⟩];simp
theorem hd_bytes (k e q:Nat) (_:k < 256):IsBytes (hdL k e q):=by
 intro x hx;unfold hdL at hx
 rcases List.mem_append.1 hx with h|h
 ·rcases List.mem_append.1 h with h|h
  ·exact leB_lt _ _ x h
  ·exact leB_lt _ _ x h
 ·exact leB_lt _ _ x h
theorem ph_reads {n k e q:Nat} (hn:isPg n) (h:okHd k e q):ghE (phL n k e q)=0∧ghK (phL n k e q)=k∧ghR (phL n k e q)=e∧ghS (phL n k e q)=q:=
 heads_back h.k256 h.2.1 h.2.2 (ph_ok hn h).1
def TornP (n:Nat) (r:List Nat):Prop:=∃k e q,okHd k e q∧unders r (phL n k e q)=true∧r≠phL n k e q
theorem torn_no {n:Nat} {r:List Nat} (hn:isPg n) (hr:IsBytes r) (h:TornP n r):ghE r≠0:=by
 obtain⟨k,e,q,hh,hu,hne⟩:=h;rw[(ph_ok hn hh).2] at hu hne;have hl:=hdL_length k e q
 have:=(get_torn r n 1 (hdL k e q) hn (by unfold isKd;omega) (by unfold isPg at hn;omega) hr (hd_bytes k e q hh.k256) hu hne).1
 have hs:sGetE r≠0:=by rcases this with h|h<;>omega
 unfold ghE;rw[if_pos hs];exact hs
theorem head_more {n k e q:Nat} {r':List Nat} (hh:okHd k e q) (hu:unders r' (phL n k e q)=true):r'=phL n k e q∨TornP n r':=by
 by_cases h:r'=phL n k e q
 ·exact .inl h
 ·exact .inr ⟨k,e,q,hh,hu,h⟩
theorem ok_pg {s:CSt} (ok:s.Ok):isPg s.nz:=by have:=ok.nz1;have:=ok.nz2;unfold isPg;omega
structure InvC (s:CSt) (L:Nat):Prop where
 p0:∀i,i < s.nb→TornP s.nz (pgL s i 0)∨∃k e q,okHd k e q∧pgL s i 0=phL s.nz k e q∧q≤L
 ne:∀i j,i < s.nb→j < s.nb→i≠j→ghE (pgL s i 0)=0→ghE (pgL s j 0)=0→ghS (pgL s i 0)≠ghS (pgL s j 0)
theorem InvC.mono {s:CSt} {L L':Nat} (h:InvC s L) (hL:L≤L'):InvC s L':=
 ⟨fun i hi=>(h.p0 i hi).imp id fun ⟨k,e,q,a,b,c⟩=>⟨k,e,q,a,b,Nat.le_trans c hL⟩,h.ne⟩
theorem InvC.same {s s':CSt} {L:Nat} (h:InvC s L) (hb:s'.nb=s.nb) (hz:s'.nz=s.nz) (hp:∀i:Nat,i < s.nb→pgL s' i 0=pgL s i 0):InvC s' L:=by
 constructor
 ·intro i hi;rw[hb] at hi;rw[hp i hi,hz];exact h.p0 i hi
 ·intro i j hi hj;rw[hb] at hi hj;rw[hp i hi,hp j hj];exact h.ne i j hi hj
theorem InvC.seq {s:CSt} {L:Nat} (ok:s.Ok) (h:InvC s L) {i:Nat} (hi:i < s.nb) (h0:ghE (pgL s i 0)=0):∃k e q,okHd k e q∧pgL s i 0=phL s.nz k e q∧q≤L:=by
 rcases h.p0 i hi with ht|h1
 ·exact absurd h0 (torn_no (ok_pg ok) (pg_bytes s ok i 0) ht)
 ·exact h1
theorem InvC.more {s s':CSt} {L b k e:Nat} (ok:s.Ok) (ok':s'.Ok) (h:InvC s L) (hnb:s'.nb=s.nb) (hz:s'.nz=s.nz) (hb:b < s.nb) (ho:∀i:Nat,i < s.nb→i≠b→pgL s' i 0=pgL s i 0)
  (hh:okHd k e (L+1)) (hu:unders (pgL s' b 0) (phL s.nz k e (L+1))=true):InvC s' (L+1):=by
 have hpg:=ok_pg ok;have key:=head_more (n:=s.nz) hh hu
 have hseq:∀i:Nat,i < s.nb→i≠b→ghE (pgL s' i 0)=0→ghS (pgL s' i 0)≤L:=fun i hi hne h0=>by
  rw[ho i hi hne] at h0 ⊢;obtain⟨k',e',q',hh',he',hq'⟩:=h.seq ok hi h0;rw[he',(ph_reads hpg hh').2.2.2];exact hq'
 have hb1:ghE (pgL s' b 0)=0→ghS (pgL s' b 0)=L+1:=fun h0=>by
  rcases key with h1|ht
  ·rw[h1,(ph_reads hpg hh).2.2.2]
  ·exact absurd h0 (torn_no hpg (pg_bytes s' ok' b 0) ht)
 constructor
 ·intro i hi;rw[hnb] at hi;rw[hz]
  by_cases e1:i=b
  ·subst e1
   rcases key with h1|ht
   ·exact .inr ⟨k,e,L+1,hh,h1,Nat.le_refl _⟩
   ·exact .inl ht
  ·rw[ho i hi e1]
   exact (h.p0 i hi).imp id fun ⟨k,e,q,a,b,c⟩=>⟨k,e,q,a,b,by omega⟩
 ·intro i j hi hj hne h1 h2;rw[hnb] at hi hj
  by_cases e1:i=b
  ·subst e1
   have:=hseq j hj (Ne.symm hne) h2
   rw[hb1 h1];omega
  ·by_cases e2:j=b
   ·subst e2
    have:=hseq i hi hne h1
    rw[hb1 h2];omega
   ·rw[ho i hi e1] at h1 ⊢;rw[ho j hj e2] at h2 ⊢;exact h.ne i j hi hj hne h1 h2
structure Keeps (s s':CSt) (b:Nat):Prop where
 nb:s'.nb=s.nb
 np:s'.np=s.np
 nz:s'.nz=s.nz
 ns:s'.ns=s.ns
 pg:∀i q,i < s.nb→q < s.np→i≠b→pgL s' i q=pgL s i q
 bad:∀i,i≠b→badAt s' i=badAt s i
theorem Keeps.refl (s:CSt) (b:Nat):Keeps s s b:=⟨rfl,rfl,rfl,rfl,fun _ _ _ _ _=>rfl,fun _ _=>rfl⟩
theorem Keeps.trans {s s' s2:CSt} {b:Nat} (h:Keeps s s' b) (k:Keeps s' s2 b):Keeps s s2 b:=
 ⟨k.nb.trans h.nb,k.np.trans h.np,k.nz.trans h.nz,k.ns.trans h.ns,fun i q hi hq hne=>(k.pg i q (by rw[h.nb];exact hi) (by rw[h.np];exact hq) hne).trans (h.pg i q hi hq hne),fun i hne=>(k.bad i hne).trans (h.bad i hne)⟩
end
end Go.Proofs.YtbiihjdjbknibaaGreat
