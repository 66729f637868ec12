/-
  ModelMakes: a node that is made and removed again leaves the tree as it was; its number is one that no node had; where what comes in is of bulk at most 1048576.
-/
import Derived.Test.YtjjamoemheljdaaGreatB54
import Derived.SizedLaws
import Derived.ChangeOld
import Derived.ShutString
import Derived.Lib.Join
import Derived.Lib.Bytealg
import Derived.Deep.Slices
import Derived.Deep.Fields
import Derived.Deep.CondSized
namespace Go.Proofs.YtjjamoemheljdaaGreat
set_option linter.unusedSimpArgs false
set_option linter.unusedVariables false
section
open Go.ChangeShapes Go.WideShapes Go.ChangeAt Go.RowKit
section
variable {H:Type} {enc:TypeId×Value→H} {P:Program}
theorem Arg.bool_ {W:World} {base:Nat} {t:TypeId} {v:Value} {d:DataW H} {p:List MemPlace} (h:Arg enc P W base t v d p) (ht:P.underlying t=some .bool):∃x:Bool,v=.bool x:=by
 obtain⟨x,rfl,_,_⟩:=open_bool ht h.ok h.tr
 exact⟨x,rfl⟩
end
end
section
theorem segs_append (x r:List UInt8) (h:∀y∈x,y≠47):segs (x++47::r)=x::segs r:=by
 have:=segs_at x.length (x++47::r) (fun j hj e=>by
  rw[List.getElem?_append_left hj] at e
  exact h _ (List.mem_of_getElem? e) rfl) (by simp)
 rw[this]
 simp
theorem segs_join:∀(g:List (List UInt8)),g≠[]→(∀x∈g,∀y∈x,y≠47)→segs (Lib.join g [47])=g
 | [],h,_=>absurd rfl h
 | [x],_,h=>by rw[Lib.join_one];exact segs_all x (h x (by simp))
 | x::y::t,_,h=>by
  have ih:=segs_join (y::t) (by simp) fun z hz=>h z (by simp[hz])
  rw[Lib.join_cons] at ih ⊢
  have e:x++Lib.joinTail [47] (y::t)=x++47::(y++Lib.joinTail [47] t):=by simp[Lib.joinTail]
  rw[e,segs_append x _ (h x (by simp)),ih]
theorem names_back {g:List (List UInt8)} (h:jE g=0):pE (jS g)=0∧pN (jS g)=g:=by
 have h':=h;unfold jE at h'
 split at h'
 ·rename_i hall
  split at h'
  ·simp at h'
  ·rename_i hlen
   have hJ:jS g=47::Lib.join g [47]:=by unfold jS;rw[if_pos h]
   have hP:pathE (jS g)=some g:=by
    rw[hJ]
    cases g with
    | nil=>rfl
    | cons x r=>
     rw[List.all_eq_true] at hall;have hx:=name_ne (hall x (by simp));unfold pathE
     have hs:=segs_join (x::r) (by simp) fun z hz=>(name_ne (hall z hz)).2.2
     have hne:Lib.join (x::r) [47]≠[]:=by
      rw[Lib.join_cons]
      intro e
      exact hx.1 (List.append_eq_nil_iff.1 e).1
     rw[if_neg (by simpa using hne)]
     simp only[hs]
     rw[if_pos (And.intro (by first|trivial|rfl) (by rw[List.all_eq_true];exact hall))]
   have hE:pE (jS g)=0:=by unfold pE;rw[hP];simp only;rw[if_neg hlen]
   refine⟨hE,?_⟩;unfold pN;rw[if_pos hE,hP]
   rfl
 ·simp at h'
end
section
theorem entF_is {ns:List (ByteArray×Nat)} (ho:OrdS ns) {e:ByteArray×Nat} (h:e∈ns):entF ns e.1=e.2:=by
 have:=ns_uniq ho (entF_mem ⟨e,h,rfl⟩) h rfl
 exact congrArg (·.2) this
end
section
open Go.ChangeShapes Go.WideShapes Go.ChangeAt Go.RowKit Go.Deep
section
variable {H:Type} {enc:TypeId×Value→H} {P:Program} {W:World} {b:Nat}
theorem FldU.bool_ {t:TypeId} {v:Value} {d:DataW H} (h:FldU enc P W b t v d) (ht:P.underlying t=some .bool):∃x:Bool,v=.bool x:=by
 obtain⟨⟨⟨n,p,h⟩,_⟩,_⟩:=h;obtain⟨x,hx,_⟩:=DataW.trod_bool ht h
 injection hx with hx
 exact⟨x,hx⟩
end
end
section
open Go.RowKit
theorem names_succ (g:List (List UInt8)) (k:Nat) (x:List UInt8) (h:g[k]?=some x):(g.take (k+1)).all nameL=((g.take k).all nameL && nameL x):=by
 rw[List.take_add_one,h]
 simp
theorem names_bad (g:List (List UInt8)) (k:Nat) (x:List UInt8) (h:g[k]?=some x) (hx:nameL x=false):jE g=2:=by
 unfold jE;rw[if_neg]
 intro e
 rw[List.all_eq_true.1 e x (List.mem_of_getElem? h)] at hx
 cases hx
theorem jE_many {g:List (List UInt8)} (h:g.all nameL=true) (h6:6 < g.length):jE g=3:=by unfold jE;rw[if_pos h,if_pos h6]
theorem jE_ok {g:List (List UInt8)} (h:g.all nameL=true) (h6:¬6 < g.length):jE g=0∧jS g=47::Lib.join g [47]:=by
 have e:jE g=0:=by unfold jE;rw[if_pos h,if_neg h6]
 exact⟨e,by unfold jS;rw[if_pos e]⟩
theorem lens_le:∀(g:List (List UInt8)),(∀x∈g,x.length≤12)→Lib.lens g≤12*g.length
 | [],_=>by simp[Lib.lens]
 | x::r,h=>by
  have:=lens_le r fun y hy=>h y (by simp[hy])
  have:=h x (by simp)
  simp only[Lib.lens,List.map_cons,List.sum_cons,List.length_cons] at *
  omega
theorem tail_le (g:List (List UInt8)) (h:g.all nameL=true):(Lib.joinTail [47] g).length≤13*g.length:=by
 rw[Lib.joinTail_length]
 have:=lens_le g fun x hx=>(name_ne (List.all_eq_true.1 h x hx)).2.1
 simp
 omega
theorem tail_join {g:List (List UInt8)} (h:g≠[]):Lib.joinTail [47] g=47::Lib.join g [47]:=by
 cases g with
 | nil=>exact absurd rfl h
 | cons x r=>
  rw[Lib.join_cons]
  simp[Lib.joinTail]
end
section
open Go.RowKit
set_option maxHeartbeats 2000000 in
theorem rjoin_any (A:Option Addr) (n c:Nat) (g:List (List UInt8)) (w:World) (ha:Txs w A n g) (hn:n≤maxLen) (hx:∀x∈g,x.length≤maxLen):
  Calls Tryz.prog 27 #[.slice A n c] w (RetJ w g):=by
 unfold maxLen at hn;have hg:=ha.len;have HX:=jH hx;clear hx
 go_enter Tryz.func27,Tryz.ntmps27
 go_wp2_with fail
 go_loopw [4] (fun i wr=>∃k:Nat,k≤n∧i=.int .i64 k∧wr=w∧Hid ((g.take k).all nameL=true)) (fun i _=>n - (intOf i).toNat)
 case atStart=>exact⟨0,Nat.zero_le _,rfl,rfl,rfl⟩
 case round=>
  obtain⟨k,hk,rfl,rfl,hall⟩:=hrel
  by_cases hlt:k < n
  ·obtain⟨b,o,x,rfl,hx,hc⟩:=ha.at_ hlt;have HG:=jH hx
   have hxm:(⟨x.toArray⟩:ByteArray).size≤maxLen:=by rw[Lib.size_eq];exact HX.out x (List.mem_of_getElem? hx)
   clear ha hx
   cases hname:nameL x with
   | true=>
    go_wp2_with (go_at_call 48;refine (rname_any ⟨x.toArray⟩ _ hxm).mono ?_;rintro e w1 ⟨rfl,hw1⟩;subst w1;rw[hname])
    go_roundw
    case rel=>exact⟨k+1,by omega,by go_num,by first|rfl|trivial,by rw[Hid,names_succ _ _ _ HG.out,hall.out,hname];rfl⟩
    case measure=>simp[intOf];omega
   | false=>
    have H2:=jH (names_bad _ _ _ HG.out hname)
    go_wp2_with (go_at_call 48;refine (rname_any ⟨x.toArray⟩ _ hxm).mono ?_;rintro e w1 ⟨rfl,hw1⟩;subst w1;rw[hname])
    go_ret2
    exact RetJ.err rfl H2.out (by omega) rfl kR
  ·have e:k=n:=by omega
   have HA:Hid (g.all nameL=true):=by
    have:=hall.out
    rwa [e,List.take_of_length_le (by omega)] at this
   clear hall
   by_cases h6:6 < n
   ·have d6:decide ((6:Int) < (n:Int))=true:=decide_eq_true (by omega);have H3:=jH (jE_many HA.out (by omega));clear ha
    go_wp2
    go_ret2
    exact RetJ.err rfl H3.out (by omega) rfl kR
   ·have d6:decide ((6:Int) < (n:Int))=false:=decide_eq_false (by omega);obtain⟨hj1,hj2⟩:=jE_ok HA.out (by omega);have HJ1:=jH hj1;have HJ2:=jH hj2;clear hj1 hj2
    by_cases h0:n=0
    ·have hg0:g=[]:=List.eq_nil_of_length_eq_zero (by omega);subst h0;subst hg0;clear ha
     go_wp2
     go_ret2
     refine⟨?_,kR⟩;rw[HJ1.out,HJ2.out]
     rfl
    ·have d0:((n:Int) == 0)=false:=beq_eq_false_iff_ne.2 (by omega)
     have HT:Hid (jS g=Lib.joinTail [47] g):=by
      rw[Hid,HJ2.out,tail_join (by intro e;rw[e] at hg;simp at hg;omega)]
     generalize wr=wA at *
     go_wp2_with fail
     go_loopw [5,6] (fun v i wr=>∃(k:Nat) (T:List UInt8),k≤n∧v=.string ⟨T.toArray⟩∧i=.int .i64 k∧wr=wA∧T.length≤13*k∧Hid (T=Lib.joinTail [47] (g.take k))) (fun _ i _=>n - (intOf i).toNat)
     case atStart=>exact⟨0,[],Nat.zero_le _,rfl,rfl,rfl,by simp,rfl⟩
     case round=>
      obtain⟨k2,T,hk2,rfl,rfl,rfl,hT,HK⟩:=hrel
      by_cases hlt2:k2 < n
      ·obtain⟨b,o,x,rfl,hx,hc⟩:=ha.at_ hlt2;have HG:=jH hx;have hx12:x.length≤12:=(name_ne (List.all_eq_true.1 HA.out x (List.mem_of_getElem? hx))).2.1
       have hT1:T.length+1≤9223372036854775807:=by omega
       have hT2:T.length+1+x.length≤9223372036854775807:=by omega
       clear ha hx
       go_wp2
       go_roundw
       case rel=>
        refine⟨k2+1,T++[47]++x,by omega,?_,by go_num,by first|rfl|trivial,by simp;omega,?_⟩
        ·congr 1
        ·rw[Hid,Lib.joinTail_take_succ _ _ _ _ HG.out,HK.out]
       case measure=>simp[intOf];omega
      ·have e2:k2=n:=by omega
       have HF:Hid (jS g=T):=by
        rw[Hid,HT.out,HK.out,e2,List.take_of_length_le (by omega)]
       clear ha HK
       go_wp2
       go_ret2
       refine⟨?_,kR⟩;rw[HJ1.out,HF.out]
       rfl
theorem sE_of {l:List UInt8} {x:Nat} (h:pE l=x) (hx:x≠0):sE l=x:=by
 unfold sE;rw[if_neg (fun e=>hx (by rw[←h];exact e.1)),h]
theorem pN_bad {l:List UInt8} {x:Nat} (h:pE l=x) (hx:x≠0):pN l=[]:=by
 unfold pN;rw[if_neg (by rw[h];exact hx)]
theorem sE_root {l:List UInt8} (h:pE l=0) (hn:pN l=[]):sE l=2:=by
 unfold sE;rw[if_pos ⟨h,hn⟩]
theorem sE_ok {l:List UInt8} (h:pE l=0) (hn:pN l≠[]):sE l=0∧sD l=(pN l).dropLast∧sN l=(pN l).getLastD []:=by
 have e:sE l=0:=by unfold sE;rw[if_neg (fun e=>hn e.2),h]
 exact⟨e,by unfold sD;rw[if_pos e],by unfold sN;rw[if_pos e]⟩
set_option maxHeartbeats 2000000 in
theorem rsplit_any (s:ByteArray) (w:World) (hs:s.size≤1048576):
  Calls Tryz.prog 26 #[.string s] w (RetS w s.data.toList):=by
 go_enter Tryz.func26,Tryz.ntmps26
 go_wp2_with fail
 refine (rparse_any s _ hs).mono ?_;rintro e w1 ⟨A,c,rfl,ho,hk⟩;have HO:=jH ho;have HK:=jH hk;clear ho hk
 rcases pE_cases s.data.toList with h|h|h
 ·have HE:=jH h;rw[h];clear h;have hlen:=pN_le s.data.toList
  by_cases h0:(pN s.data.toList).length=0
  ·have HS:=jH (sE_root HE.out (List.eq_nil_of_length_eq_zero h0));rw[h0];clear h0
   go_wp2
   go_ret3
   exact RetS.err rfl HS.out (by omega) rfl HK.out
  ·obtain⟨b,o,x,rfl,hx,hc⟩:=HO.out.txs.at_ (j:=(pN s.data.toList).length - 1) (by omega)
   have hne:pN s.data.toList≠[]:=fun e=>h0 (by rw[e];rfl)
   obtain⟨s1,s2,s3⟩:=sE_ok HE.out hne;have HT:=HO.out.txs.take (k:=(pN s.data.toList).length - 1) (by omega)
   have HT:Hid (Txs w1 (some ⟨b,o,none⟩) ((pN s.data.toList).length - 1) (sD s.data.toList)):=by
    rw[Hid,s2,List.dropLast_eq_take];exact HT
   have HN:Hid (sN s.data.toList=x):=by
    rw[Hid,s3]
    have:=List.getLast?_eq_getElem? (l:=pN s.data.toList)
    rw[hx] at this;rw[List.getLastD_eq_getLast?,this]
    rfl
   have HD:Hid ((sD s.data.toList).length=(pN s.data.toList).length - 1):=by rw[Hid,s2,List.length_dropLast]
   have HS:=jH s1;have hle:=HO.out.le;clear hne s1 s2 s3 hx;unfold maxLen at hle;generalize hnn:(pN s.data.toList).length=n at *;clear hnn;obtain⟨m,rfl⟩:∃m,n=m+1:=⟨n - 1,by omega⟩;have em:m+1 - 1=m:=rfl;rw[em] at hc HT HD;clear em HO h0
   go_wp2_with fail
   go_quiet (fail)
   go_wp2
   go_ret3
   exact⟨some ⟨b,o,none⟩,_,by rw[HS.out,HN.out,HD.out];rfl,by rw[HD.out];first|exact HT.out|exact HT.out.drewN _,by rw[HD.out];omega,by first|exact HK.out|exact HK.out.drewN _⟩
 ·have HS:=jH (sE_of h (by omega));have HZ:=jH (pN_bad h (by omega));rw[h,HZ.out];clear h
  go_wp2
  go_ret3
  exact RetS.err rfl HS.out (by omega) rfl HK.out
 ·have HS:=jH (sE_of h (by omega));have HZ:=jH (pN_bad h (by omega));rw[h,HZ.out];clear h
  go_wp2
  go_ret3
  exact RetS.err rfl HS.out (by omega) rfl HK.out
end
section
theorem lookF_app {L:List ND}:∀(l r:List ByteArray) (q0 j0 q j:Nat),lookF L l q0 j0=(q,j,0)→j≠0→lookF L (l++r) q0 j0=lookF L r q j
 | [],r,q0,j0,q,j,h,_=>by
  unfold lookF at h
  injection h with h1 h2
  injection h2 with h2 _
  subst h1 h2
  rfl
 | x::l,r,q0,j0,q,j,h,hj=>by
  rw[List.cons_append];rw[lookF] at h ⊢
  by_cases h0:j0=0
  ·rw[if_pos h0] at h;simp at h
  ·rw[if_neg h0] at h ⊢
   cases hn:ndI L j0 with
   | none=>
    rw[hn] at h
    simp only[Prod.mk.injEq] at h
    exact absurd h.2.1.symm hj
   | some n=>
    rw[hn] at h
    simp only at h ⊢
    by_cases hk:n.k≠1
    ·rw[if_pos hk] at h;simp at h
    ·rw[if_neg hk] at h ⊢
     exact lookF_app l r j0 _ q j h hj
theorem way_look {T:TT} (h:Rt T) {l:List ByteArray} {j:Nat} (hw:Way T.l l j):∃q,lookF T.l l 0 1=(q,j,0):=by
 induction hw with
 | root=>exact⟨0,rfl⟩
 | more hw hn he ih=>
  obtain⟨q,hq⟩:=ih
  rename_i l0 n e
  have hi:=(h.rng n hn).1;refine⟨n.i,?_⟩;rw[lookF_app _ _ _ _ _ _ hq (by omega)];unfold lookF;rw[if_neg (by omega),ndI_mem h.ord hn]
  simp only
  rw[if_neg (by rw[fine_ns (h.fin n hn) he];simp)];unfold lookF;rw[entF_is (h.fin n hn).1 he]
theorem look_of {T:TT} (h:Rt T) {g:List ByteArray} {q j:Nat} (hp:LkP T.l g q j):lookF T.l g 0 1=(q,j,0):=by
 rcases hp.here with ⟨rfl,rfl,rfl⟩|⟨l,x,n,rfl,hw,hn,hk,rfl⟩
 ·rfl
 ·obtain⟨q',hq⟩:=way_look h hw;obtain⟨h1,h2⟩:=ndI_some hn;have hi:=(h.rng n h1).1;rw[lookF_app _ _ _ _ _ _ hq (by omega)];unfold lookF;rw[if_neg (by omega),hn]
  simp only
  rw[if_neg (by rw[hk];simp)];unfold lookF
  rfl
theorem way_mono {L M:List ND} (hm:∀n∈L,∀e∈n.ns,∃m∈M,m.i=n.i∧e∈m.ns) {l:List ByteArray} {j:Nat} (hw:Way L l j):Way M l j:=by
 induction hw with
 | root=>exact .root
 | more hw hn he ih=>
  obtain⟨m,h1,h2,h3⟩:=hm _ hn _ he;rw[←h2] at ih
  exact Way.more ih h1 h3
theorem del_add {nm:ByteArray} {j:Nat} {ns:List (ByteArray×Nat)} (h:¬hasNm nm ns):delNm nm (addNm nm j ns)=ns:=by
 unfold delNm addNm;rw[List.filter_append,List.filter_cons_of_neg (by simp),←List.filter_append,List.takeWhile_append_dropWhile]
 exact List.filter_eq_self.2 fun e he=>by simp;exact fun x=>h ⟨e,he,x⟩
theorem upd_upd {L:List ND} {j:Nat} {f g:ND→ND} (hf:∀n,n.i=j→(f n).i=n.i):updI (updI L j f) j g=updI L j fun n=>g (f n):=by
 unfold updI;rw[List.map_map]
 apply List.map_congr_left
 intro n _
 simp only[Function.comp]
 by_cases h:n.i=j
 ·rw[if_pos h,if_pos h,if_pos (by rw[hf n h,h])]
 ·rw[if_neg h,if_neg h,if_neg h]
theorem upd_idem {L:List ND} {j:Nat} {f:ND→ND} (hf:∀n∈L,n.i=j→f n=n):updI L j f=L:=by
 unfold updI
 have:∀n∈L,(if n.i=j then f n else n)=n:=fun n hn=>by
  split
  ·exact hf n hn (by assumption)
  ·rfl
 rw[List.map_congr_left this];simp
theorem del_addE {L:List ND} {r:Nat} {x:ByteArray} {j:Nat} (h:∀n∈L,n.i=r→¬hasNm x n.ns):delE (addE L r x j) r x=L:=by
 unfold delE addE;rw[upd_upd (f:=fun n=>{ n with ns:=addNm x j n.ns }) (g:=fun n=>{ n with ns:=delNm x n.ns }) (fun _ _=>rfl)]
 exact upd_idem fun n hn hi=>by
  simp only
  rw[del_add (h n hn hi)]
theorem rem_ins {n:ND} {L:List ND} (h:n.i∉inos L):remI (insI n L) n.i=L:=by
 unfold remI insI;rw[List.filter_append,List.filter_cons_of_neg (by simp),←List.filter_append,List.takeWhile_append_dropWhile]
 exact List.filter_eq_self.2 fun e he=>by simp;exact fun x=>h (mem_inos.2 ⟨e,he,x⟩)
theorem do_one {T:TT} {c:AC} (h:1≤c.k∧c.k≤11) (h2:¬twoK c.k) {q j:Nat} (hp:peB c.p=0) (hl:lookF T.l (pnB c.p) 0 1=(q,j,0)):doF T c=actF T c (pnB c.p) [] q j 0 0:=by
 unfold doF;rw[if_neg (by omega),if_neg (by rw[hp];simp),if_neg (fun x=>h2 x.1),hl]
 simp only
 rw[if_neg (by simp),if_neg h2]
theorem do_one_ok {T:TT} {c:AC} (he:(doF T c).2.e=0):1≤c.k∧c.k≤11∧peB c.p=0∧∃q j,lookF T.l (pnB c.p) 0 1=(q,j,0):=by
 unfold doF at he
 split at he
 ·simp[erA] at he
 rename_i h1
 split at he
 ·rename_i h2;exact absurd he h2
 rename_i h2
 split at he
 ·rename_i h3;exact absurd he h3.2
 split at he
 ·rename_i h4;exact absurd he h4
 rename_i h4
 refine⟨by omega,by omega,by omega,(lookF T.l (pnB c.p) 0 1).1,(lookF T.l (pnB c.p) 0 1).2.1,?_⟩
 have h5:(lookF T.l (pnB c.p) 0 1).2.2=0:=by omega
 exact Prod.ext rfl (Prod.ext rfl h5)
theorem look_add {T U:TT} (hU:Rt U) {m:List ByteArray} {r v j:Nat} (hp:LkP T.l m r v) (hv:v≠1) (hm:∀n∈T.l,∀e∈n.ns,∃n'∈U.l,n'.i=n.i∧e∈n'.ns) (hr:∀n,ndI T.l r=some n→n.k=1→∃n',ndI U.l r=some n'∧n'.k=1∧(lst m,j)∈n'.ns):LkP U.l m r j:=by
 rcases hp.here with ⟨rfl,rfl,rfl⟩|⟨l,x,n,rfl,hw,hn,hk,_⟩
 ·exact absurd rfl hv
 ·obtain⟨n',h1,h2,h3⟩:=hr n hn hk;rw[lst_app] at h3
  exact⟨.inr ⟨l,x,n',rfl,way_mono hm hw,h1,h2,(entF_is (hU.fin n' (ndI_some h1).1).1 h3).symm⟩⟩
end
section
theorem make_math {T:TT} (h:Rt T) {a:ByteArray} {k r:Nat} (hk:k=2∧r=5∨k=1∧r=3) (he:(doF T ⟨k,a,ByteArray.empty,0,0,[]⟩).2.e=0):
  doF (doF T ⟨k,a,ByteArray.empty,0,0,[]⟩).1 ⟨r,a,ByteArray.empty,0,0,[]⟩=(T,erA 0)∧(doF T ⟨k,a,ByteArray.empty,0,0,[]⟩).2.i∉inos T.l ∧
  peB a=0∧pnB a=(pnB a).dropLast++[lst (pnB a)] ∧
  ∀p,peB p=0→pnB p=(pnB a).dropLast→∃N,doF (doF T ⟨k,a,ByteArray.empty,0,0,[]⟩).1 ⟨11,p,ByteArray.empty,0,0,[]⟩=((doF T ⟨k,a,ByteArray.empty,0,0,[]⟩).1,{ erA 0 with ns:=N })∧lst (pnB a)∈N∧N.length≤288:=by
 have hU:=rt_do h ⟨k,a,ByteArray.empty,0,0,[]⟩ (by simp);obtain⟨_,_,hpa,q,j,hl⟩:=do_one_ok he
 simp only at hpa hl
 have hk2:k=1∨k=2:=by omega
 have hD:=do_one (T:=T) (c:=⟨k,a,ByteArray.empty,0,0,[]⟩) (by simp only;omega) (by unfold twoK;simp only;omega) hpa hl;rw[hD] at he hU ⊢;unfold actF at he hU ⊢;rw[if_pos hk2] at he hU ⊢;unfold mkF at he hU ⊢
 by_cases hj:j≠0
 ·rw[if_pos hj] at he;simp[erA] at he
 rw[if_neg hj] at he hU ⊢
 by_cases h48:48≤T.l.length
 ·rw[if_pos h48] at he;simp[erA] at he
 rw[if_neg h48] at he hU ⊢
 obtain rfl:j=0:=by omega
 simp only at hU ⊢
 have hp:=look_ok h hl;obtain⟨d,hd⟩:=h.dep;obtain⟨l0,nr,hg,hway,hnr,hri,hrk,hre,_⟩:=hp.dir h hd (.inr (by omega));have hnone:¬hasNm (lst (pnB a)) nr.ns:=hasNm_none (h.ent_ne hnr) hre;obtain⟨hf1,hf2,_⟩:=free_ok h
 have hqf:¬q=freeI T.l:=fun e=>hf1 (by rw[←e];exact mem_inos.2 ⟨nr,hnr,hri⟩)
 have hndr:∀i,ndI (makeE T.l q (lst (pnB a)) k) i=if i=q then (ndI (insI ⟨freeI T.l,k,1,[],[]⟩ T.l) q).map (fun x=>{ x with ns:=addNm (lst (pnB a)) (freeI T.l) x.ns }) else ndI (insI ⟨freeI T.l,k,1,[],[]⟩ T.l) i:=fun i=>by
  unfold makeE addE
  exact upd_nd (f:=fun x=>{ x with ns:=addNm (lst (pnB a)) (freeI T.l) x.ns }) (fun _ _=>rfl) i
 have hins:∀i,ndI (insI ⟨freeI T.l,k,1,[],[]⟩ T.l) i=if i=freeI T.l then some ⟨freeI T.l,k,1,[],[]⟩ else ndI T.l i:=fun i=>ins_nd (n:=⟨freeI T.l,k,1,[],[]⟩) hf1 i
 have hmono:∀x∈T.l,∀e∈x.ns,∃n'∈makeE T.l q (lst (pnB a)) k,n'.i=x.i∧e∈n'.ns:=by
  intro x hx e hex
  have hx1:x∈insI ⟨freeI T.l,k,1,[],[]⟩ T.l:=mem_ins.2 (.inr hx);unfold makeE addE
  rcases mem_updE (j:=q) (f:=fun x=>{ x with ns:=addNm (lst (pnB a)) (freeI T.l) x.ns }) hx1 with ⟨_,hh⟩|⟨_,hh⟩
  ·exact⟨x,hh,rfl,hex⟩
  ·exact⟨_,hh,rfl,by rw[mem_add];exact .inr hex⟩
 have hnq:∃n',ndI (makeE T.l q (lst (pnB a)) k) q=some n'∧n'.k=1∧(lst (pnB a),freeI T.l)∈n'.ns:=by
  rw[hndr,if_pos rfl,hins,if_neg hqf,←hri,ndI_mem h.ord hnr]
  exact⟨_,rfl,hrk,by rw[mem_add];exact .inl rfl⟩
 have hpU:LkP (makeE T.l q (lst (pnB a)) k) (pnB a) q (freeI T.l):=look_add (T:=T) (U:=⟨T.p,makeE T.l q (lst (pnB a)) k⟩) hU hp (by omega) hmono fun _ _ _=>hnq
 have hlU:=look_of hU hpU
 have hn2:ndI (makeE T.l q (lst (pnB a)) k) (freeI T.l)=some ⟨freeI T.l,k,1,[],[]⟩:=by
  rw[hndr,if_neg (fun e=>hqf e.symm),hins,if_pos rfl]
 have hlose:loseE (makeE T.l q (lst (pnB a)) k) q (lst (pnB a)) (freeI T.l) 1=T.l:=by
  unfold loseE makeE;rw[if_pos rfl,del_addE]
  ·exact rem_ins (n:=⟨freeI T.l,k,1,[],[]⟩) hf1
  ·intro x hx hxi
   rcases mem_ins.1 hx with rfl|hx
   ·exact absurd hxi.symm hqf
   ·rw[nd_uniq h.ord hx hnr (by omega)];exact hnone
 refine⟨?_,hf1,hpa,?_,?_⟩
 ·rw[do_one (T:=⟨T.p,makeE T.l q (lst (pnB a)) k⟩) (c:=⟨r,a,ByteArray.empty,0,0,[]⟩) (by simp only;omega) (by unfold twoK;simp only;omega) hpa hlU];unfold actF;rw[if_neg (by simp only;omega),if_neg (by omega)]
  show (match ndI (makeE T.l q (lst (pnB a)) k) (freeI T.l) with|none=>_|some n=>_)=_
  rw[hn2]
  simp only
  rcases hk with ⟨rfl,rfl⟩|⟨rfl,rfl⟩
  ·rw[if_neg (by decide),if_neg (by decide),if_pos rfl];unfold ulF;rw[if_neg (by simp)]
   simp only
   rw[hlose]
  ·rw[if_pos rfl];unfold rmF;rw[if_neg (by simp),if_neg (by omega),if_neg (by simp)]
   simp only
   rw[hlose]
 ·have h5:(pnB a).dropLast=l0:=by rw[hg,List.dropLast_concat]
  rw[h5];exact hg
 ·intro p hpp hpd
  obtain⟨n',hn',hk',hm'⟩:=hnq
  have hwU:Way (makeE T.l q (lst (pnB a)) k) (pnB p) q:=by
   have h5:pnB p=l0:=by rw[hpd,hg,List.dropLast_concat]
   rw[h5]
   exact way_mono hmono hway
  obtain⟨q',hq'⟩:=way_look (T:=⟨T.p,makeE T.l q (lst (pnB a)) k⟩) hU hwU;refine⟨n'.ns.map (·.1),?_,List.mem_map.2 ⟨_,hm',rfl⟩,by rw[List.length_map];exact hU.ns_le (ndI_some hn').1⟩;rw[do_one (T:=⟨T.p,makeE T.l q (lst (pnB a)) k⟩) (c:=⟨11,p,ByteArray.empty,0,0,[]⟩) (by simp) (by unfold twoK;simp) hpp hq']
  have hq0:¬q=0:=by have:=(h.rng nr hnr).1;omega
  unfold actF;rw[if_neg (by simp),if_neg hq0]
  show (match ndI (makeE T.l q (lst (pnB a)) k) q with|none=>_|some n=>_)=_
  rw[hn']
  simp only
  rw[if_neg (by decide),if_neg (by decide),if_neg (by decide),if_neg (by decide),if_neg (by decide),if_pos trivial];unfold lsF;rw[if_neg (by omega)]
theorem split_facts {a:ByteArray} (h0:peB a=0) (hd:pnB a=(pnB a).dropLast++[lst (pnB a)]):
  sE a.data.toList=0∧(⟨(sN a.data.toList).toArray⟩:ByteArray)=lst (pnB a)∧jE (sD a.data.toList)=0∧peB ⟨(jS (sD a.data.toList)).toArray⟩=0∧pnB ⟨(jS (sD a.data.toList)).toArray⟩=(pnB a).dropLast ∧
   (⟨(jS (sD a.data.toList)).toArray⟩:ByteArray).size≤1048576∧(sD a.data.toList).length≤6∧∀x∈sD a.data.toList,x.length≤12:=by
 have h0:pE a.data.toList=0:=h0;have hp:pnB a=(pN a.data.toList).map baL:=rfl;generalize a.data.toList=l at *;rw[hp] at hd ⊢
 have hne:pN l≠[]:=fun e=>by rw[e] at hd;simp at hd
 have hsE:sE l=0:=by unfold sE;rw[if_neg (fun x=>hne x.2)];exact h0
 have hsD:sD l=(pN l).dropLast:=by unfold sD;rw[if_pos hsE]
 have hall:((pN l).dropLast).all nameL=true:=List.all_eq_true.2 fun x hx=>List.all_eq_true.1 pN_names x ((List.dropLast_sublist _).subset hx)
 have hlen:(pN l).dropLast.length≤6:=by have:=pN_le l;rw[List.length_dropLast];omega
 have hj:jE (sD l)=0:=by
  rw[hsD];unfold jE;rw[if_pos hall,if_neg (by omega)]
 have hb:=names_back hj;refine⟨hsE,?_,hj,?_,?_,?_,by rw[hsD];exact hlen,fun x hx=>by rw[hsD] at hx;exact (name_ne (List.all_eq_true.1 hall x hx)).2.1⟩
 ·unfold sN;rw[if_pos hsE]
  rcases List.eq_nil_or_concat (pN l) with e|⟨r,x,e⟩
  ·exact absurd e hne
  ·rw[e];unfold lst baL
   simp
 ·exact hb.1
 ·show (pN (jS (sD l))).map baL=_
  rw[hb.2,hsD,List.map_dropLast]
 ·show (jS (sD l)).toArray.size≤1048576
  unfold jS;rw[if_pos hj,List.size_toArray,hsD]
  by_cases hg:(pN l).dropLast=[]
  ·rw[hg];simp[Lib.join]
  ·rw[←tail_join hg]
   have:=tail_le _ hall
   omega
end
end Go.Proofs.YtjjamoemheljdaaGreat

namespace Go.Proofs.YtjjamoemheljdaaGreat.modelMakes
set_option linter.unusedSimpArgs false
set_option linter.unusedVariables false
open Go.ChangeShapes Go.WideShapes Go.ChangeAt Go.RowKit
theorem own:ownKnob Tryz.prog.godebug=none:=by kernel_rfl
theorem laidOut:laidOutB Tryz.prog=true:=by kernel_rfl
set_option maxRecDepth 100000 in
set_option maxHeartbeats 6400000 in
theorem walk (A:Option Addr) (n c:Nat) (al:List AC) (a:ByteArray) (dir:Bool) (w:World) (hl:ActsC w A n al) (_:n≤c) (_:c≤maxLen) (ha:a.size≤1048576) (_:True):
  Calls Tryz.prog 8 #[.slice A n c,.string a,.bool dir] w (True1 w):=by
 have HSA:=jH ha;clear ha
 have HRT:Hid (Rt (playT (al.take 30))):=playT_rt fun x hx=>hl.byt x (List.mem_of_mem_take hx)
 obtain⟨T9,hT9⟩:∃T9,T9=playT (al.take 30):=⟨_,rfl⟩
 have HE:Hid ((⟨32,T9.l⟩:TT)=T9):=by rw[hT9];exact playT_eta _
 have H32:Hid (T9.p=32):=by rw[hT9];exact playT_p _
 have CP:=jH (mplayed_yes A n c al w hl);rw[←hT9] at CP HRT;clear hT9;clear hl
 go_enter Tryz.func8,Tryz.ntmps8
 go_wp2_with fail
 refine CP.out.mono ?_;rintro e w2 ⟨A3,c3,es3,rfl,hL3,hO3,hN3⟩;clear CP;have N1:Hid (New w w):=jH kR
 obtain⟨w3,g3,hZ,hg,k3,hB3,hT3⟩:∃w3 g3,w2.alloc (.cells #[.int .i64 32,.slice A3 es3.length c3] 25)=w3∧w2.heap.size=g3∧New w2 w3∧TBx w w3 g3 T9.l A3 es3.length c3∧LT w w3 g3 32 T9.l:=by
  have hk:=(Kept.refl (fun _=>False) w2).alloc (.cells #[.int .i64 32,.slice A3 es3.length c3] 25);have hO4:=(hO3.mono N1.out.size).new hk
  exact⟨_,_,rfl,rfl,hk,⟨Blk.made w2 _ _,es3,hO4,rfl,hL3⟩,A3,c3,es3,Blk.made w2 _ _,hO4,hL3,(N1.out.new hN3).new hk,(N1.out.new hN3).size⟩
 have HB3:=jH hB3;have HT3:=jH hT3;have HN:=jH ((N1.out.new hN3).new k3);clear hB3 hT3 hL3 hO3;clear hN3 k3 N1
 have HRL:Hid (Rt ⟨32,T9.l⟩):=by rw[HE.out];exact HRT
 go_upto_if 24 with fail
 go_cut [8,9] (fun k r wx=>∃kk rr:Nat,(kk=2∧rr=5∨kk=1∧rr=3)∧k=.int .u8 kk∧r=.int .u8 rr∧wx=w3)
 case first=>
  cases dir
  all_goals
   go_wp2_with fail
   go_meet
   case rel=>
    first
     | exact⟨2,5,.inl ⟨rfl,rfl⟩,rfl,rfl,rfl⟩
     | exact⟨1,3,.inr ⟨rfl,rfl⟩,rfl,rfl,rfl⟩
 case rest=>
  obtain⟨kk,rr,hkk,rfl,rfl,hw⟩:=hcut;rw[hw];clear hw;have hb:=HB3.out;clear HB3;have b0:=hb.c0;have b1:=hb.c1;have hlt:=hb.lt;have CD:=jH (hb.do_ HRL.out kR kk a (⟨#[]⟩:ByteArray) 0 0 none 0 0 [] HSA.out (by decide) (Bts.nil _ _) (by decide));clear hb;obtain⟨Re,hRe⟩:∃r,r=doF ⟨32,T9.l⟩ ⟨kk,a,(⟨#[]⟩:ByteArray),0,0,[]⟩:=⟨_,rfl⟩;rw[←hRe] at CD;have HRe:=jH hRe;clear hRe
  go_upto_region 6 with (go_at_call 16;refine CD.out.mono ?_;rintro e we ⟨A3,c3,es3,B3,d3,T3,t3,rfl,hL3,hO3,hB3,hX3,hK3,hA3⟩)
  clear hZ hg;have hQ:=jH (two_box (t3:=t3) HN.out hL3 hO3 hB3 hX3 hK3 hA3);clear hL3 hO3 hB3 hX3 hK3 hA3 CD b0 b1 hlt;obtain⟨w4,gu,gae,hZ,hg,hg2,hk,hT,hA⟩:=hQ.out;rw[hZ,hg,hg2];clear hZ hg hg2 hQ;have HTu:=jH hT;have HAe:=jH hA
  replace HN:=jH (HN.out.new hk)
  clear hT hA
  replace HT3:=jH (HT3.out.new hk)
  clear hk
  have HDRe:Hid (Re=doF T9 ⟨kk,a,ByteArray.empty,0,0,[]⟩):=jH (by rw[HRe.out,HE.out]<;>rfl)
  have HERe:Hid ((⟨32,Re.1.l⟩:TT)=Re.1):=jH (by
   have h1:=do_eta T9 ⟨kk,a,ByteArray.empty,0,0,[]⟩;rw[H32.out] at h1
   rw[HDRe.out,h1])
  have HRTRe:Hid (Rt Re.1):=jH (by rw[HDRe.out];exact rt_do HRT.out ⟨kk,a,ByteArray.empty,0,0,[]⟩ (by simp));have H32Re:Hid (Re.1.p=32):=jH (by rw[HDRe.out,do_p];exact H32.out);have HRLRe:Hid (Rt ⟨32,Re.1.l⟩):=jH (by rw[HERe.out];exact HRTRe.out);obtain⟨_,_,_,_,hA⟩:=HAe.out.bx;have e0:=hA.c0;have elt:=hA.lt;clear hA
  by_cases he:Re.2.e≠0
  ·have d0:decide (((Re.2.e:Nat):Int)=0)=false:=decide_eq_false (by omega);have HSM:Hid (Re.1.l=T9.l):=jH (by rw[HDRe.out] at he ⊢;rw[do_same (.inl he)]);obtain⟨A1,n1,c1,hS⟩:=HT3.out.bx;obtain⟨A2,n2,c2,hU⟩:=HTu.out.bx;have s0:=hS.c0;have s1:=hS.c1;have slt:=hS.lt;have u0:=hU.c0;have u1:=hU.c1;have ult:=hU.lt;rw[HSM.out] at hU;have CS:=jH (hS.same hU HRL.out kR kR);clear hS hU
   go_wp2_with fail
   refine CS.out.mono ?_;rintro e wx ⟨rfl,hkx⟩;have HNx:=jH (HN.out.new hkx);clear hkx CS s0 s1 slt u0 u1 ult
   go_wp2_with fail
   refine (mlives_any _).mono ?_;rintro e wy ⟨rfl,hky⟩;have HNy:=jH (HNx.out.new hky);clear hky
   go_wp2_with fail
   try simp only[Exit.then]
   refine bodyPost_ret (by simp[results,Tryz.results8,go_sem];try rfl) rfl ?_
   exact⟨rfl,HNy.out⟩
  have he0:Re.2.e=0:=by omega
  rw[he0] at e0;obtain⟨m1,m2,m3,m4,m5⟩:=make_math (T:=T9) HRT.out (a:=a) (k:=kk) (r:=rr) hkk (by rw[←HDRe.out];exact he0);rw[←HDRe.out] at m1 m2;have M1:=jH m1;have M2:=jH m2;have M3:=jH m3;have M4:=jH m4
  have M5:Hid (∀p,peB p=0→pnB p=(pnB a).dropLast→∃N,doF Re.1 ⟨11,p,ByteArray.empty,0,0,[]⟩=(Re.1,{ erA 0 with ns:=N })∧lst (pnB a)∈N∧N.length≤288):=by rw[HDRe.out];exact m5
  clear m1 m2 m3 m4 m5;clear he;obtain⟨A1,n1,c1,hb⟩:=HTu.out.bx;have b0:=hb.c0;have b1:=hb.c1;have hlt:=hb.lt;have CD:=jH (hb.do_ HRLRe.out kR rr a (⟨#[]⟩:ByteArray) 0 0 none 0 0 [] HSA.out (by decide) (Bts.nil _ _) (by decide));clear hb;obtain⟨Rf,hRf⟩:∃r,r=doF ⟨32,Re.1.l⟩ ⟨rr,a,(⟨#[]⟩:ByteArray),0,0,[]⟩:=⟨_,rfl⟩;rw[←hRf] at CD;have HRf:=jH hRf;clear hRf
  go_upto_region 9 with (go_at_call 16;refine CD.out.mono ?_;rintro e we ⟨A3,c3,es3,B3,d3,T3,t3,rfl,hL3,hO3,hB3,hX3,hK3,hA3⟩)
  have hQ:=jH (two_box (t3:=t3) HN.out hL3 hO3 hB3 hX3 hK3 hA3);clear hL3 hO3 hB3 hX3 hK3 hA3 CD b0 b1 hlt;obtain⟨w5,gv,gaf,hZ,hg,hg2,hk,hT,hA⟩:=hQ.out;rw[hZ,hg,hg2];clear hZ hg hg2 hQ;have HTv:=jH hT;have HAf:=jH hA
  replace HN:=jH (HN.out.new hk)
  clear hT hA
  replace HT3:=jH (HT3.out.new hk)
  replace HTu:=jH (HTu.out.new hk)
  replace HAe:=jH (HAe.out.new hk)
  clear e0 elt;clear hk;obtain⟨q1,q2,q3,q4,q5,q6,q7,q8⟩:=split_facts M3.out M4.out
  have hq8:∀x∈sD a.data.toList,x.length≤maxLen:=fun x hx=>by have:=q8 x hx;unfold maxLen;omega
  have CSP:Hid (Calls Tryz.prog 26 #[.string a] w5 (fun e w'=>∃A c,e=.returned (.tuple #[.slice A (sD a.data.toList).length c,.string (lst (pnB a)),.int .i64 0])∧Txs w' A (sD a.data.toList).length (sD a.data.toList)∧New w5 w')):=
   jH ((rsplit_any a w5 HSA.out).mono fun e w' ⟨A,c,he,hx,_,hk⟩=>⟨A,c,by rw[he,q1,q2];rfl,hx,hk⟩)
  have CJ:Hid (∀A c u,Txs u A (sD a.data.toList).length (sD a.data.toList)→Calls Tryz.prog 27 #[.slice A (sD a.data.toList).length c] u (fun e w'=>e=.returned (.tuple #[.string ⟨(jS (sD a.data.toList)).toArray⟩,.int .i64 0])∧New u w')):=
   jH (fun A c u hx=>(rjoin_any A _ c _ u hx (by unfold maxLen;omega) hq8).mono fun e w' ⟨he,hk⟩=>⟨by rw[he,q3];rfl,hk⟩)
  obtain⟨N,hN1,hN2,hN3⟩:=M5.out _ q4 q5;have HPS:=jH q6;clear q1 q2 q3 q4 q5 q6 q7 q8 hq8;generalize sD a.data.toList=gD at *;generalize (⟨(jS gD).toArray⟩:ByteArray)=pp at *;obtain⟨nm,hnm⟩:∃nm,lst (pnB a)=nm:=⟨_,rfl⟩;rw[hnm] at CSP hN2;clear hnm M5;have HL1:=jH hN1;have HL2:=jH hN2;have HL3:=jH hN3;clear hN1 hN2 hN3
  go_upto_region 10 with (first|(go_at_call 26;refine CSP.out.mono ?_;rintro e w6 ⟨Ad,cd,rfl,hTx,hk⟩))
  replace HN:=jH (HN.out.new hk)
  replace HT3:=jH (HT3.out.new hk)
  replace HTu:=jH (HTu.out.new hk)
  replace HTv:=jH (HTv.out.new hk)
  replace HAe:=jH (HAe.out.new hk)
  replace HAf:=jH (HAf.out.new hk)
  have HJ:=jH (CJ.out Ad cd w6 hTx);clear hTx hk CSP CJ
  go_upto_region 13 with (first|(go_at_call 27;refine HJ.out.mono ?_;rintro e w7 ⟨rfl,hk⟩))
  replace HN:=jH (HN.out.new hk)
  replace HT3:=jH (HT3.out.new hk)
  replace HTu:=jH (HTu.out.new hk)
  replace HTv:=jH (HTv.out.new hk)
  replace HAe:=jH (HAe.out.new hk)
  replace HAf:=jH (HAf.out.new hk)
  clear hk HJ;obtain⟨A1,n1,c1,hb⟩:=HTu.out.bx;have b0:=hb.c0;have b1:=hb.c1;have hlt:=hb.lt;have CD:=jH (hb.do_ HRLRe.out kR 11 pp (⟨#[]⟩:ByteArray) 0 0 none 0 0 [] HPS.out (by decide) (Bts.nil _ _) (by decide));clear hb;obtain⟨Rli,hRli⟩:∃r,r=doF ⟨32,Re.1.l⟩ ⟨11,pp,(⟨#[]⟩:ByteArray),0,0,[]⟩:=⟨_,rfl⟩;rw[←hRli] at CD;have HRli:=jH hRli;clear hRli
  go_upto_region 14 with (go_at_call 16;refine CD.out.mono ?_;rintro e we ⟨A3,c3,es3,B3,d3,T3,t3,rfl,hL3,hO3,hB3,hX3,hK3,hA3⟩)
  have hQ:=jH (two_box (t3:=t3) HN.out hL3 hO3 hB3 hX3 hK3 hA3);clear hL3 hO3 hB3 hX3 hK3 hA3 CD b0 b1 hlt;obtain⟨w8,gq,gali,hZ,hg,hg2,hk,hT,hA⟩:=hQ.out;rw[hZ,hg,hg2];clear hZ hg hg2 hQ;have HTq:=jH hT;have HAli:=jH hA
  replace HN:=jH (HN.out.new hk)
  clear hT hA
  replace HT3:=jH (HT3.out.new hk)
  replace HTu:=jH (HTu.out.new hk)
  replace HTv:=jH (HTv.out.new hk)
  replace HAe:=jH (HAe.out.new hk)
  replace HAf:=jH (HAf.out.new hk)
  clear hk
  have hli:Rli.2.ns=N:=by
   have h1:Rli=doF Re.1 ⟨11,pp,ByteArray.empty,0,0,[]⟩:=by rw[HRli.out,HERe.out]<;>rfl
   rw[h1,HL1.out]
  obtain⟨_,_,Tn,tn,hA⟩:=HAli.out.bx;have HLI:=jH hA;have HLN:=jH hli;clear hA hli
  go_wp2_with fail
  go_loopw [20,21] (fun h i wx=>∃(k:Nat) (bb:Bool),k≤N.length∧h=.bool bb∧i=.int .i64 k∧(bb=true↔nm∈N.take k)∧Hid (New w8 wx)) (fun _ i _=>N.length - (intOf i).toNat)
  case atStart=>exact⟨0,false,Nat.zero_le _,rfl,rfl,by simp,kR⟩
  case round=>
   obtain⟨k,bb,hk,rfl,rfl,hb,hkr⟩:=hrel;have h288:=HL3.out;have l7:=(HLI.out.new hkr.out).c7;have llt:=(HLI.out.new hkr.out).lt
   have hx7:Txs wr Tn N.length (N.map (·.data.toList)):=by
    have:=(HLI.out.new hkr.out).2.2.1
    unfold AN.g at this
    rwa [HLN.out] at this
   rw[HLN.out] at l7
   by_cases hlt:k < N.length
   ·have hl1:((k:Nat):Int) < ((N.length:Nat):Int):=by omega
    have hk2:Hid (k+1≤N.length):=hlt;obtain⟨bT,oT,x,rfl,hx,hxc⟩:=hx7.at_ hlt;obtain⟨y,hy⟩:∃y,N[k]?=some y:=⟨_,List.getElem?_eq_getElem hlt⟩
    have hxy:(⟨x.toArray⟩:ByteArray)=y:=by
     rw[List.getElem?_map,hy] at hx
     injection hx with hx
     rw[←hx]
    rw[hxy] at hxc
    have htk:N.take (k+1)=N.take k++[y]:=by rw[List.take_add_one,hy];rfl
    clear hx7 hx hxy
    cases bb
    ·have hbn:nm∉N.take k:=fun h=>by simpa using hb.2 h
     by_cases hyn:y=nm
     ·subst hyn;have hb2:Hid (true=true↔y∈N.take (k+1)):=jH (by rw[htk];simp);clear hb hbn htk hy
      go_wp2_with fail
      go_roundw
      case rel=>exact⟨k+1,true,hk2.out,rfl,by go_num,hb2.out,hkr⟩
      case measure=>have:=hk2.out;simp[intOf];omega
     ·have dn:(y.toList == nm.toList)=false:=by rw[bs_eq];exact decide_eq_false hyn
      have hb2:Hid (false=true↔nm∈N.take (k+1)):=jH (by rw[htk];simp[hbn];exact fun h=>hyn h.symm);clear hb hbn htk hy
      go_wp2_with fail
      go_roundw
      case rel=>exact⟨k+1,false,hk2.out,rfl,by go_num,hb2.out,hkr⟩
      case measure=>have:=hk2.out;simp[intOf];omega
    ·have hb2:Hid (true=true↔nm∈N.take (k+1)):=jH (by rw[htk];have:=hb.1 rfl;simp[this]);clear hb htk hy hxc
     go_wp2_with fail
     go_roundw
     case rel=>exact⟨k+1,true,hk2.out,rfl,by go_num,hb2.out,hkr⟩
     case measure=>have:=hk2.out;simp[intOf];omega
   ·have hl1:¬((k:Nat):Int) < ((N.length:Nat):Int):=by omega
    have hbt:bb=true:=hb.2 (by rw[List.take_of_length_le (by omega)];exact HL2.out);subst hbt;clear hb hx7;obtain⟨A1,n1,c1,hS⟩:=HT3.out.bx;obtain⟨A2,n2,c2,hV⟩:=HTv.out.bx
    have hvl:Rf.1.l=T9.l∧Rf.2.e=0:=by
     have h1:Rf=doF Re.1 ⟨rr,a,ByteArray.empty,0,0,[]⟩:=by rw[HRf.out,HERe.out]<;>rfl
     rw[h1,M1.out]
     exact⟨rfl,rfl⟩
    rw[hvl.1] at hV;obtain⟨_,_,_,_,hA⟩:=HAe.out.bx;have HEe:=jH hA;obtain⟨_,_,_,_,hA⟩:=HAf.out.bx;have HFe:=jH hA;have HF0:=jH hvl.2;clear hA hvl;have HS:=jH hS;have HV:=jH hV;clear hS hV;have e1:=(HEe.out.new hkr.out).c1;have elt:=(HEe.out.new hkr.out).lt;have s0:=(HS.out.new hkr.out).c0;have s1:=(HS.out.new hkr.out).c1;have slt:=(HS.out.new hkr.out).lt
    have CN:Hid (Calls Tryz.prog 25 #[.agg #[.int .i64 32,.slice A1 n1 c1],.int .i64 ((Re.2.i:Nat):Int)] wr (NewNum wr (-1))):=jH (by
     have:=HS.out.node HRL.out hkr.out Re.2.i
     have hno:noI T9.l Re.2.i=-1:=by unfold noI;rw[ndI_none.2 M2.out]
     rwa [hno] at this)
    have HNf:=jH (HN.out.new hkr.out)
    go_wp2_with fail
    refine CN.out.mono ?_;rintro e wa ⟨rfl,hka⟩;have HKa:=jH (hkr.out.new hka);have HNa:=jH (HNf.out.new hka);have f0:=(HFe.out.new HKa.out).c0;have flt:=(HFe.out.new HKa.out).lt;rw[HF0.out] at f0;have t0:=(HS.out.new HKa.out).c0;have t1:=(HS.out.new HKa.out).c1;have tlt:=(HS.out.new HKa.out).lt;have v0:=(HV.out.new HKa.out).c0;have v1:=(HV.out.new HKa.out).c1;have vlt:=(HV.out.new HKa.out).lt;have CS:=jH (HS.out.same HV.out HRL.out HKa.out HKa.out);clear hka CN e1 elt s0 s1 slt l7 llt
    go_wp2_with fail
    refine CS.out.mono ?_;rintro e wb ⟨rfl,hkb⟩;have HNb:=jH (HNa.out.new hkb);clear hkb CS f0 flt t0 t1 tlt v0 v1 vlt
    go_wp2_with fail
    refine (mlives_any _).mono ?_;rintro e wc ⟨rfl,hkc⟩;have HNc:=jH (HNb.out.new hkc);clear hkc
    go_wp2_with fail
    try simp only[Exit.then]
    refine bodyPost_ret (by simp[results,Tryz.results8,go_sem];try rfl) rfl ?_
    exact⟨rfl,HNc.out⟩
set_option maxRecDepth 100000 in
theorem lifted (os:Os) (started:os.Started) (H:Type) (enc:TypeId×Value→H) (F:Stop.Interp):
  ReturnsInHanded {} Tryz.checked os 8 .any ((Rows.OpenSpec.upto Rows.modelMakesSpec).pre6 enc Tryz.prog Tryz.f8 Rows.modelMakesUptoRow.domain false) (((Rows.OpenSpec.upto Rows.modelMakesSpec).at F).post enc Tryz.prog Tryz.f8 false true false false):=by
 refine lift_upto (C:=Tryz.checked) (s:=Rows.modelMakesSpec) (tb:=4) own started (by kernel_rfl) Tryz.func8
  (OpenSpec.witness (enc:=enc) (C:=Tryz.checked) (s:=Rows.OpenSpec.upto Rows.modelMakesSpec) (k:=Rows.uptoSmall) rfl false ⟨#[],#[.slice none 0 0,.string .empty,.bool false],[]⟩ 8 (by kernel_rfl) (by kernel_rfl) (by kernel_rfl)
   (x:=([.nil,.lit (.string []),.lit (.bool false)],[],[])) (by kernel_rfl) rfl (by kernel_rfl))
  rfl (by kernel_rfl) Tryz.underlying4 ?_ laidOut (of_decide_eq_true (by kernel_rfl)) ?_
 ·intro ds hd
  match ds,hd with
  | [d0,d1,d2],_=>exact⟨rfl,rfl,rfl⟩
 ·intro W base args ds hA hk
  have hA:Args enc Tryz.prog W base Tryz.f8.params.toList args.toList ds:=hA;rw[Tryz.params8] at hA;obtain⟨v0,vs0,d0,ds0,p0,hargs,rfl,a0,hA⟩:=hA.cons_;obtain⟨v1,vs1,d1,ds1,p1,rfl,rfl,a1,hA⟩:=hA.cons_;obtain⟨v2,vs2,d2,ds2,p2,rfl,rfl,a2,hA⟩:=hA.cons_;obtain⟨rfl,rfl⟩:=hA.nil_
  obtain rfl:args=#[v0,v1,v2]:=by cases args;simp_all
  obtain⟨A0,n0,c0,l0,rfl,b0,k0,m0⟩:=a0.actsC_ (bulk_at hk (by simp));obtain⟨x1,rfl,rfl,b1⟩:=a1.string_ Tryz.underlying9;obtain⟨x2,rfl⟩:=a2.bool_ Tryz.underlying4
  exact walk A0 n0 c0 l0 x1 x2 W b0 k0 m0 (str_bulk (bulk_at hk (by simp))) (bulk_ok hk)
theorem proved:Rows.ModelMakesUptoSaid:=
 OpenClaim.holds_of_cond 8 Tryz.f8 rfl rfl rfl rfl rfl rfl rfl ⟨rfl,rfl,rfl,rfl,rfl⟩ rfl rfl rfl rfl rfl (by kernel_rfl) Tryz.func8 (by kernel_rfl)
  (of_decide_eq_true (by kernel_rfl)) (by unfold Func.isWrapper;first|(rw[if_pos (by decide +kernel)];kernel_rfl)|(rw[if_neg (by decide +kernel)];exact⟨rfl,rfl⟩))
  (fun os started H enc _ F=>lifted os started H enc F)
end Go.Proofs.YtjjamoemheljdaaGreat.modelMakes
