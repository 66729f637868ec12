/-
  Layer 7: contracts (Mk).
-/
import Derived.Test.YtbiihjdjbknibaaGreatC30
namespace Go.Proofs.YtbiihjdjbknibaaGreat
set_option maxRecDepth 100000
set_option maxHeartbeats 8000000
set_option linter.unusedSimpArgs false
set_option linter.unusedVariables false
section
set_option maxRecDepth 100000
open Go.RowKit
theorem plN_cons_lt {f:FT} {r:List FT} {k:KY} (h:befK f.k k=true):plN (f::r) k=plN r k+1:=by
 unfold plN;rw[List.takeWhile_cons,if_pos h]
 rfl
theorem plN_cons_ge {f:FT} {r:List FT} {k:KY} (h:befK f.k k=false):plN (f::r) k=0:=by
 unfold plN;rw[List.takeWhile_cons,h]
 rfl
theorem filt_lt {l:List FT} {k:KY} (h:ordF l=true):l.filter (fun f=>befK f.k k)=l.take (plN l k):=by
 induction l with
 | nil=>rfl
 | cons f r ih=>
  obtain⟨h1,h2⟩:=ordF_cons.1 h;rw[List.filter_cons]
  cases hb:befK f.k k with
  | true=>
   rw[if_pos rfl,plN_cons_lt hb,List.take_succ_cons,ih h2]
  | false=>
   rw[if_neg (by simp),plN_cons_ge hb,List.take_zero]
   refine List.filter_eq_nil_iff.2 fun x hx hc=>?_
   rw[befK_trans (h1 x hx) (by simpa using hc)] at hb;cases hb
theorem filt_gt {l:List FT} {k:KY} (h:ordF l=true):l.filter (fun f=>befK k f.k)=l.drop (plN l k+if plB l k then 1 else 0):=by
 induction l with
 | nil=>rfl
 | cons f r ih=>
  obtain⟨h1,h2⟩:=ordF_cons.1 h;rw[List.filter_cons]
  cases hb:befK f.k k with
  | true=>
   have hp:plB (f::r) k=plB r k:=by unfold plB;rw[plN_cons_lt hb];rfl
   rw[befK_anti hb,if_neg (by simp),hp,plN_cons_lt hb,Nat.add_right_comm,List.drop_succ_cons,ih h2]
  | false=>
   have hp:plB (f::r) k=decide (f.k=k):=by unfold plB;rw[plN_cons_ge hb];rfl
   rw[hp,plN_cons_ge hb]
   by_cases e:f.k=k
   ·subst e;rw[befK_irr];simp only[Bool.false_eq_true,if_false,decide_true,if_true,Nat.zero_add,List.drop_succ_cons,List.drop_zero]
    exact List.filter_eq_self.2 fun x hx=>h1 x hx
   ·have hk:befK k f.k=true:=by
     rcases befK_tri f.k k with h3|h3|h3
     ·rw[hb] at h3;cases h3
     ·exact absurd h3 e
     ·exact h3
    rw[hk,decide_eq_false e];simp only[if_true,Bool.false_eq_true,if_false,Nat.add_zero,List.drop_zero];rw[List.filter_eq_self.2 fun x hx=>befK_trans hk (h1 x hx)]
def stepA (s:List FT×List FT) (c:CT):List FT×List FT:=
 (s.1++s.2.take (plN s.2 c.k)++(if c.g then [] else [⟨c.k,c.v⟩]),s.2.drop (plN s.2 c.k+if plB s.2 c.k then 1 else 0))
def runA (l:List FT) (cs:List CT):List FT×List FT:=cs.foldl stepA ([],l)
theorem runA_more (l:List FT) (cs:List CT) (c:CT):runA l (cs++[c])=stepA (runA l cs) c:=by unfold runA;rw[List.foldl_append];rfl
theorem plB_lt {l:List FT} {k:KY} (h:plB l k=true):plN l k < l.length:=by
 unfold plB at h
 cases hx:l[plN l k]? with
 | none=>rw[hx] at h;cases h
 | some x=>exact (List.getElem?_eq_some_iff.1 hx).1
theorem runA_len (l:List FT) (cs:List CT):(runA l cs).1.length+(runA l cs).2.length≤l.length+cs.length:=by
 suffices h:∀(cs:List CT) (s:List FT×List FT),(cs.foldl stepA s).1.length+(cs.foldl stepA s).2.length≤s.1.length+s.2.length+cs.length by
  have:=h cs ([],l)
  simpa [runA] using this
 intro cs
 induction cs with
 | nil=>intro s;simp
 | cons c r ih=>
  intro s;have h:=ih (stepA s c)
  have h2:(stepA s c).1.length+(stepA s c).2.length≤s.1.length+s.2.length+1:=by
   unfold stepA;simp only[List.length_append,List.length_take,List.length_drop]
   have:(if c.g then [] else [(⟨c.k,c.v⟩:FT)]).length≤1:=by split<;>simp
   have:=plN_le s.2 c.k
   omega
  rw[List.foldl_cons,List.length_cons];omega
theorem ord_drop {l:List FT} (h:ordF l=true) (k:Nat):ordF (l.drop k)=true:=by
 have:=List.take_append_drop k l
 rw[←this] at h;exact (ordF_append.1 h).2.1
theorem runA_ord {l:List FT} (h:ordF l=true) (cs:List CT):ordF (runA l cs).2=true:=by
 suffices hh:∀(cs:List CT) (s:List FT×List FT),ordF s.2=true→ordF (cs.foldl stepA s).2=true from hh cs ([],l) h
 intro cs
 induction cs with
 | nil=>intro s hs;exact hs
 | cons c r ih=>intro s hs;exact ih _ (ord_drop hs _)
def ordS:List CT→Prop
 | []=>True
 | c::r=>(∀d∈r,befK c.k d.k=true)∧ordS r
theorem ordS_append:∀{a b:List CT},ordS (a++b)→ordS a∧ordS b∧∀x∈a,∀y∈b,befK x.k y.k=true
 | [],b,h=>⟨trivial,h,by simp⟩
 | c::a,b,h=>by
  obtain⟨h1,h2⟩:=h;obtain⟨h3,h4,h5⟩:=ordS_append h2;refine⟨⟨fun d hd=>h1 d (List.mem_append_left _ hd),h3⟩,h4,fun x hx y hy=>?_⟩
  rcases List.mem_cons.1 hx with rfl|hx
  ·exact h1 y (List.mem_append_right _ hy)
  ·exact h5 x hx y hy
theorem runA_ap {l:List FT} (h:ordF l=true) (cs:List CT) (hs:ordS cs):(runA l cs).1++(runA l cs).2=apF l cs:=by
 suffices hh:∀(n:Nat) (cs:List CT),cs.length=n→ordS cs→(runA l cs).1++(runA l cs).2=apF l cs∧∀f∈(runA l cs).1,∃d∈cs,befK d.k f.k=false from (hh cs.length cs rfl hs).1
 intro n
 induction n with
 | zero=>
  intro cs hc _;obtain rfl:=List.eq_nil_of_length_eq_zero hc;exact⟨rfl,by simp[runA]⟩
 | succ n ih=>
  intro cs hc hs;obtain⟨c0,r0,e0⟩:∃c r,cs=r++[c]:=⟨cs.getLast (by rintro rfl;simp at hc),cs.dropLast,(List.dropLast_concat_getLast _).symm⟩;subst e0;obtain⟨s1,_,s3⟩:=ordS_append hs;obtain⟨i1,i2⟩:=ih r0 (by simpa using hc) s1
  have hO:ordF ((runA l r0).1++(runA l r0).2)=true:=by rw[i1];exact ord_ap _ h
  obtain⟨_,o2,_⟩:=ordF_append.1 hO
  have hlt:∀f∈(runA l r0).1,befK f.k c0.k=true:=fun f hf=>by
   obtain⟨d,hd,hdf⟩:=i2 f hf;have h3:=s3 d hd c0 (by simp)
   rcases befK_tri f.k c0.k with t|t|t
   ·exact t
   ·rw[t,h3] at hdf;cases hdf
   ·rw[befK_trans h3 t] at hdf;cases hdf
  rw[runA_more];refine⟨?_,fun f hf=>?_⟩
  ·have ea:apF l (r0++[c0])=updF (apF l r0) c0:=by unfold apF;rw[List.foldl_append];rfl
   have hgt:(runA l r0).1.filter (fun f=>befK c0.k f.k)=[]:=List.filter_eq_nil_iff.2 fun f hf=>by rw[befK_anti (hlt f hf)];simp
   rw[ea,←i1];unfold updF stepA;rw[List.filter_append,List.filter_append,List.filter_eq_self.2 hlt,hgt,filt_lt o2,filt_gt o2];simp only[List.nil_append,List.append_assoc]
  ·refine⟨c0,by simp,?_⟩;unfold stepA at hf
   rcases List.mem_append.1 hf with hf|hf
   ·rcases List.mem_append.1 hf with hf|hf
    ·exact befK_anti (hlt f hf)
    ·rw[←filt_lt o2] at hf;exact befK_anti (by simpa using (List.mem_filter.1 hf).2)
   ·split at hf
    ·cases hf
    ·simp only[List.mem_cons,List.not_mem_nil,or_false] at hf;rw[hf];exact befK_irr _
theorem latC_mem:∀{l:List CE} {x:CE},x∈latC l→x∈l
 | [],_,h=>h
 | [_],_,h=>h
 | e::d::r,x,h=>by
  unfold latC at h
  split at h
  ·exact List.mem_cons_of_mem _ (latC_mem h)
  ·rcases List.mem_cons.1 h with rfl|h
   ·exact List.mem_cons_self
   ·exact List.mem_cons_of_mem _ (latC_mem h)
theorem bef_le {a b c:KY} (h1:befK a b=true) (h2:befK c b=false):befK a c=true:=by
 rcases befK_tri b c with t|t|t
 ·exact befK_trans h1 t
 ·rw[←t];exact h1
 ·rw[h2] at t;cases t
theorem latC_ord:∀{l:List CE},ordC (cts l)→ordS (cts (latC l))
 | [],_=>trivial
 | [_],_=>⟨by simp,trivial⟩
 | e::d::r,h=>by
  have hd:ordS (cts (latC (d::r))):=latC_ord h.2;unfold latC
  split
  ·exact hd
  ·rename_i hne
   refine⟨fun x hx=>?_,hd⟩;obtain⟨y,hy,rfl⟩:=List.mem_map.1 hx
   have h1:befK e.f.k d.f.k=true:=by
    have:=h.1 d.f (by simp)
    rcases befK_tri e.f.k d.f.k with t|t|t
    ·exact t
    ·exact absurd t.symm hne
    ·rw[this] at t;cases t
   rcases List.mem_cons.1 (latC_mem hy) with rfl|hy
   ·exact h1
   ·exact bef_le h1 (h.2.1 y.f (List.mem_map.2 ⟨y,hy,rfl⟩))
theorem latC_last':∀(l:List CE) (k:KY),lastC (cts (latC l)) k=lastC (cts l) k
 | [],_=>rfl
 | [_],_=>rfl
 | e::d::r,k=>by
  have ih:=latC_last' (d::r) k;unfold latC
  split
  ·rename_i he
   rw[ih]
   show lastC (cts (d::r)) k=(lastC (cts (d::r)) k).or (if e.f.k=k then some e.f else none)
   by_cases ek:e.f.k=k
   ·have:∃z,lastC (cts (d::r)) k=some z:=by
     show ∃z,(lastC (cts r) k).or (if d.f.k=k then some d.f else none)=some z
     rw[if_pos (he.trans ek)]
     cases lastC (cts r) k with
     | none=>exact⟨_,rfl⟩
     | some z=>exact⟨z,rfl⟩
    obtain⟨z,hz⟩:=this;rw[hz]
    rfl
   ·rw[if_neg ek,Option.or_none]
  ·show (lastC (cts (latC (d::r))) k).or _=(lastC (cts (d::r)) k).or _
   rw[ih]
theorem last_filter (l:List CE) (k:KY):lastC (cts l) k=lastC (cts (l.filter (fun d=>decide (d.f.k=k)))) k:=by
 induction l with
 | nil=>rfl
 | cons e r ih=>
  show (lastC (cts r) k).or (if e.f.k=k then some e.f else none)=_
  rw[List.filter_cons]
  by_cases ek:e.f.k=k
  ·rw[decide_eq_true ek,if_pos (rfl:true=true),ih]
   rfl
  ·rw[decide_eq_false ek,if_neg ek,Option.or_none];exact ih
theorem lat_ap {l:List FT} (h:ordF l=true) {es:List CE} {n:Nat} {xs:List {x:CE // x∈es}} (hx:LatS es n xs):(runA l (xs.map (·.1.f))).1++(runA l (xs.map (·.1.f))).2=apF l (cts es):=by
 obtain⟨ds,_,h2,h3,h4⟩:=hx
 have e:xs.map (·.1.f)=cts (latC ds):=by rw[←h4];unfold cts;rw[List.map_map];rfl
 rw[e,runA_ap h _ (latC_ord h2)]
 refine ap_same h fun k=>?_
 rw[latC_last',last_filter ds,h3 k,←last_filter]
end
end Go.Proofs.YtbiihjdjbknibaaGreat
