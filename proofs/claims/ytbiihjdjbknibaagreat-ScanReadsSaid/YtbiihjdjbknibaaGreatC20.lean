/-
  Layer 7: contracts (Hd He).
-/
import Derived.Test.YtbiihjdjbknibaaGreatC19
namespace Go.Proofs.YtbiihjdjbknibaaGreat
set_option maxRecDepth 100000
set_option maxHeartbeats 8000000
set_option linter.unusedSimpArgs false
set_option linter.unusedVariables false
section
set_option maxRecDepth 100000
def Agree (s:CSt) (p:PSt):Prop:=∀i,i < s.nb→p.bl[i]?=some (lookV s i)
theorem readL_pg {s:CSt} {i q:Nat} (hd:s.dead=false) (hi:i < s.nb) (hq:q < s.np):readL s i q=pgL s i q:=by
 unfold readL;rw[if_pos];have ht:there s i q:=⟨⟨by omega,by omega⟩,by omega,by omega⟩;unfold refE;rw[if_neg (by rw[hd];simp),if_pos ht]
theorem lookV_of {s:CSt} {i:Nat} (ok:s.Ok) (hd:s.dead=false) (hi:i < s.nb):
  lookV s i=if ghE (pgL s i 0)=0 then ⟨1,ghK (pgL s i 0),ghR (pgL s i 0),ghS (pgL s i 0)⟩ else ⟨hlV s i,0,0,0⟩:=by
 have:=readL_pg hd hi (q:=0) (by have:=ok.np1;omega)
 unfold lookV;rw[show ((0:Int))=((0:Nat):Int) from rfl,this]
theorem lookV_same {s s':CSt} {i:Nat} (ok:s.Ok) (ok':s'.Ok) (hd:s.dead=false) (hd':s'.dead=false) (hnb:s'.nb=s.nb) (hnp:s'.np=s.np) (hi:i < s.nb) (h:∀q,q < s.np→pgL s' i q=pgL s i q):lookV s' i=lookV s i:=by
 have hi':i < s'.nb:=by omega
 have e0:pgL s' i (0:Nat)=pgL s i (0:Nat):=h 0 (by have:=ok.np1;omega)
 have eb:hlV s' i=hlV s i:=by
  have:allBl s' i=allBl s i:=by
   unfold allBl;rw[hnp]
   apply Bool.eq_iff_iff.2
   simp only[List.all_eq_true,List.mem_range]
   constructor
   ·intro hh q hq
    have:=hh q hq
    rwa [readL_pg hd' hi' (by omega),h q hq,←readL_pg hd hi hq] at this
   ·intro hh q hq
    have:=hh q hq
    rwa [readL_pg hd hi hq,←h q hq,←readL_pg hd' hi' (by omega)] at this
  unfold hlV;rw[this]
 rw[lookV_of ok hd hi,lookV_of ok' hd' hi'];rw[show ((0:Int))=((0:Nat):Int) from rfl,e0,eb]
theorem Keeps.look {s s':CSt} {i j:Nat} (h:Keeps s s' i) (ok:s.Ok) (ok':s'.Ok) (hd:s.dead=false) (hd':s'.dead=false) (hj:j < s.nb) (hne:j≠i):lookV s' j=lookV s j:=
 lookV_same ok ok' hd hd' h.nb h.np hj fun q hq=>h.pg j q hj hq hne
end
section
set_option maxRecDepth 100000
def Stays (s s':CSt):Prop:=∀j,j < s.nb→(lookV s j).w=1→(∀q,q < s.np→pgL s' j q=pgL s j q)∧badAt s' j=badAt s j
theorem Stays.refl (s:CSt):Stays s s:=fun _ _ _=>⟨fun _ _=>rfl,rfl⟩
theorem Stays.look {s s':CSt} (h:Stays s s') (ok:s.Ok) (ok':s'.Ok) (hd:s.dead=false) (hd':s'.dead=false) (hnb:s'.nb=s.nb) (hnp:s'.np=s.np) {j:Nat} (hj:j < s.nb) (hw:(lookV s j).w=1):lookV s' j=lookV s j:=
 lookV_same ok ok' hd hd' hnb hnp hj (h j hj hw).1
theorem Stays.trans {s s1 s2:CSt} (h:Stays s s1) (k:Stays s1 s2) (ok:s.Ok) (ok1:s1.Ok) (hd:s.dead=false) (hd1:s1.dead=false) (hnb:s1.nb=s.nb) (hnp:s1.np=s.np):Stays s s2:=fun j hj hw=>by
 have h1:=h j hj hw;have h2:=k j (by omega) (by rw[h.look ok ok1 hd hd1 hnb hnp hj hw];exact hw);exact⟨fun q hq=>(h2.1 q (by omega)).trans (h1.1 q hq),h2.2.trans h1.2⟩
end
end Go.Proofs.YtbiihjdjbknibaaGreat
