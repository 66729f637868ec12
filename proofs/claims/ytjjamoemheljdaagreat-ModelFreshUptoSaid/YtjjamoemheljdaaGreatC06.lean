/-
  Layer 7: contracts (Wa).
-/
import Derived.Test.YtjjamoemheljdaaGreatC05
namespace Go.Proofs.YtjjamoemheljdaaGreat
set_option maxRecDepth 100000
set_option maxHeartbeats 8000000
set_option linter.unusedSimpArgs false
set_option linter.unusedVariables false
section
theorem do_same {T:TT} {c:AC} (h:(doF T c).2.e≠0∨c.k=0∨8 < c.k):(doF T c).1=T:=by
 revert h
 unfold doF
 repeat' split
 all_goals (try exact fun _=>rfl)
 all_goals
  unfold actF
  repeat' split
 all_goals (try exact fun _=>rfl)
 all_goals (try unfold mkF)
 all_goals (try unfold rmF)
 all_goals (try unfold lnF)
 all_goals (try unfold ulF)
 all_goals (try unfold mvF)
 all_goals (try unfold lsF)
 all_goals (try unfold bytF)
 all_goals (repeat' split)
 all_goals (try exact fun _=>rfl)
 all_goals
  intro h
  exfalso
  simp only[erA] at h;omega
theorem do_p (T:TT) (c:AC):(doF T c).1.p=T.p:=by
 unfold doF
 repeat' split
 all_goals (try rfl)
 all_goals
  unfold actF
  repeat' split
 all_goals (try rfl)
 all_goals (try unfold mkF)
 all_goals (try unfold rmF)
 all_goals (try unfold lnF)
 all_goals (try unfold ulF)
 all_goals (try unfold mvF)
 all_goals (try unfold lsF)
 all_goals (try unfold bytF)
 all_goals (repeat' split)
 all_goals rfl
theorem do_eta (T:TT) (c:AC):(⟨T.p,(doF T c).1.l⟩:TT)=(doF T c).1:=by rw[←do_p T c]
def lt0:TT:=⟨32,[⟨1,1,1,[],[]⟩]⟩
def lsA:ByteArray:=baL [47,97]
def lsB:ByteArray:=baL [47,98]
def lr1:TT×AN:=doF lt0 ⟨2,lsA,ByteArray.empty,0,0,[]⟩
def lr2:TT×AN:=doF lr1.1 ⟨4,lsA,lsB,0,0,[]⟩
def lr3:TT×AN:=doF lr2.1 ⟨7,lsB,ByteArray.empty,1,0,[120]⟩
def lr4:TT×AN:=doF lr3.1 ⟨9,lsA,ByteArray.empty,0,9,[]⟩
theorem lr_a:lr1.2.i=2:=by decide +kernel
theorem lr_b:lr2.2.e=0:=by decide +kernel
theorem lr_c:lr3.2.n=1:=by decide +kernel
theorem lr_d:lr4.2.b=[0,120]:=by decide +kernel
theorem lr_t:Rt lt0:=rt_new (by decide) (by decide)
theorem lr_ea:(⟨32,lr1.1.l⟩:TT)=lr1.1:=do_eta lt0 _
theorem lr_p2:lr2.1.p=32:=(do_p _ _).trans (do_p _ _)
theorem lr_eb:(⟨32,lr2.1.l⟩:TT)=lr2.1:=by rw[←lr_p2]
theorem lr_p3:lr3.1.p=32:=(do_p _ _).trans lr_p2
theorem lr_ec:(⟨32,lr3.1.l⟩:TT)=lr3.1:=by rw[←lr_p3]
theorem lr_t1:Rt lr1.1:=rt_do lr_t _ (by simp)
theorem lr_t2:Rt lr2.1:=rt_do lr_t1 _ (by simp)
theorem lr_t3:Rt lr3.1:=rt_do lr_t2 _ (by simp)
end
end Go.Proofs.YtjjamoemheljdaaGreat
