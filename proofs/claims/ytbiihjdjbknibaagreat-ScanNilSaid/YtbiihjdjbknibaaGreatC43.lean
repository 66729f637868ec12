/-
  Layer 7: contracts (Jd Jf Jw).
-/
import Derived.Test.YtbiihjdjbknibaaGreatC42
namespace Go.Proofs.YtbiihjdjbknibaaGreat
set_option maxRecDepth 100000
set_option maxHeartbeats 8000000
set_option linter.unusedSimpArgs false
set_option linter.unusedVariables false
section
set_option maxRecDepth 100000
open Go.RowKit
def gdV (l:List Nat):Nat:=if l.length=8 then leV l else 0
def gdE (l:List Nat):Int:=if gdV l=0 then 5 else 0
theorem sz8:isSz 8:=.inr (.inr (.inr rfl))
def NumP (w:World) (v:Nat) (E:Int) (e:Ending) (w':World):Prop:=e=.returned (.tuple #[.int .u64 (v:Nat),.int .i64 E])∧New w w'
theorem num_5 {w u:World} {gv:Nat} {ge:Int} (h1:gv=0) (h2:ge=5) (k:New w u):NumP w gv ge (.returned (.tuple #[.int .u64 0,.int .i64 5])) u:=by subst h1 h2;exact⟨rfl,k⟩
theorem num_0 {w u:World} {gv:Nat} {ge:Int} (h2:ge=0) (k:New w u):NumP w gv ge (.returned (.tuple #[.int .u64 (gv:Nat),.int .i64 0])) u:=by subst h2;exact⟨rfl,k⟩
theorem gd_take {l:List Nat} (h:l.length=8):takeV l 8=leV l∧takeE l 8=0∧takeL l 8=[]:=by
 have e:((8:Int)).toNat=8:=rfl;unfold takeV takeE takeL;rw[if_pos sz8,if_pos sz8,if_pos sz8,e,if_pos (by omega),if_pos (by omega),if_pos (by omega),List.take_of_length_le (by omega),List.drop_of_length_le (by omega)];exact⟨rfl,rfl,rfl⟩
theorem gd_more {l:List Nat} (h:8 < l.length):takeE l 8=0∧0 < (takeL l 8).length:=by
 have e:((8:Int)).toNat=8:=rfl;unfold takeE takeL;rw[if_pos sz8,if_pos sz8,e,if_pos (by omega),if_pos (by omega),List.length_drop];exact⟨rfl,by omega⟩
theorem gd_less {l:List Nat} (h:l.length < 8):takeE l 8=4:=by
 have e:((8:Int)).toNat=8:=rfl;unfold takeE;rw[if_pos sz8,e,if_neg (by omega)]
theorem gd_eq {l:List Nat} (h:l.length=8):gdV l=leV l:=by unfold gdV;rw[if_pos h]
theorem gd_ne {l:List Nat} (h:l.length≠8):gdV l=0∧gdE l=5:=by
 have:gdV l=0:=by unfold gdV;rw[if_neg h]
 exact⟨this,by unfold gdE;rw[if_pos this]⟩
theorem getDrop_any (A:Option Addr) (n c:Nat) (l:List Nat) (w:World) (ha:Bts w A n l) (hn:n≤140737488351232) (hA:A=none→c=0∧n=0):
  Calls Tryz.prog 102 #[.slice A n c] w (NumP w (gdV l) (gdE l)):=by
 have hl:l.length=n:=ha.1;have HT1:Hid (l.length=8→_):=gd_take (l:=l);have HT2:Hid (8 < l.length→_):=gd_more (l:=l);have HT3:Hid (l.length < 8→_):=gd_less (l:=l);have HV:Hid (l.length=8→gdV l=leV l):=gd_eq;have HX:Hid (l.length≠8→gdV l=0∧gdE l=5):=gd_ne;have HE:Hid (gdE l=if gdV l=0 then 5 else 0):=rfl
 have CN:=fun u hu=>jH (new_any A n c l u (ha.new hu) hn hA)
 have HLN:=jH hl;clear ha hA hl;generalize gdV l=gv at *;generalize gdE l=ge at *;go_enter Tryz.func102,Tryz.ntmps102;go_wp2_with fail;refine (CN _ kR).out.mono ?_;rintro e w1 ⟨g,rfl,r1,hg,k1⟩;have K1:=jH k1;have hlt1:=r1.at_.lt;obtain⟨w2,hw2⟩:∃w2,w2=w1.alloc (.cells #[.pointer (some ⟨g,0,none⟩)] 198):=⟨_,rfl⟩
 have n2:New w1 w2:=by rw[hw2];exact kR.alloc _
 have B2:Hid (Blk w2 w1.heap.size 198 [.pointer (some ⟨g,0,none⟩)]):=by rw[hw2];exact Blk.made w1 _ _
 have R2:=jH (r1.new n2);have K2:=jH (K1.out.new n2);have HG:=jH hg;have HW2:=jH hw2;clear r1 k1 CN n2 hw2 hg K1;have a0:=B2.out.q0;go_wp2_with fail;rw[←HW2.out];clear HW2
 have hgn:w1.heap.size≠g:=by omega
 refine (etake_any g l 8 _ R2.out).mono ?_;rintro e w3 ⟨rfl,r3,k3⟩;have B3:=jH (B2.out.kept k3 hgn)
 have K3:Hid (New w w3):=K2.out.trans k3 fun i hi e=>by have:=HG.out;omega
 have R3:=jH r3;clear r3 k3 R2 K2 B2 a0;have a0:=B3.out.q0;have CL:=jH (eleft_any g _ _ R3.out)
 rcases Nat.lt_trichotomy n 8 with h8|h8|h8
 ·have e3:=HT3.out (by have:=HLN.out;omega);obtain⟨v1,v2⟩:=HX.out (by have:=HLN.out;omega);rw[e3];have HZ:=jH (num_5 v1 v2 K3.out);clear v1 v2 HT1 HT2 HT3 HV HX HE CL;generalize takeV l 8=tv at *;go_wp2;go_ret2;exact HZ.out
 ·obtain⟨e1,e2,e3⟩:=HT1.out (by have:=HLN.out;omega);have hv:=HV.out (by have:=HLN.out;omega);have he:=HE.out;rw[e1,e2,←hv]
  have CL':Hid (Calls Tryz.prog 127 #[.pointer (some ⟨g,0,none⟩)] w3 fun e w'=>e=.returned (.int .i64 0)∧w3=w'):=by
   have:=CL.out
   rw[e3] at this;exact this
  clear HT1 HT2 HT3 HV HX HE CL hv e1 e2 e3
  by_cases h0:gv=0
  ·rw[if_pos h0] at he;have HZ:=jH (num_5 h0 he K3.out);clear he;rw[h0];go_wp2;go_ret2;exact HZ.out
  ·rw[if_neg h0] at he;have HZ:=jH (num_0 (gv:=gv) he K3.out);clear he;have d:((gv:Int) == 0)=false:=beq_eq_false_iff_ne.2 (by omega);clear h0
   go_wp2_with (go_at_call 127;refine CL'.out.mono ?_;rintro e w4 ⟨rfl,rfl⟩)
   go_ret2;exact HZ.out
 ·obtain⟨e1,e2⟩:=HT2.out (by have:=HLN.out;omega);obtain⟨v1,v2⟩:=HX.out (by have:=HLN.out;omega);rw[e1];have HZ:=jH (num_5 v1 v2 K3.out);clear v1 v2 HT1 HT2 HT3 HV HX HE;generalize (takeL l 8).length=tn at *;generalize takeV l 8=tv at *
  by_cases h0:tv=0
  ·subst h0;go_wp2;go_ret2;exact HZ.out
  ·have d:((tv:Int) == 0)=false:=beq_eq_false_iff_ne.2 (by omega);clear h0
   go_wp2_with (go_at_call 127;refine CL.out.mono ?_;rintro e w4 ⟨rfl,rfl⟩)
   go_ret2;exact HZ.out
end
section
set_option maxRecDepth 100000
open Go.RowKit
def FarS (m n:Nat) (b:Nat):Prop:=b < m∨n≤b
def OutSt (w wv:World) (m:Nat) (wc:World) (A:Option Addr) (c:Nat) (l:List Nat):Prop:=
 OwnB wc 5 w.heap.size A c l∧New w wc∧Kept (FarS m wv.heap.size) wv wc∧(∀a,A=some a→FarS m wv.heap.size a.block)∧wv.heap.size≤wc.heap.size
section
variable {w wv wr wc w':World} {m c c2:Nat} {A A2:Option Addr} {l k:List Nat}
theorem OutSt.start (V:OwnB wr 5 w.heap.size A c l) (VN:New w wr) (K:New wr wv):OutSt w wv wr.heap.size wv A c l:=
 ⟨V.new K,VN.new K,kR,fun a ha=>.inl (V.at_ a ha).1.lt,Nat.le_refl _⟩
theorem OutSt.alloc (h:OutSt w wv m wc A c l) (o:Obj):OutSt w wv m (wc.alloc o) A c l:=
 ⟨h.1.new (kR.alloc _),h.2.1.alloc _,h.2.2.1.alloc _,h.2.2.2.1,by simp;have:=h.2.2.2.2;omega⟩
theorem OutSt.bts (h:OutSt w wv m wc A c l) {A5:Option Addr} {c5:Nat} (o:OwnB wv 5 m A5 c5 k):Bts wc A5 k.length k:=
 o.bts.kept h.2.2.1 fun a ha hf=>by
  obtain⟨h1,h2⟩:=o.at_ a ha
  have:=h1.lt
  rcases hf with hf|hf<;>omega
end
end
section
set_option maxRecDepth 100000
open Go.RowKit
end
end Go.Proofs.YtbiihjdjbknibaaGreat
