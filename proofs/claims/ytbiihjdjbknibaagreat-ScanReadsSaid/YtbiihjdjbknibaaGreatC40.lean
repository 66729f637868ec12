/-
  Layer 7: contracts (Ja Jb Je Jg).
-/
import Derived.Test.YtbiihjdjbknibaaGreatC39
namespace Go.Proofs.YtbiihjdjbknibaaGreat
set_option maxRecDepth 100000
set_option maxHeartbeats 8000000
set_option linter.unusedSimpArgs false
set_option linter.unusedVariables false
section

end
section
set_option maxRecDepth 100000
open Go.RowKit
def mayC (f:CT):Bool:=mayK f.k && (if f.g=true then decide (f.v.length=0) else decide (1≤f.v.length∧f.v.length≤255))
theorem mayC_no {f:CT} (h:mayK f.k=false):mayC f=false:=by unfold mayC;rw[h];rfl
theorem mayC_g {f:CT} (h:mayK f.k=true) (hg:f.g=true):mayC f=decide (f.v.length=0):=by unfold mayC;rw[h,if_pos hg];rfl
theorem mayC_v {f:CT} (h:mayK f.k=true) (hg:f.g=false):mayC f=decide (1≤f.v.length∧f.v.length≤255):=by unfold mayC;rw[h,if_neg (by rw[hg];decide)];rfl
theorem mayC_parts {f:CT} (h:mayC f=true):mayK f.k=true∧f.v.length≤255∧(f.g=true→f.v=[])∧(f.g=false→1≤f.v.length):=by
 unfold mayC at h;rw[Bool.and_eq_true] at h;obtain⟨h1,h2⟩:=h;cases hg:f.g
 ·rw[hg,if_neg (by decide)] at h2
  have:=of_decide_eq_true h2
  exact⟨h1,this.2,(fun h=>by cases h),fun _=>this.1⟩
 ·rw[hg,if_pos rfl] at h2
  have:=of_decide_eq_true h2
  exact⟨h1,by omega,(fun _=>List.eq_nil_of_length_eq_zero this),(fun h=>by cases h)⟩
def chB (f:CT):List Nat:=if f.g=true then 0::keyB f.k else 1::(keyB f.k++rowL f.v)
theorem pk_yes {k:KY} (h:mayK k=true):pkL k=keyB k∧pkE k=0:=by unfold pkL pkE;rw[if_pos h,if_pos h];exact⟨rfl,rfl⟩
theorem chB_len {f:CT} (h:mayC f=true):(chB f).length≤273:=by
 obtain⟨h1,h2,_⟩:=mayC_parts h;have h3:=pkL_len f.k;rw[(pk_yes h1).1] at h3;unfold chB rowL
 split
 ·simp only[List.length_cons];omega
 ·simp only[List.length_cons,List.length_append];omega
theorem rcmay_any (f:CT) (A:Option Addr) (c:Nat) (w:World) (hn:f.k.n.size≤maxLen) (hv:f.v.length≤maxLen):
  Calls Tryz.prog 106 #[.agg #[.int .i64 f.k.i,.int .u8 (f.k.t:Nat),.string f.k.n,.int .i64 f.k.c,.slice A f.v.length c,.bool f.g]] w (NewBool w (mayC f)):=by
 have H0:Hid (mayK f.k=false→mayC f=false):=mayC_no;have H1:Hid (mayK f.k=true→f.g=true→mayC f=decide (f.v.length=0)):=mayC_g;have H2:Hid (mayK f.k=true→f.g=false→mayC f=decide (1≤f.v.length∧f.v.length≤255)):=mayC_v
 have HM:Hid (∀u,Calls Tryz.prog 103 #[.agg #[.int .i64 f.k.i,.int .u8 (f.k.t:Nat),.string f.k.n,.int .i64 f.k.c]] u (NewBool u (mayK f.k))):=fun u=>rmay_any f.k u hn
 unfold maxLen at hv;clear hn;generalize mayC f=r at *;obtain⟨k,v,g⟩:=f
 dsimp only at *
 generalize mayK k=b at *;obtain⟨i,t,s,z⟩:=k
 dsimp only at *
 generalize v.length=n at *;go_enter Tryz.func106,Tryz.ntmps106;go_wp2_with fail;refine (HM.out _).mono ?_;rintro e w1 ⟨rfl,k1⟩;have K1:Hid (New w w1):=(kR.alloc _).new k1;have B1:Hid (Blk w1 w.heap.size 105 [.int .i64 i,.int .u8 (t:Nat),.string s,.int .i64 z,.slice A n c,.bool g]):=(Blk.made w _ _).kept k1 id;clear k1 HM;have a4:=B1.out.q4;have a5:=B1.out.q5;cases b
 ·have HF:=jH (H0.out rfl);clear H0 H1 H2;go_wp2;go_ret;exact⟨by rw[HF.out];rfl,K1.out⟩
 ·cases g
  ·have HF:=jH (H2.out rfl rfl);clear H0 H1 H2
   by_cases h0:1≤n
   ·by_cases h5:n≤255
    ·have HG:Hid (r=true):=HF.out.trans (decide_eq_true ⟨h0,h5⟩);clear HF;go_wp2;go_ret;exact⟨ret_bool (by first|exact HG.out.symm|(rw[HG.out];simp;omega)),K1.out⟩
    ·have HG:Hid (r=false):=HF.out.trans (decide_eq_false fun h=>h5 h.2);clear HF;go_wp2;go_ret;exact⟨ret_bool (by first|exact HG.out.symm|(rw[HG.out];simp;omega)),K1.out⟩
   ·obtain rfl:n=0:=by omega
    have HG:Hid (r=false):=HF.out.trans (decide_eq_false fun h=>h0 h.1);clear HF h0;go_wp2;go_ret;exact⟨ret_bool (by first|exact HG.out.symm|(rw[HG.out];simp;omega)),K1.out⟩
  ·have HF:=jH (H1.out rfl rfl);clear H0 H1 H2
   by_cases h0:n=0
   ·have HG:Hid (r=true):=HF.out.trans (decide_eq_true h0);subst h0;clear HF;go_wp2;go_ret;exact⟨ret_bool (by first|exact HG.out.symm|(rw[HG.out];simp;omega)),K1.out⟩
   ·have HG:Hid (r=false):=HF.out.trans (decide_eq_false h0);have d:((n:Int) == 0)=false:=beq_eq_false_iff_ne.2 (by omega);clear HF;go_wp2;go_ret;exact⟨ret_bool (by first|exact HG.out.symm|(rw[HG.out];simp;omega)),K1.out⟩
end
section
set_option maxRecDepth 100000
open Go.RowKit
def tlOk (l:List CT):Bool:=decide (1≤l.length∧l.length≤255) && l.all mayC
def rbK (l:List CT) (k:Nat):List Nat:=l.length::(l.take k).flatMap chB
def puL (n:Int) (l:List CT):List Nat:=if tlOk l=true then sPutL n 2 (rbK l l.length) else []
def puE (n:Int) (l:List CT):Int:=if tlOk l=true then sPutE n 2 (rbK l l.length) else 2
theorem tlOk_all {l:List CT} (h:tlOk l=true):1≤l.length∧l.length≤255∧∀f∈l,mayC f=true:=by
 unfold tlOk at h;rw[Bool.and_eq_true] at h
 have:=of_decide_eq_true h.1
 exact⟨this.1,this.2,List.all_eq_true.1 h.2⟩
theorem tlOk_of {l:List CT} (h1:1≤l.length) (h2:l.length≤255) (h:∀f∈l,mayC f=true):tlOk l=true:=by
 unfold tlOk;rw[Bool.and_eq_true];exact⟨decide_eq_true ⟨h1,h2⟩,List.all_eq_true.2 h⟩
theorem tlOk_no {l:List CT} (h:¬(1≤l.length∧l.length≤255)∨∃f∈l,mayC f=false):tlOk l=false:=by
 cases hb:tlOk l
 ·rfl
 ·obtain⟨a,b,c⟩:=tlOk_all hb
  rcases h with h|⟨f,hf,hm⟩
  ·exact absurd ⟨a,b⟩ h
  ·rw[c f hf] at hm;cases hm
theorem flat_len:∀(l:List CT),(∀f∈l,mayC f=true)→(l.flatMap chB).length≤273*l.length
 | [],_=>by simp
 | f::r,h=>by
  have h1:=chB_len (h f List.mem_cons_self)
  have h2:=flat_len r fun g hg=>h g (List.mem_cons_of_mem _ hg)
  rw[List.flatMap_cons,List.length_append,List.length_cons];omega
theorem rbK_len {l:List CT} {k:Nat} (hk:k≤255) (h:∀f∈l.take k,mayC f=true):(rbK l k).length≤69616:=by
 have:=flat_len _ h
 have h2:(l.take k).length≤k:=List.length_take_le _ _;have h3:273*(l.take k).length≤273*255:=Nat.mul_le_mul_left _ (by omega);unfold rbK;rw[List.length_cons];omega
theorem rbK_next {l:List CT} {k:Nat} {f:CT} (h:l[k]?=some f):rbK l (k+1)=rbK l k++chB f:=by
 unfold rbK;rw[List.take_add_one,h];simp
theorem take_next {l:List CT} {k:Nat} {f:CT} (h:l[k]?=some f) (hf:mayC f=true) (ha:∀g∈l.take k,mayC g=true):∀g∈l.take (k+1),mayC g=true:=by
 rw[List.take_add_one,h];intro g hg
 rcases List.mem_append.1 hg with hg|hg
 ·exact ha g hg
 ·simp at hg;subst hg;exact hf
theorem retB_2 {w u:World} {l:List Nat} {E:Int} (h:l=[]∧E=2) (k:New w u):RetB w l E (.returned (.tuple #[.slice none 0 0,.int .i64 2])) u:=by
 obtain⟨rfl,rfl⟩:=h;exact RetB.nil _ _ _ k
theorem pu_no {z:Int} {l:List CT} (h:tlOk l=false):puL z l=[]∧puE z l=2:=by unfold puL puE;rw[h];exact⟨rfl,rfl⟩
end
section
set_option maxRecDepth 100000
open Go.RowKit
variable {Q:Nat→Prop}
def gnE (l:List Nat):Int:=if takeE l 1≠0 then takeE l 1 else if 1 < takeV l 1 then 5 else 0
def vlE (l:List Nat):Int:=if rwE l≠0 then rwE l else if (rwL l).length=0 then 5 else 0
def chE (l:List Nat):Int:=
 if gnE l≠0 then gnE l else if gkE (takeL l 1)≠0 then gkE (takeL l 1) else if takeV l 1=0 then 0 else vlE (tkR (takeL l 1))
def chC (l:List Nat):CT:=⟨gkK (takeL l 1),if takeV l 1=0 then [] else rwL (tkR (takeL l 1)),decide (takeV l 1=0)⟩
def chR (l:List Nat):List Nat:=if takeV l 1=0 then tkR (takeL l 1) else rwR (tkR (takeL l 1))
def chc (k:KY) (A:Option Addr) (n c:Nat) (b:Bool):List Value:=[.int .i64 k.i,.int .u8 (k.t:Nat),.string k.n,.int .i64 k.c,.slice A n c,.bool b]
theorem ch_store {w w':World} {g:Nat} (k0 k:KY) {A0 A:Option Addr} {n0 c0 n c:Nat} {b0 b:Bool} (h:Blk w g 105 (chc k0 A0 n0 c0 b0))
  (hw:w'=(((((w.setCell ⟨g,0,none⟩ (.int .i64 k.i)).setCell ⟨g,1,none⟩ (.int .u8 (k.t:Nat))).setCell ⟨g,2,none⟩ (.string k.n)).setCell ⟨g,3,none⟩ (.int .i64 k.c)).setCell ⟨g,4,none⟩ (.slice A n c)).setCell ⟨g,5,none⟩ (.bool b)):
  Blk w' g 105 (chc k A n c b)∧Kept (·=g) w w':=by
 subst hw;exact⟨(((((h.put 0 (.int .i64 k.i)).put 1 (.int .u8 (k.t:Nat))).put 2 (.string k.n)).put 3 (.int .i64 k.c)).put 4 (.slice A n c)).put 5 (.bool b),(((((Kept.set1 w g _ _).setCell (p:=⟨g,_,none⟩) (fun _=>rfl) _).setCell (p:=⟨g,_,none⟩) (fun _=>rfl) _).setCell (p:=⟨g,_,none⟩) (fun _=>rfl) _).setCell (p:=⟨g,_,none⟩) (fun _=>rfl) _).setCell (p:=⟨g,_,none⟩) (fun _=>rfl) _⟩
theorem chc6 {w:World} {g:Nat} {k:KY} {A:Option Addr} {n c:Nat} {b:Bool} (h:Blk w g 105 (chc k A n c b)):
  w.cell? ⟨g,0,none⟩=some (.int .i64 k.i)∧w.cell? ⟨g,1,none⟩=some (.int .u8 (k.t:Nat))∧w.cell? ⟨g,2,none⟩=some (.string k.n)∧w.cell? ⟨g,3,none⟩=some (.int .i64 k.c)∧w.cell? ⟨g,4,none⟩=some (.slice A n c)∧w.cell? ⟨g,5,none⟩=some (.bool b):=
 ⟨h.cell 0,h.cell 1,h.cell 2,h.cell 3,h.cell 4,h.cell 5⟩
theorem chf6 {w:World} {g:Nat} {k:KY} {A:Option Addr} {n c:Nat} {b:Bool} (h:Blk w g 105 (chc k A n c b)):
  w.frozen? ⟨g,0,none⟩=false∧w.frozen? ⟨g,1,none⟩=false∧w.frozen? ⟨g,2,none⟩=false∧w.frozen? ⟨g,3,none⟩=false∧w.frozen? ⟨g,4,none⟩=false∧w.frozen? ⟨g,5,none⟩=false:=
 ⟨h.free 0,h.free 1,h.free 2,h.free 3,h.free 4,h.free 5⟩
def GnP (Q:Nat→Prop) (w:World) (g:Nat) (l:List Nat) (e:Ending) (w':World):Prop:=
 ∃b:Bool,e=.returned (.tuple #[.bool b,.int .i64 (gnE l)])∧(gnE l=0→b=decide (takeV l 1=0))∧Rdr Q w' g (takeL l 1)∧Kept (·=g) w w'
theorem gone_any (g:Nat) (l:List Nat) (w:World) (h:Rdr Q w g l):
  Calls Tryz.prog 149 #[.agg #[.pointer (some ⟨g,0,none⟩)]] w (GnP Q w g l):=by
 have HE:Hid (gnE l=if takeE l 1≠0 then takeE l 1 else if 1 < takeV l 1 then 5 else 0):=rfl
 have hne:g≠w.heap.size:=fun e=>by have:=h.at_.lt;omega
 have HT:Hid (∀u,New w u→Calls Tryz.prog 128 #[.pointer (some ⟨g,0,none⟩),.int .i64 1] u (TakeP Q u g l 1)):=fun u hu=>etake_any g l 1 u (h.new hu)
 have FIN:Hid (∀(b:Bool) (z:Int) (u:World),gnE l=z→(z=0→b=decide (takeV l 1=0))→Rdr Q u g (takeL l 1)→Kept (·=g) w u→GnP Q w g l (.returned (.tuple #[.bool b,.int .i64 z])) u):=fun b z u h1 h2 h3 h4=>⟨b,by rw[h1],by rw[h1];exact h2,h3,h4⟩
 clear h;generalize gnE l=ge at *;go_enter Tryz.func149,Tryz.ntmps149;go_wp2_with fail;refine (HT.out _ (kR.alloc _)).mono ?_;rintro e w1 ⟨rfl,r1,k1⟩;have R1:=jH r1
 have K1:Hid (Kept (·=g) w w1):=((Kept.refl (·=g) w).alloc _).trans k1 fun _ _ h=>h
 clear r1 k1 HT;generalize takeL l 1=l1 at *;generalize takeE l 1=te at *;generalize takeV l 1=tv at *
 by_cases h1:te=0
 ·by_cases h2:tv=0
  ·have F:=jH (FIN.out true 0 w1 (HE.out.trans (by rw[if_neg (by omega),if_neg (by omega)])) (fun _=>by rw[h2];rfl) R1.out K1.out);subst h1 h2;clear FIN HE;go_wp2;go_ret2;exact F.out
  ·by_cases h3:tv=1
   ·have F:=jH (FIN.out false 0 w1 (HE.out.trans (by rw[if_neg (by omega),if_neg (by omega)])) (fun _=>by rw[h3];rfl) R1.out K1.out);subst h1 h3;clear FIN HE h2;go_wp2;go_ret2;exact F.out
   ·have F:=jH (FIN.out false 5 w1 (HE.out.trans (by rw[if_neg (by omega),if_pos (by omega)])) (fun h=>by omega) R1.out K1.out);have d1:((tv:Int) == 1)=false:=beq_eq_false_iff_ne.2 (by omega);have d0:((tv:Int) == 0)=false:=beq_eq_false_iff_ne.2 (by omega);have b1:((tv:Int) != 1)=true:=bne_iff_ne.2 (by omega);have b0:((tv:Int) != 0)=true:=bne_iff_ne.2 (by omega);subst h1;clear FIN HE h2 h3;go_wp2;go_ret2;exact F.out
 ·have F:=jH (FIN.out false te w1 (HE.out.trans (by rw[if_pos h1])) (fun h=>absurd h h1) R1.out K1.out);have b0:((te:Int) != 0)=true:=bne_iff_ne.2 h1;clear FIN HE h1;go_wp2;go_ret2;exact F.out
def VlP (Q:Nat→Prop) (w:World) (g:Nat) (l:List Nat) (e:Ending) (w':World):Prop:=
 ∃A n c,e=.returned (.tuple #[.slice A n c,.int .i64 (vlE l)])∧(vlE l=0→n=(rwL l).length∧OwnB w' 5 w.heap.size A c (rwL l))∧Rdr Q w' g (rwR l)∧Kept (·=g) w w'
theorem value_any (g:Nat) (l:List Nat) (w:World) (h:Rdr Q w g l):
  Calls Tryz.prog 151 #[.agg #[.pointer (some ⟨g,0,none⟩)]] w (VlP Q w g l):=by
 have HE:Hid (vlE l=if rwE l≠0 then rwE l else if (rwL l).length=0 then 5 else 0):=rfl
 have HT:Hid (∀u,New w u→Calls Tryz.prog 156 #[.pointer (some ⟨g,0,none⟩)] u (ERowP Q u g l)):=fun u hu=>erow2_any g l u (h.new hu)
 have FIN:Hid (∀(A:Option Addr) (n c:Nat) (z:Int) (u:World),vlE l=z→(z=0→n=(rwL l).length∧OwnB u 5 w.heap.size A c (rwL l))→Rdr Q u g (rwR l)→Kept (·=g) w u→VlP Q w g l (.returned (.tuple #[.slice A n c,.int .i64 z])) u):=fun A n c z u h1 h2 h3 h4=>⟨A,n,c,by rw[h1],by rw[h1];exact h2,h3,h4⟩
 clear h;generalize vlE l=ge at *;go_enter Tryz.func151,Tryz.ntmps151;go_wp2_with fail;refine (HT.out _ (kR.alloc _)).mono ?_;rintro e w1 ⟨A1,c1,rfl,o1,r1,k1⟩;have R1:=jH r1
 have K1:Hid (Kept (·=g) w w1):=((Kept.refl (·=g) w).alloc _).trans k1 fun _ _ h=>h
 have O1:Hid (OwnB w1 5 w.heap.size A1 c1 (rwL l)):=o1.mono (by simp);clear r1 k1 HT o1;generalize rwR l=l1 at *;generalize rwE l=te at *;generalize rwL l=v at *
 by_cases h1:te=0
 ·by_cases h2:v.length=0
  ·have F:=jH (FIN.out none 0 0 5 w1 (HE.out.trans (by rw[if_neg (by omega),if_pos h2])) (fun h=>by omega) R1.out K1.out);subst h1;rw[h2];clear FIN HE h2;go_wp2;go_ret2;exact F.out
  ·have F:=jH (FIN.out A1 v.length c1 0 w1 (HE.out.trans (by rw[if_neg (by omega),if_neg h2])) (fun _=>⟨rfl,O1.out⟩) R1.out K1.out);have d0:((v.length:Int) == 0)=false:=beq_eq_false_iff_ne.2 (by omega);subst h1;clear FIN HE h2 O1;generalize v.length=vn at *;go_wp2;go_ret2;exact F.out
 ·have F:=jH (FIN.out none 0 0 te w1 (HE.out.trans (by rw[if_pos h1])) (fun h=>absurd h h1) R1.out K1.out);have b0:((te:Int) != 0)=true:=bne_iff_ne.2 h1;clear FIN HE h1 O1;generalize v.length=vn at *;go_wp2;go_ret2;exact F.out
def ChP (Q:Nat→Prop) (w:World) (g:Nat) (l:List Nat) (e:Ending) (w':World):Prop:=
 ∃(k:KY) (A:Option Addr) (n c:Nat) (b:Bool),e=.returned (.tuple #[.agg #[.int .i64 k.i,.int .u8 (k.t:Nat),.string k.n,.int .i64 k.c,.slice A n c,.bool b],.int .i64 (chE l)])∧Kept (·=g) w w' ∧
  (chE l=0→k=(chC l).k∧n=(chC l).v.length∧b=(chC l).g∧OwnB w' 5 w.heap.size A c (chC l).v∧Rdr Q w' g (chR l))
theorem change_any (g:Nat) (l:List Nat) (w:World) (h:Rdr Q w g l):
  Calls Tryz.prog 141 #[.agg #[.pointer (some ⟨g,0,none⟩)]] w (ChP Q w g l):=by
 have hg:=h.at_.lt;have HE:Hid (chE l=if gnE l≠0 then gnE l else if gkE (takeL l 1)≠0 then gkE (takeL l 1) else if takeV l 1=0 then 0 else vlE (tkR (takeL l 1))):=rfl;have HCk:Hid ((chC l).k=gkK (takeL l 1)):=rfl;have HCv:Hid ((chC l).v=if takeV l 1=0 then [] else rwL (tkR (takeL l 1))):=rfl;have HCg:Hid ((chC l).g=decide (takeV l 1=0)):=rfl;have HR:Hid (chR l=if takeV l 1=0 then tkR (takeL l 1) else rwR (tkR (takeL l 1))):=rfl
 have FIN:Hid (∀(k:KY) (A:Option Addr) (n c:Nat) (b:Bool) (z:Int) (u:World),chE l=z→Kept (·=g) w u→(z=0→k=(chC l).k∧n=(chC l).v.length∧b=(chC l).g∧OwnB u 5 w.heap.size A c (chC l).v∧Rdr Q u g (chR l)) →
   ChP Q w g l (.returned (.tuple #[.agg #[.int .i64 k.i,.int .u8 (k.t:Nat),.string k.n,.int .i64 k.c,.slice A n c,.bool b],.int .i64 z])) u):=fun k A n c b z u h1 h2 h3=>⟨k,A,n,c,b,by rw[h1],h2,by rw[h1];exact h3⟩
 have HGN:Hid (∀u,Rdr Q u g l→Calls Tryz.prog 149 #[.agg #[.pointer (some ⟨g,0,none⟩)]] u (GnP Q u g l)):=fun u hu=>gone_any g l u hu
 have HGK:Hid (∀u,Rdr Q u g (takeL l 1)→Calls Tryz.prog 150 #[.pointer (some ⟨g,0,none⟩)] u (GkP Q u g (takeL l 1))):=fun u hu=>getKey_any g _ u hu
 have HVL:Hid (∀u,Rdr Q u g (tkR (takeL l 1))→Calls Tryz.prog 151 #[.agg #[.pointer (some ⟨g,0,none⟩)]] u (VlP Q u g (tkR (takeL l 1)))):=fun u hu=>value_any g _ u hu
 obtain⟨w1,hw1⟩:∃w1,w1=(w.alloc (.cells #[.pointer (some ⟨g,0,none⟩)] 198)).alloc (.cells #[.int .i64 0,.int .u8 0,.string ⟨#[]⟩,.int .i64 0,.slice none 0 0,.bool false] 105):=⟨_,rfl⟩
 have n1:New w w1:=by rw[hw1];exact (kR.alloc _).alloc _
 have BF1:Hid (Blk w1 w.heap.size 198 [.pointer (some ⟨g,0,none⟩)]):=by rw[hw1];exact (Blk.made w _ _).alloc _
 have BC1:Hid (Blk w1 (w.heap.size+1) 105 (chc ⟨0,0,⟨#[]⟩,0⟩ none 0 0 false)):=by
  rw[hw1]
  have:=Blk.made (w.alloc (.cells #[.pointer (some ⟨g,0,none⟩)] 198)) 105 #[.int .i64 0,.int .u8 0,.string ⟨#[]⟩,.int .i64 0,.slice none 0 0,.bool false]
  simp only[World.size_alloc] at this;exact this
 have R1:=jH (h.new n1);have K1:Hid (Kept (·=g) w w1):=(Kept.refl (·=g) w).new n1;have HW:=jH hw1;clear hw1 n1 h;generalize chE l=ce at *;generalize chC l=cc at *;generalize chR l=cr at *;go_enter Tryz.func141,Tryz.ntmps141;go_wp2_with fail;rw[←HW.out];clear HW;generalize hgr:w.heap.size=gr at *;have HGR:=jH hgr;clear hgr;have a0:=BF1.out.q0;refine (HGN.out _ R1.out).mono ?_;rintro e w2 ⟨b,rfl,hb,r2,k2⟩;have HB:=jH hb;have BF2:=jH (BF1.out.kept k2 (by omega));have BC2:=jH (BC1.out.kept k2 (by omega))
 have K2:Hid (Kept (·=g) w w2):=K1.out.trans k2 fun _ _ h=>h
 have R2:=jH r2;clear hb r2 k2 BF1 BC1 K1 R1 HGN a0;generalize gnE l=ge at *;generalize takeV l 1=tv at *;generalize takeL l 1=l1 at *
 by_cases h1:ge=0
 ·have hbb:=HB.out h1;have HE1:=HE.out.trans (if_neg (by omega));have HE2:=jH HE1;have HBB:=jH hbb;subst h1;clear HE HE1 hbb HB;have a0:=BF2.out.q0;go_wp2_with fail;refine (HGK.out _ R2.out).mono ?_;rintro e w3 ⟨rfl,r3,k3⟩;obtain⟨w4,hw4⟩:∃w4,w4=w3.alloc (.cells #[.int .i64 (gkK l1).i,.int .u8 ((gkK l1).t:Nat),.string (gkK l1).n,.int .i64 (gkK l1).c] 92):=⟨_,rfl⟩
  have n4:New w3 w4:=by rw[hw4];exact kR.alloc _
  have BK4:Hid (Blk w4 w3.heap.size 92 (kcells (gkK l1))):=by rw[hw4];exact Blk.made w3 _ _
  have BF4:=jH ((BF2.out.kept k3 (by omega)).kept n4 id);have BC4:=jH ((BC2.out.kept k3 (by omega)).kept n4 id);have K4:Hid (Kept (·=g) w w4):=(K2.out.trans k3 fun _ _ h=>h).new n4;have R4:=jH (r3.new n4);have HW4:=jH hw4;have hlt3:=(BC2.out.kept k3 (by omega)).lt;clear r3 k3 n4 hw4 BF2 BC2 K2 R2 HGK a0
  by_cases h2:gkE l1=0
  ·have HE3:=jH (HE2.out.trans (if_neg (by omega)));rw[h2];clear HE2 h2
   go_upto_region 7 with fail
   rw[←HW4.out];clear HW4;obtain⟨q0,q1,q2,q3⟩:=kcells4 BK4.out;obtain⟨w5,hw5⟩:∃w5,w5=w4.alloc (.cells #[.int .i64 (gkK l1).i,.int .u8 ((gkK l1).t:Nat),.string (gkK l1).n,.int .i64 (gkK l1).c,.slice none 0 0,.bool b] 105):=⟨_,rfl⟩
   have n5:New w4 w5:=by rw[hw5];exact kR.alloc _
   have BX5:Hid (Blk w5 w4.heap.size 105 (chc (gkK l1) none 0 0 b)):=by rw[hw5];exact Blk.made w4 _ _
   have BF5:=jH (BF4.out.kept n5 id);have BC5:=jH (BC4.out.kept n5 id);have K5:Hid (Kept (·=g) w w5):=K4.out.new n5;have R5:=jH (R4.out.new n5);have HW5:=jH hw5;have hlt4:=BC4.out.lt;have HX5:=jH (R5.out.at_)
   have hne5:w4.heap.size≠g:=fun e=>by
    have:=(BX5.out.at_).ne_of HX5.out (by decide)
    exact this e
   clear n5 hw5 BF4 BC4 K4 R4 HX5
   go_upto_region 8 with fail
   rw[←HW5.out];clear HW5 q0 q1 q2 q3
   by_cases h3:tv=0
   ·have hb2:b=true:=by rw[HBB.out];exact decide_eq_true h3
    have HFIN:Hid (∀u,Kept (·=g) w u→New w5 u∨Rdr Q u g (tkR l1)→ChP Q w g l (.returned (.tuple #[.agg #[.int .i64 (gkK l1).i,.int .u8 ((gkK l1).t:Nat),.string (gkK l1).n,.int .i64 (gkK l1).c,.slice none 0 0,.bool true],.int .i64 0])) u):=by
     intro u hu hr;have hr:Rdr Q u g (tkR l1):=hr.elim (fun h=>R5.out.new h) id
     refine FIN.out (gkK l1) none 0 0 true 0 u (HE3.out.trans (if_pos h3)) hu fun _=>⟨HCk.out.symm,?_,?_,?_,?_⟩
     ·rw[HCv.out,if_pos h3];rfl
     ·rw[HCg.out,decide_eq_true h3]
     ·rw[HCv.out,if_pos h3];exact OwnB.nil _ _ _
     ·rw[HR.out,if_pos h3];exact hr
    subst hb2;clear HE3 HCk HCv HCg HR FIN HBB h3 HVL;obtain⟨y0,y1,y2,y3,y4,y5⟩:=chc6 BX5.out;obtain⟨c0,c1,c2,c3,c4,c5⟩:=chc6 BC5.out;obtain⟨f0,f1,f2,f3,f4,f5⟩:=chf6 BC5.out;obtain⟨w9,hw9⟩:∃w9,w9=(((((w5.setCell ⟨gr+1,0,none⟩ (.int .i64 (gkK l1).i)).setCell ⟨gr+1,1,none⟩ (.int .u8 ((gkK l1).t:Nat))).setCell ⟨gr+1,2,none⟩ (.string (gkK l1).n)).setCell ⟨gr+1,3,none⟩ (.int .i64 (gkK l1).c)).setCell ⟨gr+1,4,none⟩ (.slice none 0 0)).setCell ⟨gr+1,5,none⟩ (.bool true):=⟨_,rfl⟩;obtain⟨bs,ks⟩:=ch_store ⟨0,0,⟨#[]⟩,0⟩ (gkK l1) BC5.out hw9
    have K9:Hid (Kept (·=g) w w9):=K5.out.trans ks fun i hi e=>by have:=HGR.out;omega
    have R9:Hid (Rdr Q w9 g (tkR l1)):=R5.out.kept ks (by omega) fun k e _ ht=>by subst e;exact ht.ne_of BC5.out.at_ (by decide) rfl
    have E9:=jH (HFIN.out w9 K9.out (.inr R9.out));obtain⟨d0,d1,d2,d3,d4,d5⟩:=chc6 bs;have HW9:=jH hw9;clear hw9 bs ks K9 R9 HFIN;generalize gkK l1=kk at *;go_wp2;rw[←HW9.out];clear HW9 c0 c1 c2 c3 c4 c5 f0 f1 f2 f3 f4 f5
    (try simp only[Exit.inBlock,Exit.then])
    refine bodyPost_ret (by simp[results,Tryz.results141,go_sem,d0,d1,d2,d3,d4,d5];try rfl) rfl ?_;exact E9.out
   ·have hb2:b=false:=by rw[HBB.out];exact decide_eq_false h3
    have HFIN:Hid (∀(A6:Option Addr) (n6 c6:Nat) (u:World),Kept (·=g) w u→(vlE (tkR l1)=0→n6=(rwL (tkR l1)).length∧OwnB u 5 gr A6 c6 (rwL (tkR l1)))→Rdr Q u g (rwR (tkR l1)) →
      ChP Q w g l (.returned (.tuple #[.agg #[.int .i64 (gkK l1).i,.int .u8 ((gkK l1).t:Nat),.string (gkK l1).n,.int .i64 (gkK l1).c,.slice A6 n6 c6,.bool false],.int .i64 (vlE (tkR l1))])) u):=by
     intro A6 n6 c6 u hu ho hr
     refine FIN.out (gkK l1) A6 n6 c6 false _ u (HE3.out.trans (if_neg h3)) hu fun hz=>⟨HCk.out.symm,?_,?_,?_,?_⟩
     ·rw[HCv.out,if_neg h3];exact (ho hz).1
     ·rw[HCg.out,decide_eq_false h3]
     ·rw[HCv.out,if_neg h3];exact (ho hz).2
     ·rw[HR.out,if_neg h3];exact hr
    subst hb2;clear HE3 HCk HCv HCg HR FIN HBB h3;have a0:=BF5.out.q0;go_wp2_with fail;refine (HVL.out _ R5.out).mono ?_;rintro e w6 ⟨A6,n6,c6,rfl,h6,r6,k6⟩;have BX6:=jH (BX5.out.kept k6 hne5);have BC6:=jH (BC5.out.kept k6 (by omega))
    have K6:Hid (Kept (·=g) w w6):=K5.out.trans k6 fun _ _ h=>h
    have R6:=jH r6
    have hsz5:gr≤w5.heap.size:=by have:=K5.out.size;have:=HGR.out;omega
    have H6:Hid (vlE (tkR l1)=0→n6=(rwL (tkR l1)).length∧OwnB w6 5 gr A6 c6 (rwL (tkR l1))):=fun hz=>⟨(h6 hz).1,(h6 hz).2.mono hsz5⟩
    obtain⟨w7,hw7⟩:∃w7,w7=w6.setCell ⟨w4.heap.size,4,none⟩ (.slice A6 n6 c6):=⟨_,rfl⟩
    have k7:Kept (·=w4.heap.size) w6 w7:=by rw[hw7];exact Kept.set1 w6 _ _ _
    have BX7:Hid (Blk w7 w4.heap.size 105 (chc (gkK l1) A6 n6 c6 false)):=by rw[hw7];exact BX6.out.put 4 (.slice A6 n6 c6)
    have BC7:=jH (BC6.out.kept k7 (by omega))
    have hgw:w.heap.size≤w4.heap.size:=by have:=HGR.out;omega
    have K7:Hid (Kept (·=g) w w7):=K6.out.trans k7 fun i hi e=>by omega
    have R7:Hid (Rdr Q w7 g (rwR (tkR l1))):=R6.out.kept k7 (fun e=>hne5 e.symm) fun k e _ ht=>by subst e;exact ht.ne_of BX6.out.at_ (by decide) rfl
    have H7:Hid (vlE (tkR l1)=0→n6=(rwL (tkR l1)).length∧OwnB w7 5 gr A6 c6 (rwL (tkR l1))):=fun hz=>⟨(H6.out hz).1,(H6.out hz).2.kept k7 fun a ha=>((H6.out hz).2.at_ a ha).1.ne_of BX6.out.at_ (by decide)⟩
    have y4:=BX6.out.q4;have g4:w6.frozen? ⟨w4.heap.size,4,none⟩=false:=BX6.out.free 4;have HW7:=jH hw7;clear h6 r6 k6 k7 hw7 BX5 BF5 BC5 K5 R5 a0 HVL hgw hsz5
    go_upto_region 10 with fail
    rw[←HW7.out];clear HW7 y4 g4 BX6 BC6 K6 R6 H6;obtain⟨y0,y1,y2,y3,y4,y5⟩:=chc6 BX7.out;obtain⟨c0,c1,c2,c3,c4,c5⟩:=chc6 BC7.out;obtain⟨f0,f1,f2,f3,f4,f5⟩:=chf6 BC7.out;obtain⟨w9,hw9⟩:∃w9,w9=(((((w7.setCell ⟨gr+1,0,none⟩ (.int .i64 (gkK l1).i)).setCell ⟨gr+1,1,none⟩ (.int .u8 ((gkK l1).t:Nat))).setCell ⟨gr+1,2,none⟩ (.string (gkK l1).n)).setCell ⟨gr+1,3,none⟩ (.int .i64 (gkK l1).c)).setCell ⟨gr+1,4,none⟩ (.slice A6 n6 c6)).setCell ⟨gr+1,5,none⟩ (.bool false):=⟨_,rfl⟩;obtain⟨bs,ks⟩:=ch_store ⟨0,0,⟨#[]⟩,0⟩ (gkK l1) BC7.out hw9
    have K9:Hid (Kept (·=g) w w9):=K7.out.trans ks fun i hi e=>by have:=HGR.out;omega
    have R9:Hid (Rdr Q w9 g (rwR (tkR l1))):=R7.out.kept ks (by omega) fun k e _ ht=>by subst e;exact ht.ne_of BC7.out.at_ (by decide) rfl
    have H9:Hid (vlE (tkR l1)=0→n6=(rwL (tkR l1)).length∧OwnB w9 5 gr A6 c6 (rwL (tkR l1))):=fun hz=>⟨(H7.out hz).1,(H7.out hz).2.kept ks fun a ha=>((H7.out hz).2.at_ a ha).1.ne_of BC7.out.at_ (by decide)⟩
    have E9:=jH (HFIN.out A6 n6 c6 w9 K9.out H9.out R9.out);obtain⟨d0,d1,d2,d3,d4,d5⟩:=chc6 bs;have HW9:=jH hw9;clear hw9 bs ks K9 R9 HFIN H9 H7 R7 K7;generalize vlE (tkR l1)=ve at *;generalize gkK l1=kk at *;go_wp2;rw[←HW9.out];clear HW9 c0 c1 c2 c3 c4 c5 f0 f1 f2 f3 f4 f5
    (try simp only[Exit.inBlock,Exit.then])
    refine bodyPost_ret (by simp[results,Tryz.results141,go_sem,d0,d1,d2,d3,d4,d5];try rfl) rfl ?_;exact E9.out
  ·have F:=fun u (hu:Kept (·=g) w u)=>FIN.out ⟨0,0,⟨#[]⟩,0⟩ none 0 0 false _ u (HE2.out.trans (if_pos h2)) hu (fun h=>absurd h h2)
   have b0:(gkE l1 != 0)=true:=bne_iff_ne.2 h2;clear HE2 HCk HCv HCg HR FIN HBB h2 HVL R4 BK4;generalize gkE l1=gke at *;generalize gkK l1=kk at *
   go_upto_region 6 with fail
   rw[←HW4.out];clear HW4;obtain⟨c0,c1,c2,c3,c4,c5⟩:=chc6 BC4.out;obtain⟨f0,f1,f2,f3,f4,f5⟩:=chf6 BC4.out;obtain⟨w9,hw9⟩:∃w9,w9=(((((w4.setCell ⟨gr+1,0,none⟩ (.int .i64 0)).setCell ⟨gr+1,1,none⟩ (.int .u8 0)).setCell ⟨gr+1,2,none⟩ (.string ⟨#[]⟩)).setCell ⟨gr+1,3,none⟩ (.int .i64 0)).setCell ⟨gr+1,4,none⟩ (.slice none 0 0)).setCell ⟨gr+1,5,none⟩ (.bool false):=⟨_,rfl⟩;obtain⟨bs,ks⟩:=ch_store ⟨0,0,⟨#[]⟩,0⟩ ⟨0,0,⟨#[]⟩,0⟩ BC4.out hw9
   have K9:Hid (Kept (·=g) w w9):=K4.out.trans ks fun i hi e=>by have:=HGR.out;omega
   have E9:=jH (F w9 K9.out);obtain⟨d0,d1,d2,d3,d4,d5⟩:=chc6 bs;have HW9:=jH hw9;clear hw9 bs ks K9 F;go_wp2;rw[←HW9.out];clear HW9 c0 c1 c2 c3 c4 c5 f0 f1 f2 f3 f4 f5
   (try simp only[Exit.inBlock,Exit.then])
   refine bodyPost_ret (by simp[results,Tryz.results141,go_sem,d0,d1,d2,d3,d4,d5];try rfl) rfl ?_;exact E9.out
 ·have F:=fun u (hu:Kept (·=g) w u)=>FIN.out ⟨0,0,⟨#[]⟩,0⟩ none 0 0 false _ u (HE.out.trans (if_pos h1)) hu (fun h=>absurd h h1)
  have b0:(ge != 0)=true:=bne_iff_ne.2 h1;clear HE HCk HCv HCg HR FIN HB h1 HVL HGK R2;obtain⟨c0,c1,c2,c3,c4,c5⟩:=chc6 BC2.out;obtain⟨f0,f1,f2,f3,f4,f5⟩:=chf6 BC2.out;obtain⟨w9,hw9⟩:∃w9,w9=(((((w2.setCell ⟨gr+1,0,none⟩ (.int .i64 0)).setCell ⟨gr+1,1,none⟩ (.int .u8 0)).setCell ⟨gr+1,2,none⟩ (.string ⟨#[]⟩)).setCell ⟨gr+1,3,none⟩ (.int .i64 0)).setCell ⟨gr+1,4,none⟩ (.slice none 0 0)).setCell ⟨gr+1,5,none⟩ (.bool false):=⟨_,rfl⟩;obtain⟨bs,ks⟩:=ch_store ⟨0,0,⟨#[]⟩,0⟩ ⟨0,0,⟨#[]⟩,0⟩ BC2.out hw9
  have K9:Hid (Kept (·=g) w w9):=K2.out.trans ks fun i hi e=>by have:=HGR.out;omega
  have E9:=jH (F w9 K9.out);obtain⟨d0,d1,d2,d3,d4,d5⟩:=chc6 bs;have HW9:=jH hw9;clear hw9 bs ks K9 F;go_wp2;rw[←HW9.out];clear HW9 c0 c1 c2 c3 c4 c5 f0 f1 f2 f3 f4 f5
  (try simp only[Exit.inBlock,Exit.then])
  refine bodyPost_ret (by simp[results,Tryz.results141,go_sem,d0,d1,d2,d3,d4,d5];try rfl) rfl ?_;exact E9.out
end
end Go.Proofs.YtbiihjdjbknibaaGreat
