/-
  Layer 7: contracts (Va Fa).
-/
import Derived.Test.YtbiihjdjbknibaaGreatC02
import Derived.Lib.Join
import Derived.Lib.Bytealg
namespace Go.Proofs.YtbiihjdjbknibaaGreat
set_option maxRecDepth 100000
set_option maxHeartbeats 8000000
set_option linter.unusedSimpArgs false
set_option linter.unusedVariables false
section
set_option maxRecDepth 100000
def okB (b:UInt8):Bool:=decide (97≤b.toNat∧b.toNat≤122∨48≤b.toNat∧b.toNat≤57∨b.toNat=46∨b.toNat=45)
def nameL (l:List UInt8):Bool:=decide (0 < l.length∧l.length≤12∧l≠[46]∧l≠[46,46]) && l.all okB
def jE (g:List (List UInt8)):Nat:=if g.all nameL=true then (if 6 < g.length then 3 else 0) else 2
theorem name_ne {l:List UInt8} (h:nameL l=true):l≠[]∧l.length≤12∧∀x∈l,x≠47:=by
 unfold nameL at h;simp only[Bool.and_eq_true,decide_eq_true_eq,List.all_eq_true] at h;refine⟨fun e=>by simp[e] at h,h.1.2.1,fun x hx e=>?_⟩
 have:=h.2 x hx
 subst e;simp[okB] at this
end
section
set_option maxRecDepth 100000
structure KY where
 i:Int
 t:Nat
 n:ByteArray
 c:Int
theorem KY.ext_ {a b:KY} (h1:a.i=b.i) (h2:a.t=b.t) (h3:a.n=b.n) (h4:a.c=b.c):a=b:=by
 cases a;cases b;simp_all
instance:DecidableEq KY:=fun a b=>decidable_of_iff (a.i=b.i∧a.t=b.t∧a.n=b.n∧a.c=b.c) ⟨fun h=>KY.ext_ h.1 h.2.1 h.2.2.1 h.2.2.2,fun h=>by subst h;exact⟨rfl,rfl,rfl,rfl⟩⟩
def kcells (k:KY):List Value:=[.int .i64 k.i,.int .u8 (k.t:Nat),.string k.n,.int .i64 k.c]
theorem ba_ext {a b:ByteArray} (h:a.data.toList=b.data.toList):a=b:=by
 rw[←Lib.mk_data a,←Lib.mk_data b,h]
def cmpI (x y:Int):Int:=if x < y then -1 else if y < x then 1 else 0
def orI (a b c d:Int):Int:=if a≠0 then a else if b≠0 then b else if c≠0 then c else d
def cmpS (a b:ByteArray):Int:=Lib.compareBytes a.data.toList b.data.toList
def cmpK (a b:KY):Int:=orI (cmpI a.i b.i) (cmpI a.t b.t) (cmpS a.n b.n) (cmpI a.c b.c)
def befK (a b:KY):Bool:=decide (cmpK a b < 0)
theorem cmpI_lt {x y:Int}:cmpI x y < 0↔x < y:=by unfold cmpI;split<;>(try split)<;>omega
theorem cmpI_eq {x y:Int}:cmpI x y=0↔x=y:=by unfold cmpI;split<;>(try split)<;>omega
theorem cmpI_swap (x y:Int):cmpI y x=- cmpI x y:=by unfold cmpI;split<;>split<;>(try split)<;>omega
theorem cb_eq:∀(a b:List UInt8),Lib.compareBytes a b=0↔a=b
 | [],[]=>by simp[Lib.compareBytes]
 | [],_::_=>by simp[Lib.compareBytes]
 | _::_,[]=>by simp[Lib.compareBytes]
 | x::a,y::b=>by
  have ih:=cb_eq a b;unfold Lib.compareBytes
  by_cases h1:x < y
  ·rw[if_pos h1];simp only[List.cons.injEq]
   constructor
   ·intro h;omega
   ·rintro ⟨rfl,_⟩;exact absurd h1 (UInt8.lt_irrefl x)
  ·rw[if_neg h1]
   by_cases h2:y < x
   ·rw[if_pos h2];simp only[List.cons.injEq]
    constructor
    ·intro h;omega
    ·rintro ⟨rfl,_⟩;exact absurd h2 (UInt8.lt_irrefl x)
   ·rw[if_neg h2,ih]
    have:x=y:=UInt8.le_antisymm (UInt8.not_lt.1 h2) (UInt8.not_lt.1 h1)
    simp[this]
theorem cb_swap:∀(a b:List UInt8),Lib.compareBytes b a=- Lib.compareBytes a b
 | [],[]=>by simp[Lib.compareBytes]
 | [],_::_=>by simp[Lib.compareBytes]
 | _::_,[]=>by simp[Lib.compareBytes]
 | x::a,y::b=>by
  have ih:=cb_swap a b;unfold Lib.compareBytes
  by_cases h1:x < y
  ·rw[if_pos h1,if_neg (fun h=>UInt8.lt_irrefl x (UInt8.lt_trans h1 h)),if_pos h1];rfl
  ·rw[if_neg h1]
   by_cases h2:y < x
   ·rw[if_pos h2,if_pos h2,if_neg h1]
   ·rw[if_neg h2,if_neg h2,if_neg h1,ih]
theorem cb_trans:∀(a b c:List UInt8),Lib.compareBytes a b < 0→Lib.compareBytes b c < 0→Lib.compareBytes a c < 0
 | [],[],_,h,_=>by simp[Lib.compareBytes] at h
 | _,_::_,[],_,h=>by simp[Lib.compareBytes] at h
 | _::_,[],_,h,_=>by simp[Lib.compareBytes] at h
 | [],_::_,_::_,_,_=>by simp[Lib.compareBytes]
 | x::a,y::b,z::c,h1,h2=>by
  have ih:=cb_trans a b c;unfold Lib.compareBytes at h1 h2 ⊢
  by_cases a1:x < y
  ·by_cases b1:y < z
   ·rw[if_pos (UInt8.lt_trans a1 b1)];omega
   ·rw[if_neg b1] at h2
    by_cases b2:z < y
    ·rw[if_pos b2] at h2;omega
    ·have e:y=z:=UInt8.le_antisymm (UInt8.not_lt.1 b2) (UInt8.not_lt.1 b1);rw[if_pos (e ▸ a1)];omega
  ·rw[if_neg a1] at h1
   by_cases a2:y < x
   ·rw[if_pos a2] at h1;omega
   ·rw[if_neg a2] at h1;have e:x=y:=UInt8.le_antisymm (UInt8.not_lt.1 a2) (UInt8.not_lt.1 a1);subst e
    by_cases b1:x < z
    ·rw[if_pos b1];omega
    ·rw[if_neg b1] at h2 ⊢
     by_cases b2:z < x
     ·rw[if_pos b2] at h2;omega
     ·rw[if_neg b2] at h2 ⊢;exact ih h1 h2
theorem cmpS_eq {a b:ByteArray}:cmpS a b=0↔a=b:=⟨fun h=>ba_ext ((cb_eq _ _).1 h),fun h=>by subst h;exact (cb_eq _ _).2 rfl⟩
theorem cmpS_swap (a b:ByteArray):cmpS b a=- cmpS a b:=cb_swap _ _
theorem cmpS_trans {a b c:ByteArray} (h1:cmpS a b < 0) (h2:cmpS b c < 0):cmpS a c < 0:=cb_trans _ _ _ h1 h2
theorem cmpK_eq {a b:KY}:cmpK a b=0↔a=b:=by
 constructor
 ·intro h;unfold cmpK orI at h
  by_cases h1:cmpI a.i b.i=0
  ·rw[if_neg (by simpa using h1)] at h
   by_cases h2:cmpI a.t b.t=0
   ·rw[if_neg (by simpa using h2)] at h
    by_cases h3:cmpS a.n b.n=0
    ·rw[if_neg (by simpa using h3)] at h;exact KY.ext_ (cmpI_eq.1 h1) (by have:=cmpI_eq.1 h2;omega) (cmpS_eq.1 h3) (cmpI_eq.1 h)
    ·rw[if_pos h3] at h;exact absurd h h3
   ·rw[if_pos h2] at h;exact absurd h h2
  ·rw[if_pos h1] at h;exact absurd h h1
 ·rintro rfl;unfold cmpK;rw[cmpI_eq.2 rfl,cmpI_eq.2 rfl,cmpS_eq.2 rfl,cmpI_eq.2 rfl]
  rfl
theorem orI_neg (a b c d:Int):orI (-a) (-b) (-c) (-d)=- orI a b c d:=by
 unfold orI
 split<;>split<;>(try omega)<;>split<;>split<;>(try omega)<;>split<;>split<;>omega
theorem cmpK_swap (a b:KY):cmpK b a=- cmpK a b:=by
 unfold cmpK;rw[cmpI_swap a.i,cmpI_swap (a.t:Int),cmpS_swap a.n,cmpI_swap a.c,orI_neg]
def LtK (a b:KY):Prop:=a.i < b.i∨a.i=b.i∧(a.t < b.t∨a.t=b.t∧(cmpS a.n b.n < 0∨a.n=b.n∧a.c < b.c))
theorem cmpK_lt {a b:KY}:cmpK a b < 0↔LtK a b:=by
 unfold cmpK orI LtK
 by_cases h1:cmpI a.i b.i=0
 ·rw[if_neg (by simpa using h1)];have e1:=cmpI_eq.1 h1
  by_cases h2:cmpI a.t b.t=0
  ·rw[if_neg (by simpa using h2)];have e2:=cmpI_eq.1 h2
   by_cases h3:cmpS a.n b.n=0
   ·rw[if_neg (by simpa using h3),cmpI_lt];have e3:=cmpS_eq.1 h3
    constructor
    ·intro h;exact .inr ⟨e1,.inr ⟨by omega,.inr ⟨e3,h⟩⟩⟩
    ·rintro (h|⟨_,h|⟨_,h|⟨_,h⟩⟩⟩)
     ·omega
     ·omega
     ·omega
     ·exact h
   ·rw[if_pos h3]
    constructor
    ·intro h;exact .inr ⟨e1,.inr ⟨by omega,.inl h⟩⟩
    ·rintro (h|⟨_,h|⟨_,h|⟨h,_⟩⟩⟩)
     ·omega
     ·omega
     ·exact h
     ·exact absurd (cmpS_eq.2 h) h3
  ·rw[if_pos h2,cmpI_lt]
   constructor
   ·intro h;exact .inr ⟨e1,.inl (by omega)⟩
   ·rintro (h|⟨_,h|⟨h,_⟩⟩)
    ·omega
    ·omega
    ·exact absurd (cmpI_eq.2 (by omega)) h2
 ·rw[if_pos h1,cmpI_lt]
  constructor
  ·intro h;exact .inl h
  ·rintro (h|⟨h,_⟩)
   ·exact h
   ·exact absurd (cmpI_eq.2 h) h1
theorem cmpK_trans {a b c:KY} (h1:cmpK a b < 0) (h2:cmpK b c < 0):cmpK a c < 0:=by
 rw[cmpK_lt] at *;unfold LtK at *
 rcases h1 with h1|⟨e1,h1|⟨f1,h1|⟨g1,h1⟩⟩⟩<;>rcases h2 with h2|⟨e2,h2|⟨f2,h2|⟨g2,h2⟩⟩⟩
 all_goals first
  | exact .inl (by omega)
  | exact .inr ⟨by omega,.inl (by omega)⟩
  | exact .inr ⟨by omega,.inr ⟨by omega,.inl (cmpS_trans h1 h2)⟩⟩
  | exact .inr ⟨by omega,.inr ⟨by omega,.inl (g2 ▸ h1)⟩⟩
  | exact .inr ⟨by omega,.inr ⟨by omega,.inl (g1 ▸ h2)⟩⟩
  | exact .inr ⟨by omega,.inr ⟨by omega,.inr ⟨g1.trans g2,by omega⟩⟩⟩
theorem befK_irr (a:KY):befK a a=false:=by unfold befK;rw[cmpK_eq.2 rfl];rfl
theorem befK_trans {a b c:KY} (h1:befK a b=true) (h2:befK b c=true):befK a c=true:=
 decide_eq_true (cmpK_trans (of_decide_eq_true h1) (of_decide_eq_true h2))
theorem befK_anti {a b:KY} (h1:befK a b=true):befK b a=false:=decide_eq_false (by have:=of_decide_eq_true h1;rw[cmpK_swap a b];omega)
theorem befK_tri (a b:KY):befK a b=true∨a=b∨befK b a=true:=by
 rcases Int.lt_trichotomy (cmpK a b) 0 with h|h|h
 ·exact .inl (decide_eq_true h)
 ·exact .inr (.inl (cmpK_eq.1 h))
 ·exact .inr (.inr (decide_eq_true (by rw[cmpK_swap a b];omega)))
theorem befK_le_trans {a b c:KY} (h1:befK b a=false) (h2:befK c b=false):befK c a=false:=by
 cases h:befK c a with
 | false=>rfl
 | true=>
  rcases befK_tri a b with h3|rfl|h3
  ·rw[befK_trans h h3] at h2;cases h2
  ·rw[h] at h2;cases h2
  ·rw[h3] at h1;cases h1
def mayK (k:KY):Bool:=
 decide (1≤k.i∧k.i≤65535) && (if k.t=1 then decide (k.n.data.toList=[]∧k.c=0) else if k.t=2 then nameL k.n.data.toList && decide (k.c=0)
  else if k.t=3 then decide (k.n.data.toList=[]∧0≤k.c∧k.c < 8) else false)
def nB (s:ByteArray):List Nat:=s.data.toList.map UInt8.toNat
def restK (k:KY):List Nat:=if k.t=2 then k.n.size::nB k.n else if k.t=3 then [k.c.toNat] else []
def keyB (k:KY):List Nat:=[k.i.toNat % 256,k.i.toNat / 256 % 256,k.t]++restK k
def pkL (k:KY):List Nat:=if mayK k=true then keyB k else []
def pkE (k:KY):Int:=if mayK k=true then 0 else 2
theorem nB_len (s:ByteArray):(nB s).length=s.size:=by unfold nB;rw[List.length_map,Lib.size_eq]
theorem may_parts {k:KY} (h:mayK k=true):1≤k.i∧k.i≤65535∧k.t < 256∧(k.t=1∧k.n.data.toList=[]∧k.c=0∨k.t=2∧nameL k.n.data.toList=true∧k.c=0∨k.t=3∧k.n.data.toList=[]∧0≤k.c∧k.c < 8):=by
 unfold mayK at h;simp only[Bool.and_eq_true,decide_eq_true_eq] at h;obtain⟨⟨h1,h2⟩,h3⟩:=h
 by_cases t1:k.t=1
 ·rw[if_pos t1] at h3;have h3:=of_decide_eq_true h3;exact⟨h1,h2,by omega,.inl ⟨t1,h3.1,h3.2⟩⟩
 ·rw[if_neg t1] at h3
  by_cases t2:k.t=2
  ·rw[if_pos t2] at h3;simp at h3;exact⟨h1,h2,by omega,.inr (.inl ⟨t2,h3.1,h3.2⟩)⟩
  ·rw[if_neg t2] at h3
   by_cases t3:k.t=3
   ·rw[if_pos t3] at h3;have h3:=of_decide_eq_true h3;exact⟨h1,h2,by omega,.inr (.inr ⟨t3,h3.1,h3.2⟩)⟩
   ·rw[if_neg t3] at h3;cases h3
theorem may_name {k:KY} (h:mayK k=true):k.n.size≤12:=by
 obtain⟨_,_,_,⟨_,h,_⟩|⟨_,h,_⟩|⟨_,h,_⟩⟩:=may_parts h
 ·rw[Lib.size_eq,h];simp
 ·rw[Lib.size_eq];exact (name_ne h).2.1
 ·rw[Lib.size_eq,h];simp
theorem rest_len {k:KY} (h:mayK k=true):(restK k).length≤13:=by
 have:=may_name h
 unfold restK
 split
 ·simp[nB_len];omega
 ·split<;>simp
theorem pkL_len (k:KY):(pkL k).length≤16:=by
 unfold pkL
 split
 ·rename_i h
  have:=rest_len h
  simp only[keyB,List.length_append,List.length_cons,List.length_nil];omega
 ·simp
end
end Go.Proofs.YtbiihjdjbknibaaGreat
