/-
  Layer 7: contracts (Oc Od Oq Oe).
-/
import Derived.Test.YtbiihjdjbknibaaGreatC38
import Derived.Test.YtbiihjdjbknibaaGreatC37
import Derived.Test.YtbiihjdjbknibaaGreatRows
import Derived.Deep.CondSized
namespace Go.Proofs.YtbiihjdjbknibaaGreat
set_option maxRecDepth 100000
set_option maxHeartbeats 8000000
set_option linter.unusedSimpArgs false
set_option linter.unusedVariables false
section
set_option maxRecDepth 100000
open Go.ChangeShapes Go.WideShapes Go.ChangeAt Go.RowKit
end
section
set_option maxRecDepth 100000
open Go.ChangeShapes Go.WideShapes Go.ChangeAt Go.RowKit
end
section
set_option maxRecDepth 100000
section
open Go.ChangeShapes Go.WideShapes Go.ChangeAt Go.RowKit
def OwnR (w:World) (B:Nat) (A:Option Addr) (c n:Nat):Prop:=
 (A=none∧c=0∧n=0)∨∃(g:Nat) (xs:List Nat),A=some ⟨g,0,none⟩∧B≤g∧Blk w g 5 (xs.map byt)∧(∀x∈xs,x < 256)∧xs.length=c∧n≤c∧c≤maxLen
theorem OwnR.kept {S:Nat→Prop} {w w':World} {B c n:Nat} {A:Option Addr} (h:OwnR w B A c n) (hk:Kept S w w') (hn:∀a,A=some a→¬S a.block):OwnR w' B A c n:=by
 rcases h with h|⟨g,xs,rfl,h1,h2,h3⟩
 ·exact .inl h
 ·exact .inr ⟨g,xs,rfl,h1,h2.kept hk (hn _ rfl),h3⟩
theorem OwnR.at_ {w:World} {B c n:Nat} {A:Option Addr} (h:OwnR w B A c n):∀a,A=some a→At w a.block 5∧B≤a.block:=by
 rintro a rfl
 rcases h with ⟨h,_⟩|⟨g,xs,h,hB,hblk,_⟩
 ·cases h
 ·injection h with h;subst h;exact⟨hblk.at_,hB⟩
end
section
open Go.ChangeShapes Go.WideShapes Go.ChangeAt Go.RowKit
def COwn (w:World) (B:Nat) (A:Option Addr) (c:Nat) (es:List CE):Prop:=
 OwnV w 105 6 B A es.length c (ces es)∧∀e∈es,OwnB w 5 B e.A e.c e.f.v∧e.f.v.length≤140737488351232∧e.f.k.n.size≤maxLen
theorem cts_lenE (es:List CE):(cts es).length=es.length:=by unfold cts;rw[List.length_map]
section
variable {w w':World} {A:Option Addr} {c B:Nat} {es:List CE}
theorem COwn.nil (w:World) (B:Nat):COwn w B none 0 []:=⟨OwnV.nil _ _ _ _,by simp⟩
theorem COwn.new (h:COwn w B A c es) (hk:New w w'):COwn w' B A c es:=⟨h.1.new hk,fun e he=>⟨(h.2 e he).1.new hk,(h.2 e he).2⟩⟩
theorem COwn.in_ (h:COwn w B A c es):CIn w A es.length es:=by
 refine⟨h.1.row,fun e he=>?_⟩;obtain⟨h1,h2,h3⟩:=h.2 e he;refine⟨h1.bts,fun hA=>?_,h2,h3⟩
 rcases h1.2 with ⟨_,e1,e2⟩|⟨g,sp,e1,_⟩
 ·exact⟨e1,by rw[e2];rfl⟩
 ·rw[hA] at e1;cases e1
theorem COwn.none (h:COwn w B A c es) (hA:A=none):c=0∧es.length=0:=by
 obtain⟨_,h2,_,h4⟩:=h.1
 rcases h4 with ⟨_,h⟩|⟨g,sp,h,_⟩
 ·omega
 ·rw[hA] at h;cases h
theorem COwn.more {w5 w7:World} {B k:Nat} {A A2:Option Addr} {c c2:Nat} {es:List CE} {x:CT} {A4:Option Addr} {c4:Nat} (h:COwn w5 B A c es) (o4:OwnB w7 5 B A4 c4 x.v)
  (hx:x.v.length≤140737488351232∧x.k.n.size≤maxLen) (k7:Kept (InRow A) w5 w7) (hk:es.length=k)
  (o7:OwnV w7 105 6 B A2 (k+1) c2 (ces es++[.int .i64 x.k.i,.int .u8 (x.k.t:Nat),.string x.k.n,.int .i64 x.k.c,.slice A4 x.v.length c4,.bool x.g])):COwn w7 B A2 c2 (es++[⟨x,A4,c4⟩]):=by
 refine⟨?_,fun e he=>?_⟩
 ·rw[List.length_append,ces_append,hk];exact o7
 ·rcases List.mem_append.1 he with he|he
  ·obtain⟨h1,h2⟩:=h.2 e he;refine⟨h1.kept k7 fun a ha hr=>?_,h2⟩;obtain⟨b,hb,e2⟩:=hr;exact (h1.at_ a ha).1.ne_of (e2 ▸ (h.1.at_ b hb).1) (by decide) rfl
  ·simp only[List.mem_cons,List.not_mem_nil,or_false] at he;subst he;exact⟨o4,hx⟩
end
end
end
section
set_option maxRecDepth 100000
open Go.ChangeShapes Go.WideShapes Go.ChangeAt Go.RowKit Go.Deep
end
end Go.Proofs.YtbiihjdjbknibaaGreat
