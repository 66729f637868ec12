/-
  Layer 7: contracts (Ns Gf).
-/
import Derived.Test.YtbiihjdjbknibaaGreatC14
import Derived.Deep.CutBlock
import Derived.Deep.DeepCutAuto
namespace Go.Proofs.YtbiihjdjbknibaaGreat
set_option maxRecDepth 100000
set_option maxHeartbeats 8000000
set_option linter.unusedSimpArgs false
set_option linter.unusedVariables false
section
set_option maxRecDepth 100000
end
section
set_option maxRecDepth 100000
open Go.ChangeShapes Go.WideShapes Go.ChangeAt Go.RowKit
theorem badE_in {s:CSt} {k:Nat} (hk:k < s.nb):badE s k=badAt s k:=by unfold badE;rw[decide_eq_true ⟨by omega,by omega⟩];simp
structure PB where
 w:Nat
 k:Nat
 e:Nat
 s:Nat
structure PSt where
 bl:List PB
 next:Nat
 last:Nat
def PB.cells (b:PB):List Value:=[.int .u8 (b.w:Nat),.int .u8 (b.k:Nat),.int .u32 (b.e:Nat),.int .u64 (b.s:Nat)]
def bCells:List PB→List Value
 | []=>[]
 | b::l=>b.cells++bCells l
structure PB.Ok (b:PB):Prop where
 w:b.w≤2
 k:b.k < 256
 e:b.e < 4294967296
 s:b.s < 18446744073709551616
theorem bCells_len (l:List PB):(bCells l).length=l.length*4:=by
 induction l with
 | nil=>rfl
 | cons b l ih=>simp only[bCells,List.length_append,ih,PB.cells,List.length_cons,List.length_nil];omega
theorem bCells_get (l:List PB) (j:Nat) (v:Value):∀(i:Nat) (b:PB),l[i]?=some b→j < 4→b.cells[j]?=some v→(bCells l)[i*4+j]?=some v:=by
 induction l with
 | nil=>intro i b h;simp at h
 | cons c l ih=>
  intro i b h hj hv
  cases i with
  | zero=>
   simp at h;subst h;simp only[bCells,Nat.zero_mul,Nat.zero_add];rw[List.getElem?_append_left (by simp[PB.cells];omega)];exact hv
  | succ i=>
   simp only[bCells];rw[List.getElem?_append_right (by simp[PB.cells];omega),show (i+1)*4+j - c.cells.length=i*4+j by simp[PB.cells];omega];exact ih i b (by simpa using h) hj hv
theorem bCells_set (l:List PB) (b:PB):∀(i:Nat),i < l.length→((((bCells l).set (i*4) (.int .u8 (b.w:Nat))).set (i*4+1) (.int .u8 (b.k:Nat))).set (i*4+2) (.int .u32 (b.e:Nat))).set (i*4+3) (.int .u64 (b.s:Nat))=bCells (l.set i b):=by
 induction l with
 | nil=>intro i h;simp at h
 | cons c l ih=>
  intro i h
  cases i with
  | zero=>simp[bCells,PB.cells]
  | succ i=>
   have h1:=ih i (by simpa using h)
   have e0:(i+1)*4=i*4+1+1+1+1:=by omega
   simp only[bCells,List.set_cons_succ,PB.cells,e0,List.cons_append,List.nil_append];rw[←h1]
structure PRep (Qc:Nat→Prop) (w:World) (gp gb g:Nat) (s:CSt) (p:PSt):Prop where
 chip:NChip Qc w g s
 pool:Blk w gp 158 [.pointer (some ⟨g,0,none⟩),.slice (some ⟨gb,0,none⟩) s.nb s.nb,.int .i64 (p.next:Nat),.int .u64 (p.last:Nat)]
 blks:Blk w gb 163 (bCells p.bl)
 len:p.bl.length=s.nb
 next:p.next < s.nb
 last:p.last < 18446744073709551616
 okb:∀b∈p.bl,b.Ok
 np:¬Qc gp
 nb:¬Qc gb
section
variable {Qc S:Nat→Prop} {w w':World} {gp gb g:Nat} {s:CSt} {p:PSt}
theorem PRep.new (h:PRep Qc w gp gb g s p) (hk:New w w'):PRep Qc w' gp gb g s p:={ h with chip:=h.chip.new hk,pool:=h.pool.new hk,blks:=h.blks.new hk }
theorem PRep.kept (h:PRep Qc w gp gb g s p) (hk:Kept S w w') (h1:∀b,S b→¬Qc b∧b≠gp∧b≠gb):PRep Qc w' gp gb g s p:=
 { h with chip:=h.chip.kept hk fun b q q2=>(h1 b q2).1 q,pool:=h.pool.kept hk fun q=>(h1 _ q).2.1 rfl,blks:=h.blks.kept hk fun q=>(h1 _ q).2.2 rfl }
theorem PRep.ne (h:PRep Qc w gp gb g s p):gp≠gb:=h.pool.ne_of h.blks (by decide)
theorem PRep.get (h:PRep Qc w gp gb g s p) {i:Nat} (hi:i < s.nb):∃b,p.bl[i]?=some b:=⟨_,List.getElem?_eq_getElem (by rw[h.len];exact hi)⟩
theorem PRep.bcell (h:PRep Qc w gp gb g s p) {i j:Nat} {b:PB} {v:Value} (hb:p.bl[i]?=some b) (hj:j < 4) (hv:b.cells[j]?=some v):w.cell? ⟨gb,i*4+j,none⟩=some v:=by
 rw[h.blks.cell];exact bCells_get _ _ _ _ _ hb hj hv
end
def isV (s:CSt) (p:PSt) (i:Nat):Nat:=if badAt s i=true then 3 else ((p.bl[i]?).map PB.w).getD 0
theorem pNone_no (Qc:Nat→Prop) (gp gb g:Nat) (s:CSt) (p:PSt) (w:World) (h:PRep Qc w gp gb g s p):
  Calls Tryz.prog 85 #[.pointer (some ⟨gp,0,none⟩)] w fun e w'=>e=.returned (.bool false)∧w=w':=by
 have c0:=h.pool.q0;clear h;go_enter Tryz.func85,Tryz.ntmps85;go_wp2;go_ret;exact⟨rfl,rfl⟩
theorem pNone_nil (w:World):Calls Tryz.prog 85 #[.pointer none] w fun e w'=>e=.returned (.bool true)∧w=w':=by
 go_enter Tryz.func85,Tryz.ntmps85;go_wp2;go_ret;exact⟨rfl,rfl⟩
theorem pNone_zero (gp:Nat) (w:World) (c0:w.cell? ⟨gp,0,none⟩=some (.pointer none)):
  Calls Tryz.prog 85 #[.pointer (some ⟨gp,0,none⟩)] w fun e w'=>e=.returned (.bool true)∧w=w':=by
 go_enter Tryz.func85,Tryz.ntmps85;go_wp2;go_ret;exact⟨rfl,rfl⟩
theorem pBehind_any (Qc:Nat→Prop) (gp gb g:Nat) (s:CSt) (p:PSt) (i:Nat) (w:World) (h:PRep Qc w gp gb g s p) (hi:i < s.nb):
  Calls Tryz.prog 84 #[.pointer (some ⟨gp,0,none⟩),.int .i64 (i:Nat)] w fun e w'=>e=.returned (.int .i64 ((i+1) % s.nb:Nat))∧w=w':=by
 have c1:=h.pool.q1;have hnb:=h.chip.ok.nb2;have hnb1:=h.chip.ok.nb1
 have hm:Hid (Int.tmod ((i:Int)+1) (s.nb:Int)=(((i+1) % s.nb:Nat):Int)):=by
  show _=_
  rw[Int.tmod_eq_emod_of_nonneg (by omega),Int.natCast_emod,Int.natCast_add]
  rfl
 have hm2:Hid (((i:Int)+1) % (s.nb:Int)=(((i+1) % s.nb:Nat):Int)):=by show _=_;rw[Int.natCast_emod,Int.natCast_add];rfl
 clear h;generalize (i+1) % s.nb=r at *
 have hpos:(0:Int) < (s.nb:Int):=by omega
 go_enter Tryz.func84,Tryz.ntmps84;go_wp2;go_ret;refine⟨?_,rfl⟩
 first
  | (rw[←hm2.out];rfl)
  | (rw[←hm.out];rfl)
theorem pIs_any (Qc:Nat→Prop) (gp gb g:Nat) (s:CSt) (p:PSt) (i:Nat) (w:World) (h:PRep Qc w gp gb g s p) (hi:i < s.nb):
  Calls Tryz.prog 86 #[.pointer (some ⟨gp,0,none⟩),.int .i64 (i:Nat)] w fun e w'=>e=.returned (.int .u8 (isV s p i:Nat))∧w=w':=by
 have HP:=jH h;have HB:=jH (badE_in hi);obtain⟨c0,c1⟩:=h.pool.p2;obtain⟨b,hb⟩:=h.get hi;have d0:w.cell? ⟨gb,i*4,none⟩=some (.int .u8 (b.w:Nat)):=h.bcell (j:=0) hb (by omega) rfl;have hnb:=h.chip.ok.nb2
 have hii:(i:Int) < (s.nb:Int):=by omega
 cases hbad:badAt s i
 ·have E:Hid (isV s p i=b.w):=by show _=_;unfold isV;rw[hbad,hb];rfl
  rw[E.out];rw[hbad] at HB;clear h hb hbad;go_enter Tryz.func86,Tryz.ntmps86;go_wp2_with fail;refine (nBad_any _ _ _ _ _ HP.out.chip).mono ?_;rintro e w' ⟨rfl,rfl⟩;rw[HB.out];go_wp2;go_ret;exact⟨rfl,rfl⟩
 ·have E:Hid (isV s p i=3):=by show _=_;unfold isV;rw[hbad];rfl
  rw[E.out];rw[hbad] at HB;clear h hb hbad;go_enter Tryz.func86,Tryz.ntmps86;go_wp2_with fail;refine (nBad_any _ _ _ _ _ HP.out.chip).mono ?_;rintro e w' ⟨rfl,rfl⟩;rw[HB.out];go_wp2;go_ret;exact⟨rfl,rfl⟩
end
end Go.Proofs.YtbiihjdjbknibaaGreat
