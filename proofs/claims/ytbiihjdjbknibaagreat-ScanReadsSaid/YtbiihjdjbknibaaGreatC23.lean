/-
  Layer 7: contracts (Vn Fb).
-/
import Derived.Test.YtbiihjdjbknibaaGreatRows
import Derived.Test.YtbiihjdjbknibaaGreatC22
import Derived.Handy
import Derived.Deep.Matrix
import Derived.Deep.CutBlock
import Derived.Deep.DeepCutAuto
import Derived.Test.YtbiihjdjbknibaaGreatC04
import Derived.Shelf.Small.Strs
import Derived.StillTailTactics
namespace Go.Proofs.YtbiihjdjbknibaaGreat
set_option maxRecDepth 100000
set_option maxHeartbeats 8000000
set_option linter.unusedSimpArgs false
set_option linter.unusedVariables false
section
set_option maxRecDepth 100000
open Go.RowKit
def okN (x:Nat):Bool:=decide (97≤x∧x≤122∨48≤x∧x≤57∨x=46∨x=45)
theorem okB_n (b:UInt8):okB b=okN b.toNat:=rfl
theorem isNameByte_any (x:Nat) (w:World):
    Calls Tryz.prog 159 #[.int .u8 x] w fun e w'=>e=.returned (.bool (okN x))∧w'=w:=by
  go_enter Tryz.func159,Tryz.ntmps159
  by_cases h1:97≤x
  · by_cases h2:x≤122
    · have e:okN x=true:=by unfold okN;simp;omega
      have d2:decide ((x:Int)≤122)=true:=decide_eq_true (by omega);go_wp2;go_ret;exact⟨by first|rfl|(rw[e];rfl),rfl⟩
    · have d2:decide ((x:Int)≤122)=false:=decide_eq_false (by omega)
      have d3:decide ((x:Int)≤57)=false:=decide_eq_false (by omega);have d4:((x:Int) == 46)=false:=beq_eq_false_iff_ne.2 (by omega);have d5:((x:Int) == 45)=false:=beq_eq_false_iff_ne.2 (by omega)
      have e:okN x=false:=by unfold okN;simp;omega
      have h3:48≤x:=by omega
      have h4:¬x≤57:=by omega
      have h5:¬x=46:=by omega
      have h6:¬x=45:=by omega
      go_wp2;go_ret;exact⟨by first|rfl|(rw[e];rfl),rfl⟩
  · by_cases h3:48≤x
    · by_cases h4:x≤57
      · have e:okN x=true:=by unfold okN;simp;omega
        go_wp2;go_ret;exact⟨by first|rfl|(rw[e];rfl),rfl⟩
      · have e:okN x=false:=by unfold okN;simp;omega
        have h5:¬x=46:=by omega
        have h6:¬x=45:=by omega
        go_wp2;go_ret;exact⟨by first|rfl|(rw[e];rfl),rfl⟩
    · by_cases h5:x=46
      · subst h5
        go_wp2;go_ret;exact⟨rfl,rfl⟩
      · by_cases h6:x=45
        · subst h6
          go_wp2;go_ret;exact⟨rfl,rfl⟩
        · have e:okN x=false:=by unfold okN;simp;omega
          go_wp2;go_ret;exact⟨by first|rfl|(rw[e];rfl),rfl⟩
theorem name_true {l:List UInt8} (h0:0 < l.length) (h1:l.length≤12) (h2:l≠[46]) (h3:l≠[46,46]) (h:l.all okB=true):nameL l=true:=by
  unfold nameL;simp[h0,h1,h2,h3,h]
theorem name_false {l:List UInt8} (h:l.all okB=false):nameL l=false:=by
  unfold nameL;simp[h]
theorem of_list {s:ByteArray} {l:List UInt8} (h:s.data.toList=l):s=⟨l.toArray⟩:=by rw[←h,Lib.mk_data]
theorem at_list (s:ByteArray) (k:Nat) (h:k < s.size):s.data.toList[k]?=some s[k]:=by
  have h':k < s.data.toList.length:=by rw[←Lib.size_eq];exact h
  rw[List.getElem?_eq_getElem h']
  rfl
theorem all_succ (l:List UInt8) (k:Nat) (b:UInt8) (h:l[k]?=some b):(l.take (k+1)).all okB=((l.take k).all okB && okB b):=by
  rw[List.take_add_one,h];simp
theorem all_bad (l:List UInt8) (k:Nat) (b:UInt8) (h:l[k]?=some b) (hb:okB b=false):l.all okB=false:=by
  cases e:l.all okB with
  | false=>rfl
  | true=>rw[List.all_eq_true.1 e b (List.mem_of_getElem? h)] at hb;cases hb
theorem name_any (s:ByteArray) (w:World) (hs:s.size≤maxLen):
    Calls Tryz.prog 158 #[.string s] w fun e w'=>e=.returned (.bool (nameL s.data.toList))∧w'=w:=by
  unfold maxLen at hs
  by_cases e0:s.data.toList=[]
  · obtain rfl:=of_list e0
    clear e0 hs;go_enter Tryz.func158,Tryz.ntmps158;go_wp2;go_ret;exact⟨rfl,rfl⟩
  by_cases e1:s.data.toList=[46]
  · obtain rfl:=of_list e1
    clear e0 e1 hs;go_enter Tryz.func158,Tryz.ntmps158;go_wp2;go_ret;exact⟨rfl,rfl⟩
  by_cases e2:s.data.toList=[46,46]
  · obtain rfl:=of_list e2
    clear e0 e1 e2 hs;go_enter Tryz.func158,Tryz.ntmps158;go_wp2;go_ret;exact⟨rfl,rfl⟩
  have E0:=jH e0;have E1:=jH e1;have E2:=jH e2
  have hne:¬s.toList=[]:=by rw[Lib.toList_data];exact e0
  have hie:s.toList.isEmpty=false:=by rw[Lib.toList_data];cases h:s.data.toList with
    | nil=>exact absurd h e0
    | cons _ _=>rfl
  have q1:(s.toList == [46])=false:=by rw[Lib.toList_data];exact beq_eq_false_iff_ne.2 e1
  have q2:(s.toList == [46,46])=false:=by rw[Lib.toList_data];exact beq_eq_false_iff_ne.2 e2
  have q3:¬s.toList=[46]:=by rw[Lib.toList_data];exact e1
  have q4:¬s.toList=[46,46]:=by rw[Lib.toList_data];exact e2
  clear e0 e1 e2
  by_cases h1:s.size≤12
  · have hgt:decide (12 < (s.size:Int))=false:=decide_eq_false (by omega)
    go_enter Tryz.func158,Tryz.ntmps158;go_wp2_with fail;clear hne hie q1 q2 q3 q4
    go_loopw [21] (fun i wr=>∃k:Nat,k≤s.size∧i=.int .i64 k∧wr=w∧Hid ((s.data.toList.take k).all okB=true)) (fun i _=>s.size - (intOf i).toNat)
    case atStart=>exact⟨0,Nat.zero_le _,rfl,rfl,rfl⟩
    case round=>
      obtain⟨k,hk,rfl,rfl,hall⟩:=hrel
      by_cases hlt:k < s.size
      · have HB:=jH (at_list s k hlt)
        go_wp2_with fail;refine (isNameByte_any _ _).mono ?_;rintro e w1 ⟨rfl,rfl⟩
        cases hb:okN (s[k].toNat) with
        | true=>
          go_wp2;go_roundw
          case rel=>exact⟨k+1,by omega,by go_num,by first|rfl|trivial,by rw[Hid,all_succ _ _ _ HB.out,hall.out,okB_n,hb];rfl⟩
          case measure=>simp[intOf];omega
        | false=>
          have hn:=all_bad _ _ _ HB.out (by rw[okB_n,hb]);go_wp2;go_ret;exact⟨by first|rfl|(rw[name_false hn];rfl),rfl⟩
      · have e:k=s.size:=by omega
        have hn:nameL s.data.toList=true:=by
          have hz:=Lib.size_eq s;have h0:0 < s.data.toList.length:=List.length_pos_iff.2 E0.out;refine name_true h0 (by omega) E1.out E2.out ?_
          have:=hall.out
          rwa [e,hz,List.take_length] at this
        clear hall;go_wp2;go_ret;exact⟨by first|rfl|(rw[hn];rfl),rfl⟩
  · have hgt:decide (12 < (s.size:Int))=true:=decide_eq_true (by omega)
    have hn:nameL s.data.toList=false:=by
      have hz:=Lib.size_eq s
      have:¬s.data.toList.length≤12:=by omega
      unfold nameL;rw[decide_eq_false (fun h=>this h.2.1)]
      rfl
    go_enter Tryz.func158,Tryz.ntmps158;go_wp2;go_ret;exact⟨by first|rfl|(rw[hn];rfl),rfl⟩
def Six (x:Nat) (b1 b2 b3 b4 b5 b6 b:Bool):Prop:=
  decide ((97:Int)≤(x:Int))=b1∧decide ((x:Int)≤122)=b2∧decide ((48:Int)≤(x:Int))=b3∧decide ((x:Int)≤57)=b4∧((x:Int) == 46)=b5∧((x:Int) == 45)=b6∧okN x=b
theorem six (x:Nat):Six x true true true false false false true∨Six x true false true false false false false∨Six x false true true true false false true∨Six x false true true false false false false ∨
    Six x false true false true true false true∨Six x false true false true false true true∨Six x false true false true false false false:=by
  simp only[Six,decide_eq_true_eq,decide_eq_false_iff_not,beq_iff_eq,beq_eq_false_iff_ne,ne_eq,okN];omega
theorem rname_any (s:ByteArray) (w:World) (hs:s.size≤maxLen):
    Calls Tryz.prog 129 #[.string s] w fun e w'=>e=.returned (.bool (nameL s.data.toList))∧w'=w:=by
  unfold maxLen at hs;go_enter Tryz.func129,Tryz.ntmps129;go_wp2_with fail
  go_loopw [3,4] (fun i _ wr=>∃k:Nat,k≤s.size∧i=.int .i64 k∧wr=w∧Hid ((s.data.toList.take k).all okB=true)) (fun i _ _=>s.size - (intOf i).toNat)
  case atStart=>exact⟨0,Nat.zero_le _,rfl,rfl,rfl⟩
  case round=>
    obtain⟨k,hk,rfl,rfl,hall⟩:=hrel
    by_cases hlt:k < s.size
    · have HB:=jH (at_list s k hlt)
      rcases six (s[k].toNat) with ⟨d1,d2,d3,d4,d5,d6,hb⟩|⟨d1,d2,d3,d4,d5,d6,hb⟩|⟨d1,d2,d3,d4,d5,d6,hb⟩|⟨d1,d2,d3,d4,d5,d6,hb⟩|⟨d1,d2,d3,d4,d5,d6,hb⟩|⟨d1,d2,d3,d4,d5,d6,hb⟩|⟨d1,d2,d3,d4,d5,d6,hb⟩
      all_goals have HO:=jH hb
      all_goals clear hb
      all_goals first
        | (have hn:=all_bad _ _ _ HB.out (by rw[okB_n,HO.out]);have hn2:=jH (name_false hn);clear hn;go_wp2;go_ret;exact⟨by first|rfl|(rw[hn2.out];rfl),rfl⟩)
        | (go_wp2
           go_roundw
           case rel=>exact⟨k+1,by omega,by go_num,by first|rfl|trivial,by rw[Hid,all_succ _ _ _ HB.out,hall.out,okB_n,HO.out];rfl⟩
           case measure=>simp[intOf];omega)
    · have e:k=s.size:=by omega
      have hfull:s.data.toList.all okB=true:=by
        have:=hall.out
        rwa [e,Lib.size_eq s,List.take_length] at this
      clear hall
      by_cases e0:s.data.toList=[]
      · obtain rfl:=of_list e0
        clear e0 hs hfull;obtain rfl:k=0:=e;go_wp2;go_ret;exact⟨rfl,rfl⟩
      by_cases e1:s.data.toList=[46]
      · obtain rfl:=of_list e1
        clear e0 e1 hs hfull;obtain rfl:k=1:=e;go_wp2;go_ret;exact⟨rfl,rfl⟩
      by_cases e2:s.data.toList=[46,46]
      · obtain rfl:=of_list e2
        clear e0 e1 e2 hs hfull;obtain rfl:k=2:=e;go_wp2;go_ret;exact⟨rfl,rfl⟩
      have hz:=Lib.size_eq s
      have hpos:0 < s.size:=by rw[hz];exact List.length_pos_iff.2 e0
      have q1:(s.toList == [46])=false:=by rw[Lib.toList_data];exact beq_eq_false_iff_ne.2 e1
      have q2:(s.toList == [46,46])=false:=by rw[Lib.toList_data];exact beq_eq_false_iff_ne.2 e2
      have q3:¬s.toList=[46]:=by rw[Lib.toList_data];exact e1
      have q4:¬s.toList=[46,46]:=by rw[Lib.toList_data];exact e2
      by_cases h12:s.size≤12
      · have hn:=jH (name_true (by omega) (by omega) e1 e2 hfull)
        have d12:decide ((s.size:Int)≤12)=true:=decide_eq_true (by omega);clear hz hfull e0 e1 e2;go_wp2;go_ret;exact⟨by first|rfl|(rw[hn.out];rfl),rfl⟩
      · have hn:nameL s.data.toList=false:=by
          have:¬s.data.toList.length≤12:=by omega
          unfold nameL;rw[decide_eq_false (fun h=>this h.2.1)]
          rfl
        have hn:=jH hn;have d12:decide ((s.size:Int)≤12)=false:=decide_eq_false (by omega);clear hz hfull e0 e1 e2;go_wp2;go_ret;exact⟨by first|rfl|(rw[hn.out];rfl),rfl⟩
end
section
set_option maxRecDepth 100000
open Go.RowKit
def Num (w:World) (z:Int) (e:Ending) (w':World):Prop:=e=.returned (.int .i64 z)∧w=w'
def NewBool (w:World) (b:Bool) (e:Ending) (w':World):Prop:=e=.returned (.bool b)∧New w w'
def NewNum (w:World) (z:Int) (e:Ending) (w':World):Prop:=e=.returned (.int .i64 z)∧New w w'
theorem isIno_any (i:Int) (w:World):Calls Tryz.prog 157 #[.int .i64 i] w fun e w'=>e=.returned (.bool (decide (1≤i∧i≤65535)))∧w=w':=by
 by_cases h1:1≤i
 ·by_cases h2:i≤65535
  ·have e:decide (1≤i∧i≤65535)=true:=decide_eq_true ⟨h1,h2⟩;rw[e];clear e;go_enter Tryz.func157,Tryz.ntmps157;go_wp2;go_ret;exact⟨rfl,rfl⟩
  ·have e:decide (1≤i∧i≤65535)=false:=decide_eq_false fun h=>h2 h.2
   rw[e];clear e;go_enter Tryz.func157,Tryz.ntmps157;go_wp2;go_ret;exact⟨rfl,rfl⟩
 ·have e:decide (1≤i∧i≤65535)=false:=decide_eq_false fun h=>h1 h.1
  rw[e];clear e;have d1:decide (1≤i)=false:=decide_eq_false h1;go_enter Tryz.func157,Tryz.ntmps157;go_wp2;go_ret;exact⟨rfl,rfl⟩
theorem nanI_any (x:Int) (w:World):Calls Tryz.prog 138 #[.int .i64 x] w fun e w'=>e=.returned (.bool false)∧w=w':=by
 go_enter Tryz.func138,Tryz.ntmps138;go_wp2;go_ret;exact⟨by simp,rfl⟩
theorem nan8_any (x:Int) (w:World):Calls Tryz.prog 139 #[.int .u8 x] w fun e w'=>e=.returned (.bool false)∧w=w':=by
 go_enter Tryz.func139,Tryz.ntmps139;go_wp2;go_ret;exact⟨by simp,rfl⟩
theorem cmpInt_any (x y:Int) (w:World):Calls Tryz.prog 115 #[.int .i64 x,.int .i64 y] w (Num w (cmpI x y)):=by
 rcases Int.lt_trichotomy x y with h|h|h
 ·have E:cmpI x y=-1:=by unfold cmpI;rw[if_pos h]
  rw[E];have j1:decide (x < y)=true:=decide_eq_true h;go_enter Tryz.func115,Tryz.ntmps115
  go_wp2_with (first|(go_at_call 138;refine (nanI_any _ _).mono ?_;rintro e w' ⟨rfl,rfl⟩))
  go_ret;exact⟨rfl,rfl⟩
 ·have E:cmpI x y=0:=by unfold cmpI;rw[if_neg (by omega),if_neg (by omega)]
  rw[E];subst h;go_enter Tryz.func115,Tryz.ntmps115
  go_wp2_with (first|(go_at_call 138;refine (nanI_any _ _).mono ?_;rintro e w' ⟨rfl,rfl⟩))
  go_ret;exact⟨rfl,rfl⟩
 ·have E:cmpI x y=1:=by unfold cmpI;rw[if_neg (by omega),if_pos h]
  rw[E];have j1:decide (x < y)=false:=decide_eq_false (by omega);have j2:decide (y < x)=true:=decide_eq_true h;go_enter Tryz.func115,Tryz.ntmps115
  go_wp2_with (first|(go_at_call 138;refine (nanI_any _ _).mono ?_;rintro e w' ⟨rfl,rfl⟩))
  go_ret;exact⟨rfl,rfl⟩
theorem cmp8_any (x y:Int) (w:World):Calls Tryz.prog 116 #[.int .u8 x,.int .u8 y] w (Num w (cmpI x y)):=by
 rcases Int.lt_trichotomy x y with h|h|h
 ·have E:cmpI x y=-1:=by unfold cmpI;rw[if_pos h]
  rw[E];have j1:decide (x < y)=true:=decide_eq_true h;go_enter Tryz.func116,Tryz.ntmps116
  go_wp2_with (first|(go_at_call 139;refine (nan8_any _ _).mono ?_;rintro e w' ⟨rfl,rfl⟩))
  go_ret;exact⟨rfl,rfl⟩
 ·have E:cmpI x y=0:=by unfold cmpI;rw[if_neg (by omega),if_neg (by omega)]
  rw[E];subst h;go_enter Tryz.func116,Tryz.ntmps116
  go_wp2_with (first|(go_at_call 139;refine (nan8_any _ _).mono ?_;rintro e w' ⟨rfl,rfl⟩))
  go_ret;exact⟨rfl,rfl⟩
 ·have E:cmpI x y=1:=by unfold cmpI;rw[if_neg (by omega),if_pos h]
  rw[E];have j1:decide (x < y)=false:=decide_eq_false (by omega);have j2:decide (y < x)=true:=decide_eq_true h;go_enter Tryz.func116,Tryz.ntmps116
  go_wp2_with (first|(go_at_call 139;refine (nan8_any _ _).mono ?_;rintro e w' ⟨rfl,rfl⟩))
  go_ret;exact⟨rfl,rfl⟩
theorem compareString_any (a b:ByteArray) (w:World):Calls Tryz.prog 140 #[.string a,.string b] w (Num w (cmpS a b)):=by
 go_enter Tryz.func140,Tryz.ntmps140;go_wp2;rw[run_callFunc_extern Tryz.func148 (by kernel_rfl) (by kernel_rfl) (by kernel_rfl) (e:=Extern.BytealgCompare.compare) (by kernel_rfl),Lib.run_compareString];simp only[Result.andThen];rw[Oper.upon_value];go_wp2;go_ret;exact⟨rfl,rfl⟩
theorem compareS_any (a b:ByteArray) (w:World):Calls Tryz.prog 117 #[.string a,.string b] w (Num w (cmpS a b)):=by
 go_enter Tryz.func117,Tryz.ntmps117
 go_wp2_with (go_at_call 140;refine (compareString_any _ _ _).mono ?_;rintro e w' ⟨rfl,rfl⟩)
 go_ret;exact⟨rfl,rfl⟩
theorem or_any (g:Nat) (x0 x1 x2 x3:Int) (w:World) (h:Blk w g 3 [.int .i64 x0,.int .i64 x1,.int .i64 x2,.int .i64 x3]):
  Calls Tryz.prog 114 #[.slice (some ⟨g,0,none⟩) 4 4] w (Num w (orI x0 x1 x2 x3)):=by
 obtain⟨c0,c1,c2,c3⟩:=h.p4;clear h;go_enter Tryz.func114,Tryz.ntmps114;go_wp2_with fail
 by_cases h0:x0=0
 ·subst h0
  by_cases h1:x1=0
  ·subst h1
   by_cases h2:x2=0
   ·subst h2
    by_cases h3:x3=0
    ·subst h3;refine wp_loop_rounds 5 ?_;rw[rounds_succ];go_wp2_with fail;rw[rounds_succ];go_wp2_with fail;rw[rounds_succ];go_wp2_with fail;rw[rounds_succ];go_wp2_with fail;rw[rounds_succ];go_wp2;go_ret;exact⟨rfl,rfl⟩
    ·have HE:Hid (orI 0 0 0 x3=x3):=by show _=_;simp[orI]
     have d3:(x3 != 0)=true:=bne_iff_ne.2 h3;clear h3;refine wp_loop_rounds 4 ?_;rw[rounds_succ];go_wp2_with fail;rw[rounds_succ];go_wp2_with fail;rw[rounds_succ];go_wp2_with fail;rw[rounds_succ];go_wp2;go_ret;exact⟨by rw[HE.out];rfl,rfl⟩
   ·have HE:Hid (orI 0 0 x2 x3=x2):=by show _=_;simp[orI,h2]
    have d3:(x2 != 0)=true:=bne_iff_ne.2 h2;clear h2;refine wp_loop_rounds 3 ?_;rw[rounds_succ];go_wp2_with fail;rw[rounds_succ];go_wp2_with fail;rw[rounds_succ];go_wp2;go_ret;exact⟨by rw[HE.out];rfl,rfl⟩
  ·have HE:Hid (orI 0 x1 x2 x3=x1):=by show _=_;simp[orI,h1]
   have d3:(x1 != 0)=true:=bne_iff_ne.2 h1;clear h1;refine wp_loop_rounds 2 ?_;rw[rounds_succ];go_wp2_with fail;rw[rounds_succ];go_wp2;go_ret;exact⟨by rw[HE.out];rfl,rfl⟩
 ·have HE:Hid (orI x0 x1 x2 x3=x0):=by show _=_;simp[orI,h0]
  have d3:(x0 != 0)=true:=bne_iff_ne.2 h0;clear h0;refine wp_loop_rounds 1 ?_;rw[rounds_succ];go_wp2;go_ret;exact⟨by rw[HE.out];rfl,rfl⟩
theorem cmpInt_s (x y:Int) (w:World):Calls Tryz.prog 115 #[.int .i64 x,.int .i64 y] w fun e w'=>e=.returned (.int .i64 (cmpI x y))∧w'=w:=(cmpInt_any x y w).mono fun _ _ h=>⟨h.1,h.2.symm⟩
theorem cmp8_s (x y:Int) (w:World):Calls Tryz.prog 116 #[.int .u8 x,.int .u8 y] w fun e w'=>e=.returned (.int .i64 (cmpI x y))∧w'=w:=(cmp8_any x y w).mono fun _ _ h=>⟨h.1,h.2.symm⟩
theorem compareS_s (a b:ByteArray) (w:World):Calls Tryz.prog 117 #[.string a,.string b] w fun e w'=>e=.returned (.int .i64 (cmpS a b))∧w'=w:=(compareS_any a b w).mono fun _ _ h=>⟨h.1,h.2.symm⟩
theorem compare_any (a b:KY) (w:World):
  Calls Tryz.prog 95 #[.agg #[.int .i64 a.i,.int .u8 (a.t:Nat),.string a.n,.int .i64 a.c],.agg #[.int .i64 b.i,.int .u8 (b.t:Nat),.string b.n,.int .i64 b.c]] w (NewNum w (cmpK a b)):=by
 obtain⟨ai,at_,an,ac⟩:=a;obtain⟨bi,bt,bn,bc⟩:=b
 show Calls Tryz.prog 95 #[.agg #[.int .i64 ai,.int .u8 (at_:Nat),.string an,.int .i64 ac],.agg #[.int .i64 bi,.int .u8 (bt:Nat),.string bn,.int .i64 bc]] w (NewNum w (orI (cmpI ai bi) (cmpI at_ bt) (cmpS an bn) (cmpI ac bc)))
 generalize hz0:cmpI ai bi=z0;generalize hz1:cmpI at_ bt=z1;generalize hz2:cmpS an bn=z2;generalize hz3:cmpI ac bc=z3
 have S0:∀u:World,Calls Tryz.prog 115 #[.int .i64 ai,.int .i64 bi] u fun e w'=>e=.returned (.int .i64 z0)∧w'=u:=fun u=>by rw[←hz0];exact cmpInt_s _ _ _
 have S1:∀u:World,Calls Tryz.prog 116 #[.int .u8 (at_:Nat),.int .u8 (bt:Nat)] u fun e w'=>e=.returned (.int .i64 z1)∧w'=u:=fun u=>by rw[←hz1];exact cmp8_s _ _ _
 have S2:∀u:World,Calls Tryz.prog 117 #[.string an,.string bn] u fun e w'=>e=.returned (.int .i64 z2)∧w'=u:=fun u=>by rw[←hz2];exact compareS_s _ _ _
 have S3:∀u:World,Calls Tryz.prog 115 #[.int .i64 ac,.int .i64 bc] u fun e w'=>e=.returned (.int .i64 z3)∧w'=u:=fun u=>by rw[←hz3];exact cmpInt_s _ _ _
 clear hz0 hz1 hz2 hz3;have T0:=jH S0;have T1:=jH S1;have T2:=jH S2;have T3:=jH S3;clear S0 S1 S2 S3;obtain⟨w2,hw2⟩:∃w2,w2=(w.alloc (.cells #[.int .i64 ai,.int .u8 (at_:Nat),.string an,.int .i64 ac] 92)).alloc (.cells #[.int .i64 bi,.int .u8 (bt:Nat),.string bn,.int .i64 bc] 92):=⟨_,rfl⟩
 have K2:Hid (New w w2):=by rw[hw2];exact (kR.alloc _).alloc _
 have B1:Hid (Blk w2 w.heap.size 92 [.int .i64 ai,.int .u8 (at_:Nat),.string an,.int .i64 ac]):=by rw[hw2];exact (Blk.made w _ _).alloc _
 have B2:Hid (Blk w2 (w.heap.size+1) 92 [.int .i64 bi,.int .u8 (bt:Nat),.string bn,.int .i64 bc]):=by
  rw[hw2]
  have:=Blk.made (w.alloc (.cells #[.int .i64 ai,.int .u8 (at_:Nat),.string an,.int .i64 ac] 92)) 92 #[.int .i64 bi,.int .u8 (bt:Nat),.string bn,.int .i64 bc]
  rwa [World.size_alloc] at this
 have HW:=jH hw2;clear hw2;go_enter Tryz.func95,Tryz.ntmps95;go_wp2_with fail;rw[←HW.out];clear HW;obtain⟨a0,a1,a2,a3⟩:=B1.out.p4;obtain⟨b0,b1,b2,b3⟩:=B2.out.p4;clear B1 B2
 go_still_tail 20,(by kernel_rfl)
 still_call (T0.out _)
 repeat still_step
 still_call (T1.out _)
 repeat still_step
 still_call (T2.out _)
 repeat still_step
 still_call (T3.out _)
 refine wpStill_nil ?_
 change wpList _ _ _ _ _ w2.drew
 have K1:Hid (New w w2.drew):=K2.out.drew;clear T0 T1 T2 T3 a0 a1 a2 a3 b0 b1 b2 b3 K2;generalize w2.drew=w1 at *;go_wp2_with fail;refine (or_any w1.heap.size z0 z1 z2 z3 _ (Blk.made w1 3 #[.int .i64 z0,.int .i64 z1,.int .i64 z2,.int .i64 z3])).mono ?_;rintro e w2 ⟨rfl,rfl⟩;go_wp2;go_ret;exact⟨rfl,K1.out.alloc _⟩
end
end Go.Proofs.YtbiihjdjbknibaaGreat
