/-
  Layer 7: contracts (Vd Lu Ve).
-/
import Derived.Test.YtjjamoemheljdaaGreatC02
import Derived.Test.YtjjamoemheljdaaGreatRows
import Derived.Deep.CondSized
namespace Go.Proofs.YtjjamoemheljdaaGreat
set_option maxRecDepth 100000
set_option maxHeartbeats 8000000
set_option linter.unusedSimpArgs false
set_option linter.unusedVariables false
section
open Go.RowKit
def Txs (w:World) (A:Option Addr) (n:Nat) (g:List (List UInt8)):Prop:=RowV w A n 1 (g.map tx)
section
variable {S:Nat→Prop} {w w':World} {A:Option Addr} {n:Nat} {g:List (List UInt8)}
theorem Txs.len (h:Txs w A n g):g.length=n:=by have:=h.1;simpa using this
theorem Txs.kept (h:Txs w A n g) (hk:Kept S w w') (hn:∀a,A=some a→¬S a.block):Txs w' A n g:=RowV.kept h hk hn
theorem Txs.new (h:Txs w A n g) (hk:New w w'):Txs w' A n g:=RowV.new h hk
theorem Txs.drewN (h:Txs w A n g) (k:Nat):Txs (w.drewN k) A n g:=h
theorem Txs.nil (w:World) (A:Option Addr):Txs w A 0 []:=RowV.nil w A 1
theorem Txs.at_ {j:Nat} (h:Txs w A n g) (hj:j < n):∃(b o:Nat) (x:List UInt8),A=some ⟨b,o,none⟩∧g[j]?=some x∧w.cell? ⟨b,o+j,none⟩=some (.string ⟨x.toArray⟩):=by
 have hl:=h.len;obtain⟨b,o,e,hc⟩:=h.2 (by omega)
 have hj':j < g.length:=by omega
 exact⟨b,o,g[j],e,List.getElem?_eq_getElem hj',hc j _ (by rw[List.getElem?_map,List.getElem?_eq_getElem hj'];rfl)⟩
theorem Txs.take {k:Nat} (h:Txs w A n g) (hk:k≤n):Txs w A k (g.take k):=by
 have hl:=h.len;obtain⟨h1,h2⟩:=h;refine⟨by simp;omega,fun h0=>?_⟩;obtain⟨b,o,e,hc⟩:=h2 (by omega);refine⟨b,o,e,fun j v hv=>hc j v ?_⟩;rw[List.map_take,List.getElem?_take] at hv
 split at hv
 ·exact hv
 ·cases hv
end
def OwnT (w:World) (B:Nat) (A:Option Addr) (c:Nat) (g:List (List UInt8)):Prop:=OwnV w 9 1 B A g.length c (g.map tx)
theorem OwnT.txs {w:World} {B:Nat} {A:Option Addr} {c:Nat} {g:List (List UInt8)} (h:OwnT w B A c g):Txs w A g.length g:=OwnV.row h
theorem OwnT.new {w w':World} {B:Nat} {A:Option Addr} {c:Nat} {g:List (List UInt8)} (h:OwnT w B A c g) (hk:New w w'):OwnT w' B A c g:=OwnV.new h hk
theorem OwnT.nil (w:World) (B:Nat):OwnT w B none 0 []:=OwnV.nil _ _ _ _
theorem OwnT.le {w:World} {B:Nat} {A:Option Addr} {c:Nat} {g:List (List UInt8)} (h:OwnT w B A c g):g.length≤c∧c≤maxLen:=⟨h.2.1,h.2.2.1⟩
def QuietT (w:World) (b:Bool) (e:Ending) (w':World):Prop:=∃d,e=.returned (.bool b)∧w'=w.drewN d
theorem texts_any (A B:Option Addr) (n m c d:Nat) (g h:List (List UInt8)) (w:World) (ha:Txs w A n g) (hb:Txs w B m h) (hn:n≤maxLen):
  Calls Tryz.prog 42 #[.slice A n c,.slice B m d] w (QuietT w (decide (g=h))):=by
 unfold maxLen at hn;have hg:=ha.len;have hh:=hb.len
 by_cases hnm:n=m
 ·subst hnm;go_enter Tryz.func42,Tryz.ntmps42;go_wp2
  go_loopw [5] (fun i wr=>∃k q:Nat,k≤n∧i=.int .i64 k∧wr=w.drewN q∧Hid (g.take k=h.take k)) (fun i _=>n - (intOf i).toNat)
  case atStart=>exact⟨0,0,Nat.zero_le _,rfl,rfl,rfl⟩
  case round=>
   obtain⟨k,q,hk,rfl,rfl,heq⟩:=hrel
   by_cases hlt:k < n
   ·obtain⟨b,o,x,rfl,hx,hc⟩:=ha.at_ hlt;obtain⟨b',o',y,rfl,hy,hc'⟩:=hb.at_ hlt;have HX:=jH hx;have HY:=jH hy;clear ha hb hx hy hg hh
    by_cases e:x=y
    ·have E:=jH e
     have hxy:(x == y)=true:=by rw[e];exact beq_self_eq_true y
     clear e;go_wp2;go_quiet (fail);go_wp2;go_roundw
     case rel=>exact⟨k+1,_,by omega,by go_num,rfl,by rw[Hid,List.take_add_one,List.take_add_one,HX.out,HY.out,heq.out,E.out]⟩
     case measure=>simp[intOf];omega
    ·have hne:Hid (decide (g=h)=false):=decide_eq_false fun e2=>e (by rw[e2] at HX;have:=HX.out.symm.trans HY.out;injection this)
     have hxy:(x == y)=false:=beq_eq_false_iff_ne.2 e;clear e;go_wp2;go_quiet (fail);go_wp2;go_ret;exact⟨_,by rw[hne.out];rfl,World.drewN_drewN _ _ _⟩
   ·have e:k=n:=by omega
    have hy:Hid (decide (g=h)=true):=decide_eq_true (by
     have:=heq.out
     rwa [e,List.take_of_length_le (by omega),List.take_of_length_le (by omega)] at this)
    clear ha hb heq hg hh;go_wp2;go_ret;exact⟨q,by rw[hy.out];rfl,rfl⟩
 ·have hne:Hid (decide (g=h)=false):=decide_eq_false fun e=>hnm (by rw[←hg,←hh,e])
  have hnm':¬((n:Int)=(m:Int)):=by omega
  clear ha hb hg hh;go_enter Tryz.func42,Tryz.ntmps42;go_wp2;go_ret;exact⟨0,by rw[hne.out];rfl,rfl⟩
theorem cut_miss (s:ByteArray) (w:World) (hi:Lib.indexByte s.data.toList 47=-1):
  Calls Tryz.prog 111 #[.string s,.string ⟨#[47]⟩] w fun e w'=>e=.returned (.tuple #[.string s,.string ⟨#[]⟩,.bool false])∧w'=w:=by
 go_enter Tryz.func111,Tryz.ntmps111
 go_wp2_with (first
  | (go_at_call 127;refine (shIndex s 47 _).mono ?_;rintro e w1 ⟨rfl,rfl⟩;rw[hi])
  | go_in)
 go_ret3;exact⟨rfl,rfl⟩
theorem cut_hit (s:ByteArray) (i:Nat) (w:World) (hi:Lib.indexByte s.data.toList 47=i) (hlt:i < s.size) (hs:s.size≤maxLen):
  Calls Tryz.prog 111 #[.string s,.string ⟨#[47]⟩] w fun e w'=>∃d,e=.returned (.tuple #[.string (s.extract 0 i),.string (s.extract (i+1) s.size),.bool true])∧w'=w.drewN d:=by
 unfold maxLen at hs;go_enter Tryz.func111,Tryz.ntmps111
 go_wp2_with (first
  | (go_at_call 127;refine (shIndex s 47 _).mono ?_;rintro e w1 ⟨rfl,rfl⟩;rw[hi])
  | go_in)
 go_quiet (fail);go_wp2;go_ret3;exact⟨_,rfl,rfl⟩
end
section
open Go.ChangeShapes Go.WideShapes Go.ChangeAt Go.RowKit
section
variable {H:Type} {enc:TypeId×Value→H}
theorem lift_upto {C:Checked} {os:Os} {f:FuncId} {fn:Func} {s:ChangeSpec} {F:Stop.Interp} {tb:TypeId} (own:ownKnob C.prog.godebug=none) (started:os.Started) (noInit:C.prog.inits.idxOf? f=none) (hfn:C.prog.funcs[f]?=some fn)
  (witness:∃(w:World) (tape:Tape) (i:Input),w.os=os∧(w.forCall tape i).Shaped C.prog∧i.vars=[]∧Input.okWide C.prog (w.forCall tape i) .any w.heap.size f i ∧
   (Rows.OpenSpec.upto s).pre6 enc C.prog fn [] false (w.forCall tape i).memory i.args∧Assume.holds {} C.prog (lone (Frame.enter C.prog f i.args .normal) [] (w.forCall tape i)))
  (hvars:s.vars=[]) (hres:fn.resultTypes=#[tb]) (htb:C.prog.underlying tb=some .bool)
  (hspec:∀ds:List (DataW H),ds.length=fn.params.toList.length→(s.fn H ds).results=[.lit (.bool true)]∧(s.fn H ds).args=ds∧(s.fn H ds).vars=[])
  (hl:laidOutB C.prog=true) (hread:∀t∈fn.params.toList,C.prog.readableRec t=true∧t < C.prog.types.size)
  (walk:∀(W:World) (base:Nat) (args:Array Value) (ds:List (DataW H)),Args enc C.prog W base fn.params.toList args.toList ds→Rows.uptoSmall H ds=true→Calls C.prog f args W (True1 W)):
  ReturnsInHanded {} C os f .any ((Rows.OpenSpec.upto s).pre6 enc C.prog fn [] false) (((Rows.OpenSpec.upto s).at F).post enc C.prog fn false true false false):=by
 refine returnsInHanded_of_cond_sized (C:=C) (s:=Rows.OpenSpec.upto s) (k:=Rows.uptoSmall) rfl own started noInit hfn witness ?_;intro W base args ds gs before hval hW _ hk hsz _;have hW:DataW.Whole enc C.prog fn.params.toList s.vars false W args.toList ds gs before:=hW;have hW':=hW;obtain⟨p,q,hA,hV,rfl,hfz,hnd⟩:=hW;rw[hvars] at hV;obtain⟨rfl,rfl⟩:=trodVars_none hV;have hlen:ds.length=fn.params.toList.length:=trodAll_length _ _ _ _ hA
 have hargs:Args enc C.prog W base fn.params.toList args.toList ds:=by
  refine args_of _ _ _ _ (fun j t v ht hv=>hval j t v (by simpa using ht) (by simpa using hv)) hA fun n hn=>?_
  have:=List.all_eq_true.1 hsz n (by
   have hv0:(Rows.OpenSpec.upto s).bare.plain.varTypes C.prog=[]:=by
    have:(Rows.OpenSpec.upto s).bare.plain.vars=s.vars:=rfl
    simp[DataSpec.varTypes,this,hvars]
   rw[hv0]
   simpa using hn)
  simpa using this
 refine (walk W base args ds hargs (by simpa using hk)).mono fun e W' ⟨he,hn⟩=>?_
 subst he;obtain⟨e1,e2,e3⟩:=hspec (ds++[]) (by simpa using hlen)
 have hlt:∀x∈p,x.block < W.heap.size:=fun x hx=>hW'.lt x (by simpa using hx)
 show ∃v,_∧s.post enc C.prog fn false true false false W args v W'
 refine⟨_,rfl,ds,[],_,[],p,[],hW',?_,?_,?_,hn.below.frame _,fun h=>by cases h⟩
 ·rw[e1,hres];exact trodAll_mk1 (shut_bool htb _)
 ·rw[e2];simp only[List.append_nil];exact trodAll_stays hl hn.below _ _ _ _ hread hlt hA
 ·rw[e3,hvars]
  rfl
end
end
section
open Go.RowKit
theorem info_str:(Tryz.prog.info? 9).map (fun i=>(i.zero,i.size,i.bytes))=some (some (.string ⟨#[]⟩),1,16):=by kernel_rfl
theorem RowV.one (w:World) (t:TypeId) (v:Value) (g:Nat) (hg:g=w.heap.size):RowV (w.alloc (.cells #[v] t)) (some ⟨g,0,none⟩) 1 1 [v]:=by
 subst hg;refine⟨rfl,fun _=>⟨_,0,rfl,fun j u hu=>?_⟩⟩
 match j,hu with
 | 0,hu=>
  simp at hu;subst hu;exact (Blk.made w t #[v]).cell 0
theorem zas {ops:Array Oper} {rest:List Oper} {o:Oper} {a:Act} {Q:Exit→Act→World→Prop} (w:World) (hgd:o.guard=none) (s x:Operand)
  (ho:o.op=.call { callee:=.builtin .append,args:=#[s,x],argTypes:=#[39,39] })
  (B:Nat) (A:Option Addr) (n c:Nat) (g:List (List UInt8)) (hsv:a.eval s=.slice A n c) (hown:OwnT w B A c g) (hn:n=g.length)
  (A':Option Addr) (m c':Nat) (k:List (List UInt8)) (hx:a.eval x=.slice A' m c') (hr:Txs w A' m k)
  (hbytes:n+m≤8796093022208) (hbase:B≤w.heap.size)
  (h:∀A2 c2 w',Hid (OwnT w' B A2 c2 (g++k))→Hid (w.grownBy w' (A.map (·.block)))→wpList Tryz.prog ops Q rest (a.put o.dst (.slice A2 (n+m) c2)) w'):
  wpList Tryz.prog ops Q (o::rest) a w:=by
 obtain⟨i0,hi,hz0,hz1,hz2⟩:=info_parts info_str;have hk:=hr.len;subst hn;refine zca w hgd s x _ ho 9 i0 (.string ⟨#[]⟩) Tryz.underlying39 hi hz0 (by rw[hz1];rfl) (by omega) B A g.length c (g.map tx) hsv (by rw[hz1];exact hown) A' m c' (k.map tx) hx (by rw[hz1];exact hr) ?_ (by rw[hz2];omega) (by omega) hbase ?_
 ·intro u hu;obtain⟨y,_,rfl⟩:=List.mem_map.1 hu
  rfl
 ·intro A2 c2 w' h1 h2 _;refine h A2 c2 w' ?_ h2
  have:=h1.out
  rw[hz1] at this;unfold OwnT;rw[Hid,List.length_append,hk,List.map_append];exact this
theorem Txs.one (w:World) (t:TypeId) (u:ByteArray) (g:Nat) (hg:g=w.heap.size):Txs (w.alloc (.cells #[.string u] t)) (some ⟨g,0,none⟩) 1 [u.data.toList]:=by
 have:=RowV.one w t (.string u) g hg
 unfold Txs;rw[List.map_cons,tx_data];exact this
theorem Kept.of_ownT {w w1 w2:World} {B:Nat} {A:Option Addr} {c:Nat} {g:List (List UInt8)} (k:New w w1) (h:OwnT w1 B A c g) (hB:w.heap.size≤B) (hg:w1.grownBy w2 (A.map (·.block))):New w w2:=
 Kept.of_ownV k h hB hg
theorem OwnT.alloc {w:World} {B:Nat} {A:Option Addr} {c:Nat} {g:List (List UInt8)} (h:OwnT w B A c g) (o:Obj):OwnT (w.alloc o) B A c g:=h.new (kR.alloc o)
def strLen:Value→Nat
 | .string s=>s.size
 | _=>0
theorem segs_cut {u:ByteArray} {i:Nat} (hi:Lib.indexByte u.data.toList 47=i):
  i < u.size∧segs u.data.toList=(u.extract 0 i).data.toList::segs (u.extract (i+1) u.size).data.toList:=by
 obtain⟨h1,h2⟩:=indexByte_some _ _ _ hi;have hlt:i < u.data.toList.length:=(List.getElem?_eq_some_iff.1 h1).1;refine⟨by rw[Lib.size_eq];exact hlt,?_⟩;rw[segs_at i _ (fun j hj=>h2 j hj) h1,Lib.extract_data,Lib.extract_data]
 have e:∀(n:Nat) (l:List UInt8),l.length≤n→l.take n=l:=fun n l h=>List.take_of_length_le h
 rw[List.drop_zero,Nat.sub_zero,e _ (u.data.toList.drop (i+1)) (by rw[Lib.size_eq,List.length_drop];omega)]
theorem segs_end {u:ByteArray} (hi:Lib.indexByte u.data.toList 47=-1):segs u.data.toList=[u.data.toList]:=
 segs_all _ (indexByte_none _ _ hi)
theorem index_cases (u:ByteArray):Lib.indexByte u.data.toList 47=-1∨∃i:Nat,Lib.indexByte u.data.toList 47=i:=by
 have:=Lib.indexByte_ge u.data.toList 47
 by_cases h:Lib.indexByte u.data.toList 47=-1
 ·exact .inl h
 ·exact .inr ⟨(Lib.indexByte u.data.toList 47).toNat,by omega⟩
theorem zct (u:ByteArray) (a b:Nat) (hb:b≤u.size) (hab:a≤b):(u.extract a b).size=b - a:=by
 rw[Lib.size_eq,Lib.extract_data,List.length_take,List.length_drop]
 have:=Lib.size_eq u
 omega
def RetC (w:World) (o:Option (List (List UInt8))) (e:Ending) (w':World):Prop:=
 ∃A c,e=.returned (.tuple #[.slice A (o.getD []).length c,.bool o.isSome])∧OwnT w' w.heap.size A c (o.getD [])∧New w w'
theorem RetC.none_ {w w':World} {l:List UInt8} {e:Ending} (he:e=.returned (.tuple #[.slice none 0 0,.bool false])) (h:zco l=none) (hk:New w w'):RetC w (zco l) e w':=by
 rw[h];exact⟨none,0,he,OwnT.nil _ _,hk⟩
theorem pathE_none {r:List UInt8} (h:(segs r).all zbv=false) (hr:r≠[]):zco (47::r)=none:=by
 unfold zco;rw[if_neg (by simpa using hr)];simp only;rw[if_neg (by rw[h];simp)]
theorem pathE_some {r:List UInt8} (h:(segs r).all zbv=true) (hr:r≠[]):zco (47::r)=some (segs r):=by
 unfold zco;rw[if_neg (by simpa using hr)];simp only;rw[if_pos ⟨trivial,h⟩]
theorem pathE_head {c:UInt8} {r:List UInt8} (h:c≠47):zco (c::r)=none:=by
 unfold zco;rw[if_neg (by intro e;injection e with e _;exact h e)];simp only;rw[if_neg (fun e=>h e.1)]
theorem all_front (g:List (List UInt8)) (x:List UInt8) (t:List (List UInt8)) (hx:zbv x=false):(g++x::t).all zbv=false:=by
 rw[List.all_append,List.all_cons,hx];simp
theorem all_both (g:List (List UInt8)) (x:List UInt8) (hg:g.all zbv=true) (hx:zbv x=true):(g++[x]).all zbv=true:=by
 rw[List.all_append,hg];simp[hx]
theorem cut_any (s:ByteArray) (w:World) (hs:s.size≤1048576):
  Calls Tryz.prog 99 #[.string s] w (RetC w (zco s.data.toList)):=by
 cases hl:s.data.toList with
 | nil=>
  obtain rfl:=zcw hl;clear hl hs;go_enter Tryz.func99,Tryz.ntmps99;go_wp2
  go_step3
  go_wp2_with (go_at_call 110;refine (shCutPrefix _ _ _).mono ?_;rintro e w1 ⟨rfl,rfl⟩)
  go_ret2;exact RetC.none_ rfl rfl kR
 | cons c r=>
  by_cases hc:c=47
  ·subst hc
   by_cases hr:r=[]
   ·subst hr;obtain rfl:=zcw hl;clear hl hs;go_enter Tryz.func99,Tryz.ntmps99;go_wp2
    go_step3
    go_wp2;go_ret2;exact⟨none,0,rfl,OwnT.nil _ _,kR⟩
   ·have e47:(s.toList == [47])=false:=by rw[Lib.toList_data,hl];exact beq_eq_false_iff_ne.2 (by simpa using hr)
    have hpre:Lib.hasPrefix s.data.toList [47]=true:=by rw[hl];simp[Lib.hasPrefix]
    have htrim:Lib.trimPrefix s.data.toList [47]=r:=by unfold Lib.trimPrefix;rw[hpre,if_pos rfl,hl];rfl
    have hsz:r.length < s.size:=by rw[Lib.size_eq,hl];simp
    have HL:=jH hl;have HR:=jH hr;clear hl hr;go_enter Tryz.func99,Tryz.ntmps99;go_wp2_with fail
    go_step3
    go_wp2_with (first|(go_at_call 110;refine (shCutPrefix _ _ _).mono ?_;rintro e w1 ⟨rfl,hw1⟩;subst w1;rw[hpre,htrim])|fail)
    go_step3
    go_wp2_with fail
    have HP:Hid (∀g,segs r=g→zco (47::r)=if g.all zbv=true then some g else none):=fun g hg=>by
     subst hg
     split
     ·rename_i h;exact pathE_some h HR.out
     ·rename_i h;exact pathE_none (by simpa using h) HR.out
    go_loopw [4,6] (fun v x wr=>∃(u:ByteArray) (g:List (List UInt8)) (A:Option Addr) (c n:Nat),v=.string u∧x=.slice A n c∧Hid (n=g.length)∧n+u.size≤s.size∧OwnT wr w.heap.size A c g∧New w wr ∧
     Hid (segs r=g++segs u.data.toList)∧Hid (g.all zbv=true)) (fun v _ _=>strLen v)
    case atStart=>
     exact⟨⟨r.toArray⟩,[],none,0,0,rfl,rfl,rfl,by rw[Lib.size_eq];simp;omega,OwnT.nil _ _,kR,rfl,rfl⟩
    case round=>
     obtain⟨u,g,A,c,n,rfl,rfl,HN,hnu,ho,hk,HS,HG⟩:=hrel;have HO:=jH ho;have HK:=jH hk;clear ho hk
     have hum:u.size≤maxLen:=by unfold maxLen;omega
     rcases index_cases u with hx|⟨i,hx⟩
     ·have HE:=jH (segs_end hx)
      cases hname:zbv u.data.toList with
      | false=>
       have HF:Hid (zco (47::r)=none):=by
        rw[Hid,HP.out _ HS.out,HE.out,all_front _ _ _ hname];rfl
       go_wp2_with (first
        | (go_at_call 111;refine (cut_miss u _ hx).mono ?_;rintro e w1 ⟨rfl,hw1⟩;subst w1)
        | (at_builtin;refine zas _ rfl _ _ rfl w.heap.size A n c g rfl (HO.out.alloc _) HN.out _ 1 1 [u.data.toList] rfl (Txs.one _ _ _ _ rfl) (by omega) (HK.out.alloc _).size ?_)
        | fail)
       intro A2 c2 w2 O2 g2;have K2:=jH (Kept.of_ownT (HK.out.alloc _) (HO.out.alloc _) (Nat.le_refl _) g2.out);clear g2 HK HO
       go_wp2_with (go_at_call 106;refine (name_any u _ hum).mono ?_;rintro e w1 ⟨rfl,hw1⟩;subst w1;rw[hname])
       go_ret2;exact RetC.none_ rfl HF.out K2.out
      | true=>
       have HT:Hid (zco (47::r)=some (g++[u.data.toList])):=by
        rw[Hid,HP.out _ HS.out,HE.out,all_both _ _ HG.out hname];rfl
       go_wp2_with (first
        | (go_at_call 111;refine (cut_miss u _ hx).mono ?_;rintro e w1 ⟨rfl,hw1⟩;subst w1)
        | (at_builtin;refine zas _ rfl _ _ rfl w.heap.size A n c g rfl (HO.out.alloc _) HN.out _ 1 1 [u.data.toList] rfl (Txs.one _ _ _ _ rfl) (by omega) (HK.out.alloc _).size ?_)
        | fail)
       intro A2 c2 w2 O2 g2;have K2:=jH (Kept.of_ownT (HK.out.alloc _) (HO.out.alloc _) (Nat.le_refl _) g2.out);clear g2 HK HO
       go_wp2_with (go_at_call 106;refine (name_any u _ hum).mono ?_;rintro e w1 ⟨rfl,hw1⟩;subst w1;rw[hname])
       go_ret2;exact⟨A2,c2,by rw[HT.out,HN.out];simp,by rw[HT.out];exact O2.out,K2.out⟩
     ·obtain⟨hlt,hseg⟩:=segs_cut hx;have HE:=jH hseg
      have hx0:(u.extract 0 i).data.toList=List.take i u.data.toList:=by rw[Lib.extract_data];rfl
      have hz1:=zct u 0 i (by omega) (by omega);have hz2:=zct u (i+1) u.size (by omega) (by omega)
      have hpm:(u.extract 0 i).size≤maxLen:=by unfold maxLen;omega
      cases hname:zbv (u.extract 0 i).data.toList with
      | false=>
       have HF:Hid (zco (47::r)=none):=by
        rw[Hid,HP.out _ HS.out,HE.out,all_front _ _ _ hname];rfl
       go_wp2_with (first
        | (go_at_call 111;refine (cut_hit u i _ hx hlt hum).mono ?_;rintro e w1 ⟨d,rfl,hw1⟩;have K1:Hid (New w w1):=(by rw[hw1];exact HK.out.drewN d);have O1:Hid (OwnT w1 w.heap.size A c g):=(by rw[hw1];exact OwnV.drewN HO.out d);clear hw1 HK HO)
        | (at_builtin;refine zas _ rfl _ _ rfl w.heap.size A n c g rfl (O1.out.alloc _) HN.out _ 1 1 [(u.extract 0 i).data.toList] rfl (Txs.one _ _ _ _ rfl) (by omega) (K1.out.alloc _).size ?_)
        | fail)
       intro A2 c2 w2 O2 g2;have K2:=jH (Kept.of_ownT (K1.out.alloc _) (O1.out.alloc _) (Nat.le_refl _) g2.out);clear g2 K1 O1
       go_wp2_with (go_at_call 106;refine (name_any (u.extract 0 i) _ hpm).mono ?_;rintro e w1 ⟨rfl,hw1⟩;subst w1;rw[hname])
       go_ret2;exact RetC.none_ rfl HF.out K2.out
      | true=>
       have HT:Hid (segs r=(g++[(u.extract 0 i).data.toList])++segs (u.extract (i+1) u.size).data.toList):=by
        rw[Hid,HS.out,HE.out];simp
       have HA:=jH (all_both _ _ HG.out hname)
       go_wp2_with (first
        | (go_at_call 111;refine (cut_hit u i _ hx hlt hum).mono ?_;rintro e w1 ⟨d,rfl,hw1⟩;have K1:Hid (New w w1):=(by rw[hw1];exact HK.out.drewN d);have O1:Hid (OwnT w1 w.heap.size A c g):=(by rw[hw1];exact OwnV.drewN HO.out d);clear hw1 HK HO)
        | (at_builtin;refine zas _ rfl _ _ rfl w.heap.size A n c g rfl (O1.out.alloc _) HN.out _ 1 1 [(u.extract 0 i).data.toList] rfl (Txs.one _ _ _ _ rfl) (by omega) (K1.out.alloc _).size ?_)
        | fail)
       intro A2 c2 w2 O2 g2;have K2:=jH (Kept.of_ownT (K1.out.alloc _) (O1.out.alloc _) (Nat.le_refl _) g2.out);clear g2 K1 O1
       go_wp2_with (go_at_call 106;refine (name_any (u.extract 0 i) _ hpm).mono ?_;rintro e w1 ⟨rfl,hw1⟩;subst w1;rw[hname])
       go_roundw
       case rel=>exact⟨_,g++[(u.extract 0 i).data.toList],A2,c2,n+1,rfl,rfl,by rw[Hid,HN.out];simp,by omega,by rw[hx0];exact O2.out,K2.out,HT,HA⟩
       case measure=>simp[strLen];omega
  ·have hpre:Lib.hasPrefix s.data.toList [47]=false:=by
    rw[hl]
    show ((47:UInt8) == c && List.isPrefixOf [] r)=false
    rw[beq_eq_false_iff_ne.2 (fun e:(47:UInt8)=c=>hc e.symm)]
    rfl
   have e47:(s.toList == [47])=false:=by rw[Lib.toList_data,hl];exact beq_eq_false_iff_ne.2 (by intro e;injection e with e _;exact hc e)
   have HF:=jH (pathE_head (r:=r) hc);clear hl;go_enter Tryz.func99,Tryz.ntmps99;go_wp2_with fail
   go_step3
   go_wp2_with (first|(go_at_call 110;refine (shCutPrefix _ _ _).mono ?_;rintro e w1 ⟨rfl,hw1⟩;subst w1;rw[hpre])|fail)
   go_ret2;exact RetC.none_ rfl HF.out kR
def RetP (w:World) (g:List (List UInt8)) (x:Nat) (e:Ending) (w':World):Prop:=
 ∃A c,e=.returned (.tuple #[.slice A g.length c,.int .i64 (x:Int)])∧OwnT w' w.heap.size A c g∧New w w'
theorem pP_none {l:List UInt8} (h:zco l=none):pE l=2∧pN l=[]:=by
 have e:pE l=2:=by unfold pE;rw[h]
 exact⟨e,by unfold pN;rw[if_neg (by rw[e];simp)]⟩
theorem pP_many {l:List UInt8} {g:List (List UInt8)} (h:zco l=some g) (hg:6 < g.length):pE l=3∧pN l=[]:=by
 have e:pE l=3:=by unfold pE;rw[h];simp only;rw[if_pos hg]
 exact⟨e,by unfold pN;rw[if_neg (by rw[e];simp)]⟩
theorem pP_ok {l:List UInt8} {g:List (List UInt8)} (h:zco l=some g) (hg:¬6 < g.length):pE l=0∧pN l=g:=by
 have e:pE l=0:=by unfold pE;rw[h];simp only;rw[if_neg hg]
 exact⟨e,by unfold pN;rw[if_pos e,h];rfl⟩
theorem parse_any (s:ByteArray) (w:World) (hs:s.size≤1048576):
  Calls Tryz.prog 80 #[.string s] w (RetP w (pN s.data.toList) (pE s.data.toList)):=by
 go_enter Tryz.func80,Tryz.ntmps80;go_wp2_with fail;refine (cut_any s _ hs).mono ?_;rintro e w1 ⟨A,c,rfl,ho,hk⟩;have HO:=jH ho;have HK:=jH hk;clear ho hk
 cases hp:zco s.data.toList with
 | none=>
  obtain⟨h1,h2⟩:=pP_none hp;have H1:=jH h1;have H2:=jH h2;clear h1 h2 hp HO;go_wp2;go_ret2;exact⟨none,0,by rw[H1.out,H2.out];rfl,by rw[H2.out];exact OwnT.nil _ _,HK.out⟩
 | some g=>
  rw[hp] at HO
  by_cases h6:6 < g.length
  ·obtain⟨h1,h2⟩:=pP_many hp h6;have H1:=jH h1;have H2:=jH h2;have d6:decide ((6:Int) < (g.length:Int))=true:=decide_eq_true (by omega);clear h1 h2 hp HO;go_wp2;go_ret2;exact⟨none,0,by rw[H1.out,H2.out];rfl,by rw[H2.out];exact OwnT.nil _ _,HK.out⟩
  ·obtain⟨h1,h2⟩:=pP_ok hp h6;have H1:=jH h1;have H2:=jH h2;have d6:decide ((6:Int) < (g.length:Int))=false:=decide_eq_false (by omega);clear h1 h2 hp;go_wp2;go_ret2;exact⟨A,c,by rw[H1.out,H2.out];rfl,by rw[H2.out];exact HO.out,HK.out⟩
end
end Go.Proofs.YtjjamoemheljdaaGreat
