/-
  Layer 7: contracts (Vf Vk).
-/
import Derived.Test.YtjjamoemheljdaaGreatC03
namespace Go.Proofs.YtjjamoemheljdaaGreat
set_option maxRecDepth 100000
set_option maxHeartbeats 8000000
set_option linter.unusedSimpArgs false
set_option linter.unusedVariables false
section
open Go.RowKit
theorem segs_mid {s:ByteArray} {a i:Nat} (ha:a≤i) (_:i < s.size) (h0:∀j,a≤j→j < i→s.data.toList[j]?≠some 47) (h:s.data.toList[i]?=some 47):
  segs (s.data.toList.drop a)=(s.extract a i).data.toList::segs (s.data.toList.drop (i+1)):=by
 have:=segs_at (i - a) (s.data.toList.drop a) (fun j hj=>by rw[List.getElem?_drop];exact h0 _ (by omega) (by omega)) (by rw[List.getElem?_drop,show a+(i - a)=i by omega];exact h)
 rw[this,Lib.extract_data,List.drop_drop,show a+(i - a+1)=i+1 by omega]
theorem segs_last {s:ByteArray} {a:Nat} (h0:∀j,a≤j→j < s.size→s.data.toList[j]?≠some 47):
  segs (s.data.toList.drop a)=[(s.extract a s.size).data.toList]:=by
 have:=segs_all (s.data.toList.drop a) (fun x hx e=>by
  obtain⟨j,hj⟩:=List.getElem?_of_mem hx;rw[List.getElem?_drop,e] at hj;have hlt:=(List.getElem?_eq_some_iff.1 hj).1;rw[←Lib.size_eq] at hlt
  exact h0 _ (by omega) hlt hj)
 rw[this,Lib.extract_data,List.take_of_length_le (by rw[List.length_drop,Lib.size_eq];exact Nat.le_refl _)]
theorem RetP.err {w w':World} {l:List UInt8} {x:Nat} {y:Int} {e:Ending} (he:e=.returned (.tuple #[.slice none 0 0,.int .i64 y])) (h:pE l=x∧pN l=[]) (hy:y=x) (hk:New w w'):RetP w (pN l) (pE l) e w':=by
 rw[h.1,h.2];exact⟨none,0,by rw[he,hy];rfl,OwnT.nil _ _,hk⟩
theorem zaj (s:ByteArray) (w:World) (hs:s.size≤1048576):
  Calls Tryz.prog 35 #[.string s] w (RetP w (pN s.data.toList) (pE s.data.toList)):=by
 cases hl:s.data.toList with
 | nil=>
  obtain rfl:=zcw hl;clear hl hs;go_enter Tryz.func35,Tryz.ntmps35;go_wp2;go_ret2;exact RetP.err rfl (pP_none rfl) rfl kR
 | cons c r=>
  have hpos:0 < s.size:=by rw[Lib.size_eq,hl];simp
  have h0:s[0]=c:=by have:=at_list s 0 hpos;rw[hl] at this;simpa using this.symm
  have hne:¬s.toList=[]:=by rw[Lib.toList_data,hl];simp
  have hie:s.toList.isEmpty=false:=by rw[Lib.toList_data,hl];rfl
  by_cases hc:c=47
  ·subst hc
   by_cases hr:r=[]
   ·subst hr;obtain rfl:=zcw hl;clear hl hs hpos h0 hne hie;go_enter Tryz.func35,Tryz.ntmps35;go_wp2;go_ret2;exact RetP.err rfl (pP_ok (g:=[]) rfl (by simp)) rfl kR
   ·have h0n:(s[0]).toNat=47:=by rw[h0];rfl
    have e47:(s.toList == [47])=false:=by rw[Lib.toList_data,hl];exact beq_eq_false_iff_ne.2 (by simpa using hr)
    have hsz:s.size=r.length+1:=by rw[Lib.size_eq,hl];simp
    have hrl:0 < r.length:=List.length_pos_iff.2 hr
    have HP:Hid (∀g,segs r=g→zco (47::r)=if g.all zbv=true then some g else none):=fun g hg=>by
     subst hg
     split
     ·rename_i h;exact pathE_some h hr
     ·rename_i h;exact pathE_none (by simpa using h) hr
    have HD:Hid (s.data.toList.drop 1=r):=by rw[Hid,hl];rfl
    have HL:=jH hl;clear h0 hl hr;go_enter Tryz.func35,Tryz.ntmps35;go_wp2_with fail;clear hne hie e47 h0n
    go_loopw [4,5,6] (fun v x y wr=>∃(g:List (List UInt8)) (A:Option Addr) (c n a i:Nat),v=.slice A n c∧x=.int .i64 a∧y=.int .i64 i∧Hid (n=g.length)∧n≤a∧a≤i∧i≤s.size+1∧OwnT wr w.heap.size A c g∧New w wr ∧
     Hid (g.all zbv=true)∧Hid ((i≤s.size∧segs r=g++segs (s.data.toList.drop a)∧∀j,a≤j→j < i→s.data.toList[j]?≠some 47)∨(i=s.size+1∧segs r=g))) (fun _ _ y _=>s.size+1 - (intOf y).toNat)
    case atStart=>
     exact⟨[],none,0,0,1,1,rfl,rfl,rfl,rfl,by omega,by omega,by omega,OwnT.nil _ _,kR,rfl,.inl ⟨by omega,by rw[HD.out];rfl,fun j h1 h2=>absurd h2 (by omega)⟩⟩
    case round=>
     obtain⟨g,A,c,n,a,i,rfl,rfl,rfl,HN,hna,hai,hi,ho,hk,HG,HS⟩:=hrel;have HO:=jH ho;have HK:=jH hk;clear ho hk
     by_cases hle:i≤s.size
     ·have HS':Hid (segs r=g++segs (s.data.toList.drop a)∧∀j,a≤j→j < i→s.data.toList[j]?≠some 47):=by
       rcases HS.out with h|h
       ·exact⟨h.2.1,h.2.2⟩
       ·exact absurd h.1 (by omega)
      clear HS
      by_cases hlt:i < s.size
      ·have HB:=jH (at_list s i hlt)
       by_cases hb:s[i]=47
       ·have hbn:s[i].toNat=47:=by rw[hb];rfl
        have HM:Hid (segs r=(g++[(s.extract a i).data.toList])++segs (s.data.toList.drop (i+1))):=by
         rw[Hid,HS'.out.1,segs_mid hai hlt HS'.out.2 (by rw[HB.out,hb])];simp
        have hpm:(s.extract a i).size≤maxLen:=by rw[zct _ _ _ (by omega) hai];unfold maxLen;omega
        have hx0:(s.extract a i).data.toList=List.take (i - a) (s.data.toList.drop a):=Lib.extract_data ..;clear hb HB HS'
        cases hname:zbv (s.extract a i).data.toList with
        | false=>
         have HF:Hid (zco (47::r)=none):=by
          rw[Hid,HP.out _ HM.out,List.append_assoc,List.singleton_append,all_front _ _ _ hname];rfl
         go_wp2_with (go_at_call 48;refine (rname_any (s.extract a i) _ hpm).mono ?_;rintro e w1 ⟨rfl,hw1⟩;subst w1;rw[hname])
         go_ret2;exact RetP.err rfl (pP_none HF.out) rfl HK.out
        | true=>
         have HA:=jH (all_both _ _ HG.out hname)
         go_wp2_with (first
          | (go_at_call 48;refine (rname_any (s.extract a i) _ hpm).mono ?_;rintro e w1 ⟨rfl,hw1⟩;subst w1;rw[hname])
          | (at_builtin;refine zas _ rfl _ _ rfl w.heap.size A n c g rfl (HO.out.alloc _) HN.out _ 1 1 [(s.extract a i).data.toList] rfl (Txs.one _ _ _ _ rfl) (by omega) (HK.out.alloc _).size ?_)
          | fail)
         intro A2 c2 w2 O2 g2;have K2:=jH (Kept.of_ownT (HK.out.alloc _) (HO.out.alloc _) (Nat.le_refl _) g2.out);clear g2 HK HO;go_wp2;go_roundw
         case rel=>exact⟨g++[(s.extract a i).data.toList],A2,c2,n+1,i+1,i+1,rfl,by go_num,by go_num,by rw[Hid,HN.out];simp,by omega,by omega,by omega,by rw[hx0];exact O2.out,K2.out,HA,.inl ⟨by omega,HM.out,fun j h1 h2=>absurd h2 (by omega)⟩⟩
         case measure=>simp[intOf];omega
       ·have hbn:((s[i].toNat:Int) == 47)=false:=beq_eq_false_iff_ne.2 fun e=>hb (by
         apply UInt8.toNat_inj.1
         have:s[i].toNat=47:=by omega
         rw[this];rfl)
        have HM:Hid (∀j,a≤j→j < i+1→s.data.toList[j]?≠some 47):=fun j h1 h2=>by
         by_cases hj:j=i
         ·subst hj;rw[HB.out];intro e;injection e with e;exact hb e
         ·exact HS'.out.2 j h1 (by omega)
        clear hb HB;go_wp2;go_roundw
        case rel=>exact⟨g,A,c,n,a,i+1,rfl,rfl,by go_num,HN,by omega,by omega,by omega,HO.out,HK.out,HG,.inl ⟨by omega,HS'.out.1,HM.out⟩⟩
        case measure=>simp[intOf];omega
      ·have e:i=s.size:=by omega
       have HM:Hid (segs r=g++[(s.extract a i).data.toList]):=by
        have:=HS'.out.2
        rw[Hid,HS'.out.1,e,segs_last (fun j h1 h2=>this j h1 (by omega))]
       have hpm:(s.extract a i).size≤maxLen:=by rw[zct _ _ _ (by omega) hai];unfold maxLen;omega
       have hx0:(s.extract a i).data.toList=List.take (i - a) (s.data.toList.drop a):=Lib.extract_data ..
       have hii:i≤s.size:=by omega
       have E:=jH e;clear HS' e
       cases hname:zbv (s.extract a i).data.toList with
       | false=>
        have HF:Hid (zco (47::r)=none):=by
         rw[Hid,HP.out _ HM.out,all_front _ _ _ hname];rfl
        go_wp2_with (go_at_call 48;refine (rname_any (s.extract a i) _ hpm).mono ?_;rintro e w1 ⟨rfl,hw1⟩;subst w1;rw[hname])
        go_ret2;exact RetP.err rfl (pP_none HF.out) rfl HK.out
       | true=>
        have HA:=jH (all_both _ _ HG.out hname)
        go_wp2_with (first
         | (go_at_call 48;refine (rname_any (s.extract a i) _ hpm).mono ?_;rintro e w1 ⟨rfl,hw1⟩;subst w1;rw[hname])
         | (at_builtin;refine zas _ rfl _ _ rfl w.heap.size A n c g rfl (HO.out.alloc _) HN.out _ 1 1 [(s.extract a i).data.toList] rfl (Txs.one _ _ _ _ rfl) (by omega) (HK.out.alloc _).size ?_)
         | fail)
        intro A2 c2 w2 O2 g2;have K2:=jH (Kept.of_ownT (HK.out.alloc _) (HO.out.alloc _) (Nat.le_refl _) g2.out);clear g2 HK HO;go_wp2;go_roundw
        case rel=>exact⟨g++[(s.extract a i).data.toList],A2,c2,n+1,i+1,i+1,rfl,by go_num,by go_num,by rw[Hid,HN.out];simp,by omega,by omega,by omega,by rw[hx0];exact O2.out,K2.out,HA,.inr ⟨by have:=E.out;omega,HM.out⟩⟩
        case measure=>simp[intOf];omega
     ·have HF:Hid (zco (47::r)=some g):=by
       have:segs r=g:=by
        rcases HS.out with h|h
        ·exact absurd h.1 hle
        ·exact h.2
       rw[Hid,HP.out _ this,HG.out];rfl
      clear HS
      by_cases h6:6 < n
      ·have d6:decide ((6:Int) < (n:Int))=true:=decide_eq_true (by omega);have H1:=jH (pP_many HF.out (by rw[←HN.out];exact h6));go_wp2;go_ret2;exact RetP.err rfl H1.out rfl HK.out
      ·have d6:decide ((6:Int) < (n:Int))=false:=decide_eq_false (by omega);have H1:=jH (pP_ok HF.out (by rw[←HN.out];exact h6));go_wp2;go_ret2;exact⟨A,c,by rw[H1.out.1,H1.out.2,HN.out];rfl,by rw[H1.out.2];exact HO.out,HK.out⟩
  ·have hcn:((c.toNat:Int) == 47)=false:=beq_eq_false_iff_ne.2 fun e=>hc (by
    apply UInt8.toNat_inj.1
    have:c.toNat=47:=by omega
    rw[this];rfl)
   have HF:=jH (pathE_head (r:=r) hc);clear hl;go_enter Tryz.func35,Tryz.ntmps35;go_wp2;go_ret2;exact RetP.err rfl (pP_none HF.out) rfl kR
end
section
open Go.RowKit
theorem begins_any (A B:Option Addr) (n m c d:Nat) (g h:List (List UInt8)) (w:World) (ha:Txs w A n g) (hb:Txs w B m h) (hn:n≤maxLen):
  Calls Tryz.prog 69 #[.slice A n c,.slice B m d] w (QuietT w (decide (m < n∧g.take m=h))):=by
 unfold maxLen at hn;have hg:=ha.len;have hh:=hb.len
 by_cases hnm:m < n
 ·have hle:decide ((n:Int)≤(m:Int))=false:=decide_eq_false (by omega);go_enter Tryz.func69,Tryz.ntmps69;go_wp2
  go_loopw [5] (fun i wr=>∃k q:Nat,k≤m∧i=.int .i64 k∧wr=w.drewN q∧Hid (g.take k=h.take k)) (fun i _=>m - (intOf i).toNat)
  case atStart=>exact⟨0,0,Nat.zero_le _,rfl,rfl,rfl⟩
  case round=>
   obtain⟨k,q,hk,rfl,rfl,heq⟩:=hrel
   by_cases hlt:k < m
   ·obtain⟨b,o,x,rfl,hx,hc⟩:=ha.at_ (Nat.lt_trans hlt hnm);obtain⟨b',o',y,rfl,hy,hc'⟩:=hb.at_ hlt;have HX:=jH hx;have HY:=jH hy;clear ha hb hx hy hg hh
    by_cases e:x=y
    ·have E:=jH e
     have hxy:(x == y)=true:=by rw[e];exact beq_self_eq_true y
     clear e;go_wp2;go_quiet (fail);go_wp2;go_roundw
     case rel=>exact⟨k+1,_,by omega,by go_num,rfl,by rw[Hid,List.take_add_one,List.take_add_one,HX.out,HY.out,heq.out,E.out]⟩
     case measure=>simp[intOf];omega
    ·have hne:Hid (decide (m < n∧g.take m=h)=false):=decide_eq_false fun e2=>e (by
      have e3:=HY.out;rw[←e2.2,List.getElem?_take,if_pos hlt] at e3
      have:=HX.out.symm.trans e3
      injection this)
     have hxy:(x == y)=false:=beq_eq_false_iff_ne.2 e;clear e;go_wp2;go_quiet (fail);go_wp2;go_ret;exact⟨_,by rw[hne.out];rfl,World.drewN_drewN _ _ _⟩
   ·have e:k=m:=by omega
    have hy:Hid (decide (m < n∧g.take m=h)=true):=decide_eq_true (by
     have:=heq.out
     rw[e,List.take_of_length_le (l:=h) (by omega)] at this
     exact⟨hnm,this⟩)
    clear ha hb heq hg hh;go_wp2;go_ret;exact⟨q,by rw[hy.out];rfl,rfl⟩
 ·have hne:Hid (decide (m < n∧g.take m=h)=false):=decide_eq_false fun e=>hnm e.1
  have hle:decide ((n:Int)≤(m:Int))=true:=decide_eq_true (by omega);clear ha hb hg hh;go_enter Tryz.func69,Tryz.ntmps69;go_wp2;go_ret;exact⟨0,by rw[hne.out];rfl,rfl⟩
end
end Go.Proofs.YtjjamoemheljdaaGreat
