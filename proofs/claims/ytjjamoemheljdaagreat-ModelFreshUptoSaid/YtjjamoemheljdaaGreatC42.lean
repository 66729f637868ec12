/-
  Layer 7: contracts (Zd Ze Zl Yy Wc).
-/
import Derived.Test.YtjjamoemheljdaaGreatC37
import Derived.Test.YtjjamoemheljdaaGreatC07
import Derived.Test.YtjjamoemheljdaaGreatC41
namespace Go.Proofs.YtjjamoemheljdaaGreat
set_option maxRecDepth 100000
set_option maxHeartbeats 8000000
set_option linter.unusedSimpArgs false
set_option linter.unusedVariables false
section
open Go.RowKit
theorem spotR_eq (g:List ByteArray) (T:Nat×Nat×Nat):spotR g T=.agg #[.int .i64 (((if T.2.2=0 then T.1 else 0:Nat)):Int),.string (if T.2.2=0 then lst g else ⟨#[]⟩),.int .i64 (((if T.2.2=0 then T.2.1 else 0:Nat)):Int),.int .i64 (((if T.2.2=0 then g.length else 0:Nat)):Int)]:=by
 obtain⟨q,j,e⟩:=T
 cases e<;>simp[spotR,spotV]
theorem begL_u {a b:ByteArray} (h1:peB a=0) (h2:peB b=0):uL a.data.toList b.data.toList=decide (begL (pnB a) (pnB b)):=by
 rw[uL_ok h1 h2,decide_eq_decide];unfold pnB;rw[begL_map]
section
variable (w0:World) (gt p:Nat) (L:List ND) (kk:Nat) (sp st:ByteArray) (av nv:Int) (Ab:Option Addr) (bl bc:Nat)
def SpotsE (gt kk:Nat) (sp st:ByteArray) (av nv:Int) (Ab:Option Addr) (bl bc:Nat) (w:World) (x:Nat):Prop:=∀u,New w u→Calls Tryz.prog 53 #[.pointer (some ⟨gt,0,none⟩),.agg #[.int .u8 kk,.string sp,.string st,.int .i64 av,.int .i64 nv,.slice Ab bl bc]] u (fun e w'=>New u w'∧e=.returned (.tuple #[.agg #[.int .i64 0,.string ⟨#[]⟩,.int .i64 0,.int .i64 0],.agg #[.int .i64 0,.string ⟨#[]⟩,.int .i64 0,.int .i64 0],.int .i64 x]))
def SpotsV (gt kk:Nat) (sp st:ByteArray) (av nv:Int) (Ab:Option Addr) (bl bc:Nat) (w:World) (q j d r v d2:Nat) (nm nm2:ByteArray):Prop:=∀u,New w u→Calls Tryz.prog 53 #[.pointer (some ⟨gt,0,none⟩),.agg #[.int .u8 kk,.string sp,.string st,.int .i64 av,.int .i64 nv,.slice Ab bl bc]] u (fun e w'=>New u w'∧e=.returned (.tuple #[.agg #[.int .i64 q,.string nm,.int .i64 j,.int .i64 d],.agg #[.int .i64 r,.string nm2,.int .i64 v,.int .i64 d2],.int .i64 0]))
theorem twoK_mem (k:Nat):k∈[4,6]↔twoK k:=by unfold twoK;simp
theorem mspots_any (w:World) (h:PT w0 w gt p L) (hR:Rt ⟨p,L⟩) (hs:sp.size≤1048576) (ht:st.size≤1048576):
  (peB sp≠0→SpotsE gt kk sp st av nv Ab bl bc w (peB sp)) ∧
  (peB sp=0→twoK kk→peB st≠0→SpotsE gt kk sp st av nv Ab bl bc w (peB st)) ∧
  (peB sp=0→(twoK kk→peB st=0)→(zad L (pnB sp) 0 1).2.2≠0→SpotsE gt kk sp st av nv Ab bl bc w (zad L (pnB sp) 0 1).2.2) ∧
  (peB sp=0→twoK kk→peB st=0→(zad L (pnB sp) 0 1).2.2=0→(zad L (pnB st) 0 1).2.2≠0→SpotsE gt kk sp st av nv Ab bl bc w (zad L (pnB st) 0 1).2.2) ∧
  (∀q j r v,peB sp=0→twoK kk→peB st=0→zad L (pnB sp) 0 1=(q,j,0)→zad L (pnB st) 0 1=(r,v,0)→SpotsV gt kk sp st av nv Ab bl bc w q j (pnB sp).length r v (pnB st).length (lst (pnB sp)) (lst (pnB st))) ∧
  (∀q j,peB sp=0→¬twoK kk→zad L (pnB sp) 0 1=(q,j,0)→SpotsV gt kk sp st av nv Ab bl bc w q j (pnB sp).length 0 1 0 (lst (pnB sp)) (lst [])):=by
 obtain⟨b,hb⟩:∃b,b=decide (kk∈[4,6]):=⟨_,rfl⟩
 have hbt:b=true↔twoK kk:=by rw[hb,decide_eq_true_iff];exact twoK_mem kk
 have hbf:b=false↔¬twoK kk:=by rw[←hbt];simp
 obtain⟨g2,hg2⟩:∃g2,g2=if b=true then pN st.data.toList else []:=⟨_,rfl⟩
 have hl2:g2.length≤1000:=by
  rw[hg2];split
  ·exact Nat.le_trans (zcc _) (by omega)
  ·simp
 have HOW:∀u,New w u→_:=fun u hu=>spots_how gt kk sp st av nv Ab bl bc u b (pN sp.data.toList) g2 (pE sp.data.toList) (pE st.data.toList)
  (zad L (pnB sp) 0 1).2.2 (zad L (g2.map baL) 0 1).2.2
  (if (zad L (pnB sp) 0 1).2.2=0 then (zad L (pnB sp) 0 1).1 else 0) (if (zad L (pnB sp) 0 1).2.2=0 then (zad L (pnB sp) 0 1).2.1 else 0) (if (zad L (pnB sp) 0 1).2.2=0 then (pnB sp).length else 0)
  (if (zad L (g2.map baL) 0 1).2.2=0 then (zad L (g2.map baL) 0 1).1 else 0) (if (zad L (g2.map baL) 0 1).2.2=0 then (zad L (g2.map baL) 0 1).2.1 else 0) (if (zad L (g2.map baL) 0 1).2.2=0 then (g2.map baL).length else 0)
  (if (zad L (pnB sp) 0 1).2.2=0 then lst (pnB sp) else ⟨#[]⟩) (if (zad L (g2.map baL) 0 1).2.2=0 then lst (g2.map baL) else ⟨#[]⟩)
  (fun u=>parse_any sp u hs) (fun u=>by rw[hb];exact hasto_any kk u) (fun e u=>by rw[hg2,if_pos e];exact parse_any st u ht) (fun e=>by rw[hg2,if_neg (by rw[e];simp)])
  (fun u' A c hu' hx=>by
   have:=find_any w0 gt p L A _ c _ u' (h.new (hu.new hu')) hR hx (Nat.le_trans (zcc _) (by omega))
   rw[spotR_eq] at this
   exact this)
  (fun u' A c hu' hx=>by
   have:=find_any w0 gt p L A _ c _ u' (h.new (hu.new hu')) hR hx hl2
   rw[spotR_eq] at this
   exact this)
 have hE1:pE sp.data.toList=peB sp:=rfl;have hE2:pE st.data.toList=peB st:=rfl
 have hg2t:twoK kk→g2.map baL=pnB st:=fun e=>by rw[hg2,if_pos (hbt.2 e)];rfl
 have hg2f:¬twoK kk→g2.map baL=[]:=fun e=>by rw[hg2,if_neg (by rw[hbt];exact e)];rfl
 refine⟨fun h1 u hu=>(HOW u hu).mono fun e w' k=>⟨k.1,k.2.1 h1⟩,
  fun h1 h2 h3 u hu=>(HOW u hu).mono fun e w' k=>⟨k.1,k.2.2.1 h1 (hbt.2 h2) h3⟩,
  fun h1 h2 h3 u hu=>(HOW u hu).mono fun e w' k=>⟨k.1,k.2.2.2.1 h1 (fun e=>h2 (hbt.1 e)) h3⟩,
  fun h1 h2 h3 h4 h5 u hu=>(HOW u hu).mono fun e w' k=>⟨k.1,?_⟩,fun q j r v h1 h2 h3 h4 h5 u hu=>(HOW u hu).mono fun e w' k=>⟨k.1,?_⟩,fun q j h1 h2 h4 u hu=>(HOW u hu).mono fun e w' k=>⟨k.1,?_⟩⟩
 ·rw[hg2t h2] at k;exact k.2.2.2.2.1 h1 (fun _=>h3) h4 h5
 ·have:=k.2.2.2.2.2 h1 (fun _=>h3) (by rw[h4]) (by rw[hg2t h2,h5])
  rw[hg2t h2,h4,h5] at this;exact this
 ·have hl:zad L [] 0 1=(0,1,0):=rfl
  have:=k.2.2.2.2.2 h1 (fun e=>absurd (hbt.1 e) h2) (by rw[h4]) (by rw[hg2f h2,hl])
  rw[hg2f h2,h4,hl] at this;exact this
end
end
section
open Go.RowKit
theorem look_sp (L:List ND) (g:List ByteArray) (h:(zad L g 0 1).2.2=0):∃q j,zad L g 0 1=(q,j,0):=⟨(zad L g 0 1).1,(zad L g 0 1).2.1,Prod.ext rfl (Prod.ext rfl h)⟩
theorem do_act1 (T:TT) (c:AC) (hk:¬(c.k=0∨11 < c.k)) (hp:peB c.p=0) (h2:¬twoK c.k) {q j:Nat} (hl:zad T.l (pnB c.p) 0 1=(q,j,0)):doF T c=actF T c (pnB c.p) [] q j 0 0:=by
 unfold doF;rw[if_neg hk,if_neg (by simpa using hp),if_neg (fun e=>h2 e.1),hl,if_neg (by simp),if_neg h2]
theorem do_act2 (T:TT) (c:AC) (hk:¬(c.k=0∨11 < c.k)) (hp:peB c.p=0) (h2:twoK c.k) (ht:peB c.t=0) {q j r v:Nat} (hl:zad T.l (pnB c.p) 0 1=(q,j,0)) (hm:zad T.l (pnB c.t) 0 1=(r,v,0)):
  doF T c=actF T c (pnB c.p) (pnB c.t) q j r v:=by
 unfold doF;rw[if_neg hk,if_neg (by simpa using hp),if_neg (fun e=>e.2 ht),hl,if_neg (by simp),if_pos h2,hm,if_neg (by simp)]
theorem act_none (T:TT) (c:AC) (g m:List ByteArray) (q r v:Nat) (h:¬(c.k=1∨c.k=2)):actF T c g m q 0 r v=(T,erA 12):=by
 unfold actF;rw[if_neg h,if_pos rfl]
theorem act_some (T:TT) (c:AC) (g m:List ByteArray) (q j r v:Nat) (h:¬(c.k=1∨c.k=2)) (h0:j≠0) {y:ND} (hy:ndI T.l j=some y):actF T c g m q j r v =
  (if c.k=3 then rmF T g q j y
   else if c.k=4 then lnF T m j r v y
   else if c.k=5 then ulF T g q j y
   else if c.k=6 then mvF T g m q j r v y
   else if c.k=10 then (T,{ erA 0 with i:=j,k:=y.k,l:=y.l,s:=y.b.length })
   else if c.k=11 then lsF T y
   else bytF T c j y):=by
 unfold actF;rw[if_neg h,if_neg h0,hy]
theorem mdo_any (w0:World) (gt p:Nat) (L:List ND) (kk:Nat) (sp st:ByteArray) (av nv:Int) (Ab:Option Addr) (bl bc:Nat) (ab:List Nat) (w:World) (h:PT w0 w gt p L) (hR:Rt ⟨p,L⟩)
  (hs:sp.size≤1048576) (ht:st.size≤1048576) (hab:Bts w Ab bl ab) (hbl:bl≤140737488355328):
  Calls Tryz.prog 33 #[.pointer (some ⟨gt,0,none⟩),.agg #[.int .u8 kk,.string sp,.string st,.int .i64 av,.int .i64 nv,.slice Ab bl bc]] w
   (AnsP w0 w gt p (doF ⟨p,L⟩ ⟨kk,sp,st,av,nv,ab⟩).1.l (doF ⟨p,L⟩ ⟨kk,sp,st,av,nv,ab⟩).2):=by
 obtain⟨H1,H2,H3,H4,H5,H6⟩:=mspots_any w0 gt p L kk sp st av nv Ab bl bc w h hR hs ht
 by_cases hka:kk∈[1,2,3,4,5,6,7,8,9,10,11]
 ·have hk0:¬(kk=0∨11 < kk):=by simp only[List.mem_cons,List.not_mem_nil,or_false] at hka;omega
  by_cases hp:peB sp=0
  ·by_cases h2:twoK kk
   ·by_cases hq:peB st=0
    ·by_cases hl:(zad L (pnB sp) 0 1).2.2=0
     ·obtain⟨q,j,hql⟩:=look_sp _ _ hl
      by_cases hm:(zad L (pnB st) 0 1).2.2=0
      ·obtain⟨r,v,hrl⟩:=look_sp _ _ hm;have HS:=H5 q j r v hp h2 hq hql hrl;rw[do_act2 ⟨p,L⟩ ⟨kk,sp,st,av,nv,ab⟩ hk0 hp h2 hq hql hrl];have hL1:LkP L (pnB sp) q j:=zbx hR hql;have hL2:LkP L (pnB st) r v:=zbx hR hrl
       rcases h2 with rfl|rfl
       ·by_cases h0:j=0
        ·subst h0;rw[act_none _ _ _ _ _ _ _ (by show ¬(4=1∨4=2);omega)]
         exact mdo_ln w0 gt p L sp st av nv Ab bl bc q 0 _ r v _ _ _ L (erA 12) w h HS fun u hu=>link_no w0 gt p L q 0 _ _ r v _ _ u (h.new hu) rfl
        ·obtain⟨y,hy⟩:=zce hR hL1 h0;rw[act_some _ _ _ _ _ _ _ _ (by show ¬(4=1∨4=2);omega) h0 hy]
         have hmv:pnB st≠[]∨v≠0:=by
          by_cases e:pnB st=[]
          ·rw[e] at hrl;have hrl:(0,1,0)=(r,v,0):=hrl
           injection hrl with _ e2
           injection e2 with e2 _
           exact .inr (by omega)
          ·exact .inl e
         exact mdo_ln w0 gt p L sp st av nv Ab bl bc q j _ r v _ _ _ _ _ w h HS fun u hu=>mlink_any w0 gt p L q j _ r v _ _ _ u (h.new hu) hR hL2 rfl h0 hmv hy
       ·by_cases h0:j=0
        ·subst h0;rw[act_none _ _ _ _ _ _ _ (by show ¬(6=1∨6=2);omega)]
         exact mdo_mv w0 gt p L sp st av nv Ab bl bc q 0 _ r v _ _ _ L (erA 12) (uL st.data.toList sp.data.toList) w h HS (fun u _=>under_any st sp u ht hs) fun u hu=>rename_no w0 gt p L q 0 _ _ r v _ _ _ u (h.new hu) rfl
        ·obtain⟨y,hy⟩:=zce hR hL1 h0;rw[act_some _ _ _ _ _ _ _ _ (by show ¬(6=1∨6=2);omega) h0 hy]
         exact mdo_mv w0 gt p L sp st av nv Ab bl bc q j _ r v _ _ _ _ _ (uL st.data.toList sp.data.toList) w h HS (fun u _=>under_any st sp u ht hs) fun u hu=>rename_any w0 gt p L q j _ r v _ _ _ _ u (h.new hu) hR hL1 hL2 rfl rfl rfl rfl (begL_u hq hp) h0 hy (pnB_len _)
      ·have e:doF ⟨p,L⟩ ⟨kk,sp,st,av,nv,ab⟩=(⟨p,L⟩,erA (zad L (pnB st) 0 1).2.2):=by
        unfold doF;rw[if_neg hk0,if_neg (by simpa using hp),if_neg (fun e=>e.2 hq),if_neg (by simpa using hl),if_pos h2,if_pos hm]
       rw[e];exact mdo_err w0 gt p L sp st av nv Ab bl bc kk _ w h hka hm (H4 hp h2 hq hl hm)
     ·have e:doF ⟨p,L⟩ ⟨kk,sp,st,av,nv,ab⟩=(⟨p,L⟩,erA (zad L (pnB sp) 0 1).2.2):=by
       unfold doF;rw[if_neg hk0,if_neg (by simpa using hp),if_neg (fun e=>e.2 hq),if_pos hl]
      rw[e];exact mdo_err w0 gt p L sp st av nv Ab bl bc kk _ w h hka hl (H3 hp (fun _=>hq) hl)
    ·have e:doF ⟨p,L⟩ ⟨kk,sp,st,av,nv,ab⟩=(⟨p,L⟩,erA (peB st)):=by
      unfold doF;rw[if_neg hk0,if_neg (by simpa using hp),if_pos ⟨h2,hq⟩]
     rw[e];exact mdo_err w0 gt p L sp st av nv Ab bl bc kk _ w h hka hq (H2 hp h2 hq)
   ·by_cases hl:(zad L (pnB sp) 0 1).2.2=0
    ·obtain⟨q,j,hql⟩:=look_sp _ _ hl;have HS:=H6 q j hp h2 hql;rw[do_act1 ⟨p,L⟩ ⟨kk,sp,st,av,nv,ab⟩ hk0 hp h2 hql];have hL1:LkP L (pnB sp) q j:=zbx hR hql
     have hmk:∀(k:Nat) (u:World),New w u→Calls Tryz.prog 54 #[.pointer (some ⟨gt,0,none⟩),.agg #[.int .i64 q,.string (lst (pnB sp)),.int .i64 j,.int .i64 ((pnB sp).length:Nat)],.int .u8 (k:Nat)] u (AnsP w0 u gt p (mkF ⟨p,L⟩ ⟨k,sp,st,av,nv,ab⟩ (pnB sp) q j).1.l (mkF ⟨p,L⟩ ⟨k,sp,st,av,nv,ab⟩ (pnB sp) q j).2):=fun k u hu=>by
      unfold mkF
      by_cases h0:j=0
      ·by_cases h48:48≤L.length
       ·rw[if_neg (by simpa using h0),if_pos h48];exact add_full w0 gt p L q j _ _ k u (h.new hu) h0 h48
       ·rw[if_neg (by simpa using h0),if_neg h48]
        have hgne:pnB sp≠[]:=by
         obtain⟨dd,hdd⟩:=hR.dep;obtain⟨_,_,hgl,_⟩:=LkP.dir hR hdd hL1 (.inr (by omega));rw[hgl];simp
        exact add_yes w0 gt p L q j _ _ k u (h.new hu) hR hL1 hgne rfl h0 h48
      ·rw[if_pos h0];exact add_no w0 gt p L q j _ _ k u (h.new hu) h0
     by_cases hk12:kk=1∨kk=2
     ·rcases hk12 with rfl|rfl
      ·exact mdo_mk1 w0 gt p L sp st av nv Ab bl bc q j _ 0 1 0 _ _ _ _ w h HS fun u hu=>hmk 1 u hu
      ·exact mdo_mk2 w0 gt p L sp st av nv Ab bl bc q j _ 0 1 0 _ _ _ _ w h HS fun u hu=>hmk 2 u hu
     ·by_cases h0:j=0
      ·subst h0;rw[act_none _ _ _ _ _ _ _ hk12]
       have hkk:kk=3∨kk=5∨kk=7∨kk=8∨kk=9∨kk=10∨kk=11:=by
        unfold twoK at h2;omega
       rcases hkk with rfl|rfl|rfl|rfl|rfl|rfl|rfl
       ·exact mdo_rm w0 gt p L sp st av nv Ab bl bc q 0 _ 0 1 0 _ _ L (erA 12) w h HS fun u hu=>rmdir_no w0 gt p L q 0 _ _ u (h.new hu) rfl
       ·exact mdo_ul w0 gt p L sp st av nv Ab bl bc q 0 _ 0 1 0 _ _ L (erA 12) w h HS fun u hu=>unlink_no w0 gt p L q 0 _ _ u (h.new hu) rfl
       ·exact mdo_wr w0 gt p L sp st av nv Ab bl bc q 0 _ 0 1 0 _ _ L (erA 12) w h HS fun u hu=>write_no w0 gt p L q 0 _ _ 7 sp st av nv Ab bl bc u (h.new hu) rfl
       ·exact mdo_cu w0 gt p L sp st av nv Ab bl bc q 0 _ 0 1 0 _ _ L (erA 12) w h HS fun u hu=>cut_no w0 gt p L q 0 _ _ 8 sp st av nv Ab bl bc u (h.new hu) rfl
       ·exact mdo_rd w0 gt p L sp st av nv Ab bl bc q 0 _ 0 1 0 _ _ L (erA 12) w h HS fun u hu=>read_no w0 gt p L q 0 _ _ 9 sp st av nv Ab bl bc u (h.new hu) rfl
       ·exact mdo_st w0 gt p L sp st av nv Ab bl bc q 0 _ 0 1 0 _ _ L (erA 12) w h HS fun u hu=>stat_no w0 gt p L q 0 _ _ u (h.new hu) rfl
       ·exact mdo_ls w0 gt p L sp st av nv Ab bl bc q 0 _ 0 1 0 _ _ L (erA 12) w h HS fun u hu=>list_no w0 gt p L q 0 _ _ u (h.new hu) rfl
      ·obtain⟨y,hy⟩:=zce hR hL1 h0;rw[act_some _ _ _ _ _ _ _ _ hk12 h0 hy]
       have hkk:kk=3∨kk=5∨kk=7∨kk=8∨kk=9∨kk=10∨kk=11:=by
        unfold twoK at h2;omega
       rcases hkk with rfl|rfl|rfl|rfl|rfl|rfl|rfl
       ·exact mdo_rm w0 gt p L sp st av nv Ab bl bc q j _ 0 1 0 _ _ _ _ w h HS fun u hu=>rmdir_any w0 gt p L q j _ _ u (h.new hu) hR hL1 rfl rfl h0 hy
       ·exact mdo_ul w0 gt p L sp st av nv Ab bl bc q j _ 0 1 0 _ _ _ _ w h HS fun u hu=>unlink_any w0 gt p L q j _ _ u (h.new hu) hR hL1 rfl h0 hy
       ·exact mdo_wr w0 gt p L sp st av nv Ab bl bc q j _ 0 1 0 _ _ _ _ w h HS fun u hu=>mwrite_any w0 gt p L q j _ _ 7 sp st av nv Ab bl bc u (h.new hu) hR h0 hy rfl ab (hab.new hu) hbl
       ·exact mdo_cu w0 gt p L sp st av nv Ab bl bc q j _ 0 1 0 _ _ _ _ w h HS fun u hu=>mcut_any w0 gt p L q j _ _ 8 sp st av nv Ab bl bc u (h.new hu) hR h0 hy rfl ab
       ·exact mdo_rd w0 gt p L sp st av nv Ab bl bc q j _ 0 1 0 _ _ _ _ w h HS fun u hu=>mread_any w0 gt p L q j _ _ 9 sp st av nv Ab bl bc u (h.new hu) hR h0 hy rfl ab
       ·exact mdo_st w0 gt p L sp st av nv Ab bl bc q j _ 0 1 0 _ _ _ _ w h HS fun u hu=>stat_yes w0 gt p L q j _ _ u (h.new hu) hR h0 hy
       ·exact mdo_ls w0 gt p L sp st av nv Ab bl bc q j _ 0 1 0 _ _ _ _ w h HS fun u hu=>mlist_any w0 gt p L q j _ _ u (h.new hu) hR h0 hy
    ·have e:doF ⟨p,L⟩ ⟨kk,sp,st,av,nv,ab⟩=(⟨p,L⟩,erA (zad L (pnB sp) 0 1).2.2):=by
      unfold doF;rw[if_neg hk0,if_neg (by simpa using hp),if_neg (fun e=>h2 e.1),if_pos hl]
     rw[e];exact mdo_err w0 gt p L sp st av nv Ab bl bc kk _ w h hka hl (H3 hp (fun e=>absurd e h2) hl)
  ·have e:doF ⟨p,L⟩ ⟨kk,sp,st,av,nv,ab⟩=(⟨p,L⟩,erA (peB sp)):=by
    unfold doF;rw[if_neg hk0,if_pos hp]
   rw[e];exact mdo_err w0 gt p L sp st av nv Ab bl bc kk _ w h hka hp (H1 hp)
 ·have e:doF ⟨p,L⟩ ⟨kk,sp,st,av,nv,ab⟩=(⟨p,L⟩,erA 2):=by
   unfold doF;rw[if_pos (show kk=0∨11 < kk by simp only[List.mem_cons,List.not_mem_nil,or_false,not_or] at hka;omega)]
  rw[e];exact mdo_kind w0 gt p L sp st av nv Ab bl bc kk w h hka
end
section
open Go.RowKit
theorem mDo_any (p:Nat) (A:Option Addr) (n c:Nat) (es:List NE) (kk:Nat) (sp st:ByteArray) (av nv:Int) (Ab:Option Addr) (bl bc:Nat) (ab:List Nat) (w:World) (hT:TIn w A es) (hn:es.length=n) (hR:Rt ⟨p,nds es⟩)
  (hs:sp.size≤1048576) (ht:st.size≤1048576) (hab:Bts w Ab bl ab) (hbl:bl≤140737488355328):
  Calls Tryz.prog 16 #[.agg #[.int .i64 p,.slice A n c],.agg #[.int .u8 kk,.string sp,.string st,.int .i64 av,.int .i64 nv,.slice Ab bl bc]] w
   (DoP w p w.heap.size none (doF ⟨p,nds es⟩ ⟨kk,sp,st,av,nv,ab⟩).1.l (doF ⟨p,nds es⟩ ⟨kk,sp,st,av,nv,ab⟩).2):=by
 obtain⟨w1,hw1⟩:∃w1,w1=(((w.alloc (.cells #[.int .i64 p,.slice A n c] 25)).alloc (.cells #[.int .u8 kk,.string sp,.string st,.int .i64 av,.int .i64 nv,.slice Ab bl bc] 34)).alloc (.cells #[.int .i64 0,.slice none 0 0] 25)).alloc (.cells #[.int .i64 0,.int .i64 0,.int .i64 0,.int .u8 0,.int .i64 0,.int .i64 0,.slice none 0 0,.slice none 0 0] 41):=⟨_,rfl⟩
 have n1:New w w1:=by rw[hw1];exact (((kR.alloc _).alloc _).alloc _).alloc _
 have BT:Hid (Blk w1 w.heap.size 25 [.int .i64 p,.slice A n c]):=by rw[hw1];exact (((Blk.made w _ _).alloc _).alloc _).alloc _
 have BC:Hid (Blk w1 (w.heap.size+1) 34 [.int .u8 kk,.string sp,.string st,.int .i64 av,.int .i64 nv,.slice Ab bl bc]):=by
  have:=Blk.made (w.alloc (.cells #[.int .i64 p,.slice A n c] 25)) 34 #[.int .u8 kk,.string sp,.string st,.int .i64 av,.int .i64 nv,.slice Ab bl bc]
  rw[World.size_alloc] at this;rw[hw1];exact (this.alloc _).alloc _
 have BR:Hid (Blk w1 (w.heap.size+1+1) 25 [.int .i64 0,.slice none 0 0]):=by
  have:=Blk.made ((w.alloc (.cells #[.int .i64 p,.slice A n c] 25)).alloc (.cells #[.int .u8 kk,.string sp,.string st,.int .i64 av,.int .i64 nv,.slice Ab bl bc] 34)) 25 #[.int .i64 0,.slice none 0 0]
  rw[World.size_alloc,World.size_alloc] at this;rw[hw1];exact this.alloc _
 have BA:Hid (Blk w1 (w.heap.size+1+1+1) 41 [.int .i64 0,.int .i64 0,.int .i64 0,.int .u8 0,.int .i64 0,.int .i64 0,.slice none 0 0,.slice none 0 0]):=by
  have:=Blk.made (((w.alloc (.cells #[.int .i64 p,.slice A n c] 25)).alloc (.cells #[.int .u8 kk,.string sp,.string st,.int .i64 av,.int .i64 nv,.slice Ab bl bc] 34)).alloc (.cells #[.int .i64 0,.slice none 0 0] 25)) 41 #[.int .i64 0,.int .i64 0,.int .i64 0,.int .u8 0,.int .i64 0,.int .i64 0,.slice none 0 0,.slice none 0 0]
  rw[World.size_alloc,World.size_alloc,World.size_alloc] at this;rw[hw1];exact this
 have CC:=jH (mclone_any p A n c es w1 (TIn.new hT n1) hn hR);have N1:=jH n1;have HW:=jH hw1;have HR:=jH hR;have HAB:=jH hab;have HS:Hid (sp.size≤1048576∧st.size≤1048576∧bl≤140737488355328):=⟨hs,ht,hbl⟩;obtain⟨L9,hL9⟩:∃L9,L9=(doF ⟨p,nds es⟩ ⟨kk,sp,st,av,nv,ab⟩).1.l:=⟨_,rfl⟩;obtain⟨a9,ha9⟩:∃a9,a9=(doF ⟨p,nds es⟩ ⟨kk,sp,st,av,nv,ab⟩).2:=⟨_,rfl⟩;rw[←hL9,←ha9];have HL9:=jH hL9;have HA9:=jH ha9;clear hw1 n1 hT hn hR hs ht hab hbl hL9 ha9;go_enter Tryz.func16,Tryz.ntmps16
 go_upto_region 1 with fail
 rw[←HW.out];clear HW;obtain⟨gk,hgk⟩:∃gk,gk=w.heap.size:=⟨_,rfl⟩;rw[←hgk] at BT BC BR BA ⊢;have GK:Hid (w.heap.size≤gk+1+1∧w.heap.size≤gk+1+1+1):=⟨by omega,by omega⟩;clear hgk;obtain⟨b0,b1⟩:=BT.out.p2
 go_upto_region 2 with (go_at_call 31;refine CC.out.mono ?_;rintro e w2 ⟨g2,es2,rfl,hL2,hO2,hD2,hK2⟩)
 have hL2:nds es2=nds es:=hL2;obtain⟨w3,hw3⟩:∃w3,w3=w2.alloc (.cells #[.int .i64 p,.slice (some ⟨g2,0,none⟩) es2.length es2.length] 25):=⟨_,rfl⟩
 have k3:New w2 w3:=by rw[hw3];exact kR.alloc _
 have BG:Blk w3 w2.heap.size 25 [.int .i64 p,.slice (some ⟨g2,0,none⟩) es2.length es2.length]:=by rw[hw3];exact Blk.made w2 _ _
 have N3:Hid (New w w3):=(N1.out.new hK2).new k3;have M3:Hid (New w1 w3):=hK2.new k3;have HPT:Hid (PT w w3 w2.heap.size p (nds es)):=⟨g2,es2.length,es2,BG,(hO2.mono N1.out.size).new k3,hL2,hD2,N3.out,(N1.out.new hK2).size⟩
 have HRt:Hid (Rt ⟨p,nds es2⟩):=by rw[hL2];exact HR.out
 have CRT:Hid (∀u,New w3 u→Calls Tryz.prog 21 #[.agg #[.int .i64 p,.slice (some ⟨g2,0,none⟩) es2.length es2.length]] u (zbt u true)):=fun u hu=>mright_yes p _ _ _ es2 u ((hO2.new (k3.new hu)).in_) rfl HRt.out
 have HBG:=jH BG;rw[←hw3];have hgt:gk < w2.heap.size:=(BT.out.kept hK2 id).lt;have hgt2:gk+1+1 < w2.heap.size:=(BR.out.kept hK2 id).lt;have hgt3:gk+1+1+1 < w2.heap.size:=(BA.out.kept hK2 id).lt;generalize w2.heap.size=gt at *;clear hw3 k3 BG hL2 hO2 hD2 hK2 b0 b1 CC;obtain⟨e0,e1⟩:=HBG.out.p2
 go_upto_region 4 with (go_at_call 21;refine (CRT.out _ kR).mono ?_;rintro e w4 ⟨rfl,hK4⟩;have K4:Hid (New w3 w4):=hK4;clear hK4)
 have N4:=jH (N3.out.new K4.out);have M4:=jH (M3.out.new K4.out);have P4:=jH (HPT.out.new K4.out);clear e0 e1 CRT HBG;have CD:=jH (mdo_any w gt p (nds es) kk sp st av nv Ab bl bc ab w4 P4.out HR.out HS.out.1 HS.out.2.1 (HAB.out.new N4.out) HS.out.2.2);rw[←HL9.out,←HA9.out] at CD;have B4R:=jH (BR.out.kept M4.out id);have B4A:=jH (BA.out.kept M4.out id);have HTR:Hid (¬Tr w4 gt (gk+1+1)):=Tr.not B4R.out.at_ (by decide) (by decide) (by omega);have HTA:Hid (¬Tr w4 gt (gk+1+1+1)):=Tr.not B4A.out.at_ (by decide) (by decide) (by omega);obtain⟨c0,c1,c2,c3,c4,c5⟩:=(BC.out.kept M4.out id).p6;clear hgt hgt2 hgt3
 go_upto_region 5 with (go_at_call 33;refine CD.out.mono ?_;rintro e w5 ⟨B',d',T',t',rfl,hP5,hB5,hX5,hA5,hK5⟩)
 obtain⟨g9,c9,es9,hB9,hO9,hL9,hD9,hN9,hg9⟩:=hP5;obtain⟨w6,hw6⟩:∃w6,w6=w5.alloc (.cells #[.int .i64 a9.e,.int .i64 a9.i,.int .i64 a9.n,.int .u8 a9.k,.int .i64 a9.l,.int .i64 a9.s,.slice B' a9.b.length d',.slice T' a9.ns.length t'] 41):=⟨_,rfl⟩
 have k6:New w5 w6:=by rw[hw6];exact kR.alloc _
 have B7:Hid (Blk w6 w5.heap.size 41 [.int .i64 a9.e,.int .i64 a9.i,.int .i64 a9.n,.int .u8 a9.k,.int .i64 a9.l,.int .i64 a9.s,.slice B' a9.b.length d',.slice T' a9.ns.length t']):=by rw[hw6];exact Blk.made w5 _ _
 rw[←hw6];have B6R:=jH ((B4R.out.kept hK5 HTR.out).kept k6 id);have B6A:=jH ((B4A.out.kept hK5 HTA.out).kept k6 id);have B6T:=jH (hB9.kept k6 id)
 have g7R:¬w5.heap.size=gk+1+1:=fun e=>by have h1:=(B4R.out.kept hK5 HTR.out).lt;omega
 have g7A:¬w5.heap.size=gk+1+1+1:=fun e=>by have h1:=(B4A.out.kept hK5 HTA.out).lt;omega
 have hTR2:¬gt=gk+1+1:=fun e=>HTR.out (.inl e.symm)
 have hTA2:¬gt=gk+1+1+1:=fun e=>HTA.out (.inl e.symm)
 obtain⟨m9,hm9⟩:∃m9,m9=es9.length:=⟨_,rfl⟩;rw[←hm9] at B6T;have N6:Hid (New w w6):=hN9.new k6;have DD:=jH (zag (w:=w) (A0:=none) (a:=a9) (p:=p) (c:=c9) (n:=m9) (B:=w.heap.size) (A:=some ⟨g9,0,none⟩) (B':=B') (m:=a9.b.length) (d':=d') (T':=T') (q:=a9.ns.length) (t':=t') B6R.out B6A.out GK.out.1 GK.out.2 (hO9.new k6) hm9.symm hL9 (hB5.new k6) rfl (hX5.new k6) (fun x hx=>(hA5 x hx).kept k6 id) rfl (N6.out.mono fun _ _ f=>f.elim));have DB:=jH (zae (p:=p) (A:=some ⟨g9,0,none⟩) (n:=m9) (c:=c9) (a:=a9) (B':=B') (m:=a9.b.length) (d':=d') (T':=T') (q:=a9.ns.length) (t':=t') B6R.out B6A.out);generalize w5.heap.size=g7 at *
 have SG:Hid (∀u:World,Kept (fun k=>k=gk+1+1∨k=gk+1+1+1) w6 u→(u.cell? ⟨gt,0,none⟩=some (.int .i64 p)∧u.cell? ⟨gt,1,none⟩=some (.slice (some ⟨g9,0,none⟩) m9 c9)∧u.cell? ⟨g7,0,none⟩=some (.int .i64 a9.e)∧u.cell? ⟨g7,1,none⟩=some (.int .i64 a9.i)∧u.cell? ⟨g7,2,none⟩=some (.int .i64 a9.n)∧u.cell? ⟨g7,3,none⟩=some (.int .u8 a9.k)∧u.cell? ⟨g7,4,none⟩=some (.int .i64 a9.l)∧u.cell? ⟨g7,5,none⟩=some (.int .i64 a9.s)∧u.cell? ⟨g7,6,none⟩=some (.slice B' a9.b.length d')∧u.cell? ⟨g7,7,none⟩=some (.slice T' a9.ns.length t'))):=fun u hu=>by
  have h1:=B6T.out.kept hu (fun e=>by rcases e with e|e;exact hTR2 e;exact hTA2 e);have h2:=B7.out.kept hu (fun e=>by rcases e with e|e;exact g7R e;exact g7A e);exact⟨h1.cell 0,h1.cell 1,h2.cell 0,h2.cell 1,h2.cell 2,h2.cell 3,h2.cell 4,h2.cell 5,h2.cell 6,h2.cell 7⟩
 have KR:Kept (fun k=>k=gk+1+1∨k=gk+1+1+1) w6 w6:=kR
 have KD:∀u:World,Kept (fun k=>k=gk+1+1∨k=gk+1+1+1) w6 u→Kept (fun k=>k=gk+1+1∨k=gk+1+1+1) w6 u.drew:=fun u k=>k.drew
 have KS:∀(u:World) (x:Addr) (y:Value),(x.block=gk+1+1∨x.block=gk+1+1+1)→Kept (fun k=>k=gk+1+1∨k=gk+1+1+1) w6 u→Kept (fun k=>k=gk+1+1∨k=gk+1+1+1) w6 (u.setCell x y):=fun u x y h k=>k.setCell (fun _=>h) y
 obtain⟨t0,t1⟩:=B6R.out.p2;obtain⟨r0,r1,r2,r3,r4,r5,r6,r7⟩:=B6A.out.p8;obtain⟨f0,f1⟩:=B6R.out.f2;obtain⟨h0,h1,h2,h3,h4,h5,h6,h7⟩:=B6A.out.f8;have HLD:Hid ((((((((((w6.setCell ⟨gk+1+1,0,none⟩ (.int .i64 p)).setCell ⟨gk+1+1,1,none⟩ (.slice (some ⟨g9,0,none⟩) m9 c9)).setCell ⟨gk+1+1+1,0,none⟩ (.int .i64 a9.e)).setCell ⟨gk+1+1+1,1,none⟩ (.int .i64 a9.i)).setCell ⟨gk+1+1+1,2,none⟩ (.int .i64 a9.n)).setCell ⟨gk+1+1+1,3,none⟩ (.int .u8 a9.k)).setCell ⟨gk+1+1+1,4,none⟩ (.int .i64 a9.l)).setCell ⟨gk+1+1+1,5,none⟩ (.int .i64 a9.s)).setCell ⟨gk+1+1+1,6,none⟩ (.slice B' a9.b.length d')).setCell ⟨gk+1+1+1,7,none⟩ (.slice T' a9.ns.length t')=laid w6 (gk+1+1) (gk+1+1+1) p (some ⟨g9,0,none⟩) m9 c9 a9 B' a9.b.length d' T' a9.ns.length t'):=rfl
 clear hw6 k6 hB9 hO9 hL9 hD9 hN9 hg9 hB5 hX5 hA5 hK5 CD c0 c1 c2 c3 c4 c5 HPT P4 hm9
 go_region_held3 (fun u=>u.cell? ⟨gt,0,none⟩=some (.int .i64 p)∧u.cell? ⟨gt,1,none⟩=some (.slice (some ⟨g9,0,none⟩) m9 c9)∧u.cell? ⟨g7,0,none⟩=some (.int .i64 a9.e)∧u.cell? ⟨g7,1,none⟩=some (.int .i64 a9.i)∧u.cell? ⟨g7,2,none⟩=some (.int .i64 a9.n)∧u.cell? ⟨g7,3,none⟩=some (.int .u8 a9.k)∧u.cell? ⟨g7,4,none⟩=some (.int .i64 a9.l)∧u.cell? ⟨g7,5,none⟩=some (.int .i64 a9.s)∧u.cell? ⟨g7,6,none⟩=some (.slice B' a9.b.length d')∧u.cell? ⟨g7,7,none⟩=some (.slice T' a9.ns.length t'))
  ((refine SG.out _ ?_;repeat (first|with_reducible exact KR|with_reducible refine KD _ ?_|(with_reducible refine KS _ _ _ ?_ ?_;(first|exact .inl rfl|exact .inr rfl)))))
  (first
   | fail)
 all_goals rw[HLD.out]
 all_goals generalize laid w6 (gk+1+1) (gk+1+1+1) p (some ⟨g9,0,none⟩) m9 c9 a9 B' a9.b.length d' T' a9.ns.length t'=wf at *
 all_goals
  have d0:=DB.out.1.cell 0;have d1:=DB.out.1.cell 1;have d2:=DB.out.2.cell 0;have d3:=DB.out.2.cell 1;have d4:=DB.out.2.cell 2;have d5:=DB.out.2.cell 3;have d6:=DB.out.2.cell 4;have d7:=DB.out.2.cell 5;have d8:=DB.out.2.cell 6;have d9:=DB.out.2.cell 7;simp at d0 d1 d2 d3 d4 d5 d6 d7 d8 d9;go_wp2_with fail
  try simp only[Exit.then]
  refine bodyPost_ret (by simp[results,Tryz.results16,go_sem,d0,d1,d2,d3,d4,d5,d6,d7,d8,d9];try rfl) rfl ?_
  first
   | exact DD.out
   | exact DD.out.drew
end
section
open Go.RowKit
theorem mnew_any (p:Nat) (w:World) (h1:1≤p) (h2:p≤255):Calls Tryz.prog 10 #[.int .i64 p] w
  fun e w'=>∃A c es,e=.returned (.tuple #[.agg #[.int .i64 p,.slice A es.length c],.int .i64 0])∧nds es=[⟨1,1,1,[],[]⟩]∧TOwn w' w.heap.size A c es∧New w w':=by
 obtain⟨w1,hw1⟩:∃w1,w1=w.alloc (.cells #[.int .i64 0,.slice none 0 0] 25):=⟨_,rfl⟩
 have N1:Hid (New w w1):=by rw[hw1];exact kR.alloc _
 have BX:Hid (Blk w1 w.heap.size 25 [.int .i64 0,.slice none 0 0]):=by rw[hw1];exact Blk.made w _ _
 have HW:=jH hw1
 have CI:Hid (∀u,Calls Tryz.prog 29 #[.int .i64 p] u (fun e w'=>e=.returned (.bool true)∧New u w')):=fun u=>by
  have:=ispiece_any p u
  rwa [decide_eq_true (⟨h1,h2⟩:1≤p∧p≤255)] at this
 clear hw1 h1 h2;go_enter Tryz.func10,Tryz.ntmps10
 go_upto_region 1 with fail
 rw[←HW.out];clear HW;obtain⟨gb,hgb⟩:∃gb,gb=w.heap.size:=⟨_,rfl⟩;rw[←hgb] at BX ⊢;have HGB:=jH hgb;clear hgb
 go_wp2_with (go_at_call 29;refine (CI.out _).mono ?_;rintro e wq ⟨rfl,NQ⟩;have M1:=jH NQ;have BQ:=jH (BX.out.kept NQ id);obtain⟨t0,t1⟩:=BQ.out.p2;obtain⟨f0,f1⟩:=BQ.out.f2;have t0a:(wq.alloc (.cells #[.int .i64 1,.int .u8 1,.int .i64 1,.slice none 0 0,.slice none 0 0] 53)).cell? ⟨gb,0,none⟩=some (.int .i64 0):=(BQ.out.alloc _).cell 0;have t1a:(wq.alloc (.cells #[.int .i64 1,.int .u8 1,.int .i64 1,.slice none 0 0,.slice none 0 0] 53)).cell? ⟨gb,1,none⟩=some (.slice none 0 0):=(BQ.out.alloc _).cell 1;obtain⟨f0a,f1a⟩:=(BQ.out.alloc (.cells #[.int .i64 1,.int .u8 1,.int .i64 1,.slice none 0 0,.slice none 0 0] 53)).f2;clear NQ t0 t1 f0 f1)
 obtain⟨wf,hwf⟩:∃wf,wf=(((wq.alloc (.cells #[.int .i64 1,.int .u8 1,.int .i64 1,.slice none 0 0,.slice none 0 0] 53)).setCell ⟨gb,0,none⟩ (.int .i64 p)).setCell ⟨gb,1,none⟩ (.slice (some ⟨wq.heap.size,0,none⟩) 1 1)):=⟨_,rfl⟩;rw[←hwf]
 have BM:Blk wf wq.heap.size 53 [.int .i64 1,.int .u8 1,.int .i64 1,.slice none 0 0,.slice none 0 0]:=by
  have h0:=Blk.made wq 53 #[.int .i64 1,.int .u8 1,.int .i64 1,.slice none 0 0,.slice none 0 0]
  have hne:wq.heap.size≠gb:=fun e=>by have:=BQ.out.lt;omega
  rw[hwf];exact (h0.kept (Kept.set1 _ gb _ _) hne).kept (Kept.set1 _ gb _ _) hne
 have BT:Blk wf gb 25 [.int .i64 p,.slice (some ⟨wq.heap.size,0,none⟩) 1 1]:=by
  rw[hwf];exact ((BQ.out.alloc _).put 0 _).put 1 _
 have NF:New w wf:=by
  rw[hwf];exact (((N1.out.new M1.out).alloc _).setCell (p:=⟨gb,0,none⟩) (fun hh=>absurd hh (by rw[HGB.out];exact Nat.lt_irrefl _)) _).setCell (p:=⟨gb,1,none⟩) (fun hh=>absurd hh (by rw[HGB.out];exact Nat.lt_irrefl _)) _
 have HS:w.heap.size≤wq.heap.size:=Nat.le_trans N1.out.size M1.out.size;clear hwf;have d0:=BT.cell 0;have d1:=BT.cell 1;simp at d0 d1;refine bodyPost_ret (by simp[results,Tryz.results10,go_sem,d0,d1];try rfl) rfl ?_;refine⟨some ⟨wq.heap.size,0,none⟩,1,[⟨⟨1,1,1,[],[]⟩,none,0,none,0⟩],rfl,rfl,⟨?_,?_⟩,NF⟩
 ·exact⟨rfl,Nat.le_refl _,by unfold maxLen;omega,.inr ⟨wq.heap.size,[],rfl,HS,BM,rfl⟩⟩
 ·intro e he;simp at he;subst he;exact⟨OwnV.nil _ _ _ _,OwnB.nil _ _ _⟩
end
section
open Go.RowKit
theorem mlives_any (w:World):Calls Tryz.prog 13 #[] w (True1 w):=by
 have kc:=fun (w:World) (C:Array Value) (n c:Nat)=>Lib.run_convert_bytes_const (P:=Tryz.prog) w 32 5 C n c Tryz.underlying32 Tryz.underlying5
 go_enter Tryz.func13,Tryz.ntmps13
 go_upto_region 2 with (go_at_call 10;refine (mnew_any 32 _ (by decide) (by decide)).mono ?_;rintro e w1 ⟨A1,c1,es1,rfl,hL1,hO1,hN1⟩)
 obtain⟨w2,hw2⟩:∃w2,w2=w1.alloc (.cells #[.int .i64 32,.slice A1 es1.length c1] 25):=⟨_,rfl⟩
 have k2:New w1 w2:=by rw[hw2];exact kR.alloc _
 have HT2:Hid (LT w w2 w1.heap.size 32 lt0.l):=⟨A1,c1,es1,by rw[hw2];exact Blk.made w1 _ _,hO1.new k2,hL1,hN1.new k2,hN1.size⟩;rw[←hw2];generalize w1.heap.size=gt at *;clear hw2 k2 hL1 hO1 hN1;obtain⟨A1,c1,es1,hb1,ho1,hl1,hn1,hg1⟩:=HT2.out;obtain⟨b0,b1⟩:=hb1.p2;have ku:New w2 w2:=kR;have HBT:Hid (Bts w2 none 0 []):=Bts.nil _ _
 have CD:Hid (Calls Tryz.prog 16 #[.agg #[.int .i64 32,.slice A1 es1.length c1],.agg #[.int .u8 2,.string ⟨#[47,97]⟩,.string ⟨#[]⟩,.int .i64 0,.int .i64 0,.slice none 0 0]] w2 (DoP w2 32 w2.heap.size none lr1.1.l lr1.2)):=by
  have:=mDo_any 32 A1 es1.length c1 es1 2 ⟨#[47,97]⟩ ⟨#[]⟩ 0 0 none 0 0 [] w2 (ho1.in_.new ku) rfl (by rw[hl1];exact lr_t) (by decide) (by decide) HBT.out (by decide)
  rw[hl1] at this;exact this
 clear hl1
 go_upto_region 3 with (go_at_call 16;refine CD.out.mono ?_;rintro e we ⟨A3,c3,es3,B3,d3,T3,t3,rfl,hL3,hO3,hB3,hX3,hK3,hA3⟩;have k3:New w2 we:=ku.new (hK3.mono (fun _ _ ⟨a,e,_⟩=>by cases e));have hb3:=hb1.kept k3 id;obtain⟨t0,t1⟩:=hb3.p2;obtain⟨q0,q1⟩:=hb3.f2;have hgt3:=hb3.lt)
 have hu:w.heap.size≤w2.heap.size:=Nat.le_trans hn1.size ku.size;have hP:=lt_laidN (w0:=w) (p:=32) (n:=es3.length) (a:=lr1.2) (m:=lr1.2.b.length) (q:=lr1.2.ns.length) (t':=t3) hb3 hg1 hO3 hu rfl hL3 hB3 hu rfl hX3 hA3 rfl (hn1.new k3);have hZ:(((we.setCell ⟨gt,0,none⟩ (.int .i64 32)).setCell ⟨gt,1,none⟩ (.slice A3 es3.length c3)).alloc (.cells #[.int .i64 lr1.2.e,.int .i64 lr1.2.i,.int .i64 lr1.2.n,.int .u8 lr1.2.k,.int .i64 lr1.2.l,.int .i64 lr1.2.s,.slice B3 lr1.2.b.length d3,.slice T3 lr1.2.ns.length t3] 41))=laidN we gt 32 A3 es3.length c3 lr1.2 B3 lr1.2.b.length d3 T3 lr1.2.ns.length t3:=rfl
 rw[hZ];have hY:=laidN_kept (u:=we) (rt:=gt) (p:=32) (A:=A3) (n:=es3.length) (c:=c3) (a:=lr1.2) (B':=B3) (m:=lr1.2.b.length) (d':=d3) (T':=T3) (q:=lr1.2.ns.length) (t':=t3);generalize laidN we gt 32 A3 es3.length c3 lr1.2 B3 lr1.2.b.length d3 T3 lr1.2.ns.length t3=w3 at *;have HT3:=jH hP.1;generalize we.heap.size=ga3 at *;clear  HBT;have HA3:=jH hP.2;clear hP hY hZ hu ku b0 b1 CD hb3 t0 t1 q0 q1 hgt3 hL3 hO3 hB3 hX3 hK3 hA3 k3 hb1 ho1 hn1 hg1 HT2;obtain⟨A1,c1,es1,hb1,ho1,hl1,hn1,hg1⟩:=HT3.out;obtain⟨b0,b1⟩:=hb1.p2;have ku:New w3 w3:=kR;have HBT:Hid (Bts w3 none 0 []):=Bts.nil _ _
 have CD:Hid (Calls Tryz.prog 16 #[.agg #[.int .i64 32,.slice A1 es1.length c1],.agg #[.int .u8 4,.string ⟨#[47,97]⟩,.string ⟨#[47,98]⟩,.int .i64 0,.int .i64 0,.slice none 0 0]] w3 (DoP w3 32 w3.heap.size none lr2.1.l lr2.2)):=by
  have:=mDo_any 32 A1 es1.length c1 es1 4 ⟨#[47,97]⟩ ⟨#[47,98]⟩ 0 0 none 0 0 [] w3 (ho1.in_.new ku) rfl (by rw[hl1,lr_ea];exact lr_t1) (by decide) (by decide) HBT.out (by decide)
  rw[hl1,lr_ea] at this;exact this
 clear hl1
 go_upto_region 4 with (go_at_call 16;refine CD.out.mono ?_;rintro e we ⟨A3,c3,es3,B3,d3,T3,t3,rfl,hL3,hO3,hB3,hX3,hK3,hA3⟩;have k3:New w3 we:=ku.new (hK3.mono (fun _ _ ⟨a,e,_⟩=>by cases e));have hb3:=hb1.kept k3 id;obtain⟨t0,t1⟩:=hb3.p2;obtain⟨q0,q1⟩:=hb3.f2;have hgt3:=hb3.lt)
 have hu:w.heap.size≤w3.heap.size:=Nat.le_trans hn1.size ku.size;have hP:=lt_laidN (w0:=w) (p:=32) (n:=es3.length) (a:=lr2.2) (m:=lr2.2.b.length) (q:=lr2.2.ns.length) (t':=t3) hb3 hg1 hO3 hu rfl hL3 hB3 hu rfl hX3 hA3 rfl (hn1.new k3);have hZ:(((we.setCell ⟨gt,0,none⟩ (.int .i64 32)).setCell ⟨gt,1,none⟩ (.slice A3 es3.length c3)).alloc (.cells #[.int .i64 lr2.2.e,.int .i64 lr2.2.i,.int .i64 lr2.2.n,.int .u8 lr2.2.k,.int .i64 lr2.2.l,.int .i64 lr2.2.s,.slice B3 lr2.2.b.length d3,.slice T3 lr2.2.ns.length t3] 41))=laidN we gt 32 A3 es3.length c3 lr2.2 B3 lr2.2.b.length d3 T3 lr2.2.ns.length t3:=rfl
 rw[hZ];have hY:=laidN_kept (u:=we) (rt:=gt) (p:=32) (A:=A3) (n:=es3.length) (c:=c3) (a:=lr2.2) (B':=B3) (m:=lr2.2.b.length) (d':=d3) (T':=T3) (q:=lr2.2.ns.length) (t':=t3);have HK3:=jH ((HA3.out.new k3).far1 hY hb3.at_);generalize laidN we gt 32 A3 es3.length c3 lr2.2 B3 lr2.2.b.length d3 T3 lr2.2.ns.length t3=w4 at *;have HT4:=jH hP.1;generalize we.heap.size=ga4 at *;clear HA3 HBT;have HA4:=jH hP.2;have HA3:=HK3;clear HK3;clear hP hY hZ hu ku b0 b1 CD hb3 t0 t1 q0 q1 hgt3 hL3 hO3 hB3 hX3 hK3 hA3 k3 hb1 ho1 hn1 hg1 HT3;obtain⟨A1,c1,es1,hb1,ho1,hl1,hn1,hg1⟩:=HT4.out;obtain⟨b0,b1⟩:=hb1.p2;have ku:New w4 (w4.alloc (.cells #[.int .u8 120] 5 (1,2))):=kR.alloc _
 have HBT:Hid (Bts (w4.alloc (.cells #[.int .u8 120] 5 (1,2))) (some ⟨w4.heap.size,0,none⟩) 1 [120]):=Bts.lit w4 5 (1,2) [120] (by decide) _ rfl
 have CD:Hid (Calls Tryz.prog 16 #[.agg #[.int .i64 32,.slice A1 es1.length c1],.agg #[.int .u8 7,.string ⟨#[47,98]⟩,.string ⟨#[]⟩,.int .i64 1,.int .i64 0,.slice (some ⟨w4.heap.size,0,none⟩) 1 1]] (w4.alloc (.cells #[.int .u8 120] 5 (1,2))) (DoP (w4.alloc (.cells #[.int .u8 120] 5 (1,2))) 32 (w4.alloc (.cells #[.int .u8 120] 5 (1,2))).heap.size none lr3.1.l lr3.2)):=by
  have:=mDo_any 32 A1 es1.length c1 es1 7 ⟨#[47,98]⟩ ⟨#[]⟩ 1 0 (some ⟨w4.heap.size,0,none⟩) 1 1 [120] (w4.alloc (.cells #[.int .u8 120] 5 (1,2))) (ho1.in_.new ku) rfl (by rw[hl1,lr_eb];exact lr_t2) (by decide) (by decide) HBT.out (by decide)
  rw[hl1,lr_eb] at this;exact this
 clear hl1
 go_upto_region 5 with (go_at_call 16;refine CD.out.mono ?_;rintro e we ⟨A3,c3,es3,B3,d3,T3,t3,rfl,hL3,hO3,hB3,hX3,hK3,hA3⟩;have k3:New w4 we:=ku.new (hK3.mono (fun _ _ ⟨a,e,_⟩=>by cases e));have hb3:=hb1.kept k3 id;obtain⟨t0,t1⟩:=hb3.p2;obtain⟨q0,q1⟩:=hb3.f2;have hgt3:=hb3.lt)
 have hu:w.heap.size≤(w4.alloc (.cells #[.int .u8 120] 5 (1,2))).heap.size:=Nat.le_trans hn1.size ku.size;have hP:=lt_laidN (w0:=w) (p:=32) (n:=es3.length) (a:=lr3.2) (m:=lr3.2.b.length) (q:=lr3.2.ns.length) (t':=t3) hb3 hg1 hO3 hu rfl hL3 hB3 hu rfl hX3 hA3 rfl (hn1.new k3);have hZ:(((we.setCell ⟨gt,0,none⟩ (.int .i64 32)).setCell ⟨gt,1,none⟩ (.slice A3 es3.length c3)).alloc (.cells #[.int .i64 lr3.2.e,.int .i64 lr3.2.i,.int .i64 lr3.2.n,.int .u8 lr3.2.k,.int .i64 lr3.2.l,.int .i64 lr3.2.s,.slice B3 lr3.2.b.length d3,.slice T3 lr3.2.ns.length t3] 41))=laidN we gt 32 A3 es3.length c3 lr3.2 B3 lr3.2.b.length d3 T3 lr3.2.ns.length t3:=rfl
 rw[hZ];have hY:=laidN_kept (u:=we) (rt:=gt) (p:=32) (A:=A3) (n:=es3.length) (c:=c3) (a:=lr3.2) (B':=B3) (m:=lr3.2.b.length) (d':=d3) (T':=T3) (q:=lr3.2.ns.length) (t':=t3);have HK3:=jH ((HA3.out.new k3).far1 hY hb3.at_);have HK4:=jH ((HA4.out.new k3).far1 hY hb3.at_);generalize laidN we gt 32 A3 es3.length c3 lr3.2 B3 lr3.2.b.length d3 T3 lr3.2.ns.length t3=w5 at *;have HT5:=jH hP.1;generalize we.heap.size=ga5 at *;clear HA3 HA4 HBT;have HA5:=jH hP.2;have HA3:=HK3;clear HK3;have HA4:=HK4;clear HK4;clear hP hY hZ hu ku b0 b1 CD hb3 t0 t1 q0 q1 hgt3 hL3 hO3 hB3 hX3 hK3 hA3 k3 hb1 ho1 hn1 hg1 HT4
 obtain⟨A1,c1,es1,hb1,ho1,hl1,hn1,hg1⟩:=HT5.out;obtain⟨b0,b1⟩:=hb1.p2
 have CD:Hid (Calls Tryz.prog 16 #[.agg #[.int .i64 32,.slice A1 es1.length c1],.agg #[.int .u8 9,.string ⟨#[47,97]⟩,.string ⟨#[]⟩,.int .i64 0,.int .i64 9,.slice none 0 0]] w5 (DoP w5 32 w5.heap.size none lr4.1.l lr4.2)):=by
  have:=mDo_any 32 A1 es1.length c1 es1 9 ⟨#[47,97]⟩ ⟨#[]⟩ 0 9 none 0 0 [] w5 ho1.in_ rfl (by rw[hl1,lr_ec];exact lr_t3) (by decide) (by decide) (Bts.nil _ _) (by decide)
  rw[hl1,lr_ec] at this;exact this
 clear hl1
 go_upto_region 6 with (go_at_call 16;refine CD.out.mono ?_;rintro e we ⟨A3,c3,es3,B3,d3,T3,t3,rfl,hL3,hO3,hB3,hX3,hK3,hA3⟩;have k3:New w5 we:=hK3.mono (fun _ _ ⟨a,e,_⟩=>by cases e))
 have hu:w.heap.size≤w5.heap.size:=hn1.size;have hP:=lt_two (w0:=w) (p:=32) (n:=es3.length) (c:=c3) (a:=lr4.2) (m:=lr4.2.b.length) (q:=lr4.2.ns.length) (t':=t3) hO3 hu rfl hL3 hB3 hu rfl hX3 hA3 rfl (hn1.new k3);have hQ:Hid (∃w6 gd,((we.alloc (.cells #[.int .i64 32,.slice A3 es3.length c3] 25)).alloc (.cells #[.int .i64 lr4.2.e,.int .i64 lr4.2.i,.int .i64 lr4.2.n,.int .u8 lr4.2.k,.int .i64 lr4.2.l,.int .i64 lr4.2.s,.slice B3 lr4.2.b.length d3,.slice T3 lr4.2.ns.length t3] 41))=w6∧we.heap.size+1=gd∧New w5 w6∧LA w w6 gd lr4.2):=⟨_,_,rfl,rfl,k3.new ((kR.alloc _).alloc _),hP.2⟩;clear hP;obtain⟨w6,ga6,hZ,hY,k4,hA⟩:=hQ.out
 rw[hZ,hY];clear hZ hY hQ hL3 hO3 hB3 hX3 hK3 hA3 k3 hu b0 b1 CD;have HA6:=jH hA;have HT6:=jH (HT5.out.new k4);have HK3:=jH (HA3.out.new k4);clear HA3;have HA3:=HK3;clear HK3;have HK4:=jH (HA4.out.new k4);clear HA4;have HA4:=HK4;clear HK4;have HK5:=jH (HA5.out.new k4);clear HA5;have HA5:=HK5;clear HK5;clear hA k4 HT5 hb1 ho1 hn1 hg1;obtain⟨_,_,_,_,h3,_⟩:=HA3.out;obtain⟨_,_,_,_,h4,_⟩:=HA4.out;obtain⟨_,_,_,_,h5,_⟩:=HA5.out;obtain⟨B6,d6,T6,t6,h6,o6,_⟩:=HA6.out;obtain⟨A1,c1,es1,hb1,ho1,hl1,hn1,hg1⟩:=HT6.out;have x3:=h3.q1;have x4:=h4.q0;have x5:=h5.q2;have x6:=h6.q6;obtain⟨x7,x8⟩:=hb1.p2;rw[lr_a] at x3
 rw[lr_b] at x4;rw[lr_c] at x5;rw[lr_d] at x6 o6;have ka:New w6 (w6.alloc (.cells #[.int .u8 0,.int .u8 120] 5)):=kR.alloc _;have KA:=jH ka;have CS:=jH (same_eq B6 (some ⟨w6.heap.size,0,none⟩) 2 d6 2 [0,120] (w6.alloc (.cells #[.int .u8 0,.int .u8 120] 5)) ((o6.bts).new ka) (Bts.lit w6 5 (0,0) [0,120] (by decide) _ rfl) (by decide))
 have CR:Hid (∀u,New w6 u→Calls Tryz.prog 21 #[.agg #[.int .i64 32,.slice A1 es1.length c1]] u (zbt u true)):=fun u hu=>mright_yes 32 A1 es1.length c1 es1 u (ho1.in_.new hu) rfl (by rw[hl1,lr_ec];exact lr_t3)
 have HB:=jH hb1;have N1:=jH hn1;clear h3 h4 h5 h6 o6 hb1 ho1 hl1 hn1 hg1 HA3 HA4 HA5 HA6 HT6 ka;go_wp2_with fail;refine CS.out.mono ?_;rintro e w7 ⟨q7,rfl,rfl⟩;have K7:Hid (New w6 ((w6.alloc (.cells #[.int .u8 0,.int .u8 120] 5)).drewN q7)):=KA.out.drewN q7;have hgt6:gt < w6.heap.size:=HB.out.lt;go_wp2_with fail;refine (CR.out _ K7.out).mono ?_;rintro e w8 ⟨rfl,hk8⟩;have K8:Hid (New w w8):=(N1.out.new K7.out).new hk8;clear hk8;go_wp2_with fail
 try simp only[Exit.then]
 refine bodyPost_ret (by simp[results,Tryz.results13,go_sem];try rfl) rfl ?_;exact⟨rfl,K8.out⟩
end
end Go.Proofs.YtjjamoemheljdaaGreat
