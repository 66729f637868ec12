/-
  Layer 7: contracts (Jh).
-/
import Derived.Test.YtbiihjdjbknibaaGreatC40
namespace Go.Proofs.YtbiihjdjbknibaaGreat
set_option maxRecDepth 100000
set_option maxHeartbeats 8000000
set_option linter.unusedSimpArgs false
set_option linter.unusedVariables false
section
set_option maxRecDepth 100000
open Go.RowKit
variable {Q:Nat→Prop}
def stR:Nat→List Nat→List Nat
 | 0,l=>l
 | k+1,l=>chR (stR k l)
def stC (k:Nat) (l:List Nat):List CT:=(List.range k).map fun j=>chC (stR j l)
def fsE:Nat→List Nat→Int
 | 0,_=>0
 | n+1,l=>if chE l≠0 then chE l else fsE n (chR l)
def csE (l:List Nat):Int:=if takeE l 1≠0 then takeE l 1 else if takeV l 1=0 then 5 else fsE (takeV l 1) (takeL l 1)
def geE (l:List Nat):Int:=if csE l≠0 then csE l else if 0 < (stR (takeV l 1) (takeL l 1)).length then 5 else 0
def geC (l:List Nat):List CT:=if geE l=0 then stC (takeV l 1) (takeL l 1) else []
theorem stC_next (k:Nat) (l:List Nat):stC (k+1) l=stC k l++[chC (stR k l)]:=by unfold stC;rw[List.range_succ,List.map_append];rfl
theorem stC_len (k:Nat) (l:List Nat):(stC k l).length=k:=by unfold stC;rw[List.length_map,List.length_range]
theorem stR_chR:∀(k:Nat) (l:List Nat),stR k (chR l)=stR (k+1) l
 | 0,_=>rfl
 | k+1,l=>by show chR (stR k (chR l))=chR (stR (k+1) l);rw[stR_chR k l]
theorem fs_step:∀(k n:Nat) (l:List Nat),(∀j,j < k→chE (stR j l)=0)→k≤n→fsE n l=fsE (n - k) (stR k l)
 | 0,n,l,_,_=>rfl
 | k+1,n,l,h,hk=>by
  obtain⟨m,rfl⟩:∃m,n=m+1:=⟨n - 1,by omega⟩;have h0:chE l=0:=h 0 (by omega)
  have:=fs_step k m (chR l) (fun j hj=>by rw[stR_chR];exact h (j+1) (by omega)) (by omega)
  rw[fsE,if_neg (by rw[h0];simp),this,stR_chR,show m+1 - (k+1)=m - k by omega]
theorem fs_no {k n:Nat} {l:List Nat} (h:∀j,j < k→chE (stR j l)=0) (hk:k < n) (he:chE (stR k l)≠0):fsE n l=chE (stR k l):=by
 rw[fs_step k n l h (by omega)];obtain⟨m,hm⟩:∃m,n - k=m+1:=⟨n - k - 1,by omega⟩;rw[hm,fsE,if_pos he]
theorem fs_yes {n:Nat} {l:List Nat} (h:∀j,j < n→chE (stR j l)=0):fsE n l=0:=by
 rw[fs_step n n l h (Nat.le_refl _),Nat.sub_self]
 rfl
theorem more_ok {k:Nat} {l:List Nat} (h:∀j,j < k→chE (stR j l)=0) (he:chE (stR k l)=0):∀j,j < k+1→chE (stR j l)=0:=fun j hj=>by
 rcases Nat.lt_or_ge j k with h1|h1
 ·exact h j h1
 ·obtain rfl:j=k:=by omega
  exact he
theorem rwR_in {l:List Nat} (h:∀x∈l,x < 256):∀x∈rwR l,x < 256:=by
 cases l with
 | nil=>simp[rwR]
 | cons n r=>
  show ∀x∈(if n≤r.length then r.drop n else []),x < 256
  split
  ·intro x hx;exact h x (List.mem_cons_of_mem _ (List.mem_of_mem_drop hx))
  ·intro x hx;cases hx
theorem tkR_in {l:List Nat} (h:∀x∈l,x < 256):∀x∈tkR l,x < 256:=by
 have e:tkR l=if takeE l 2≠0 then takeL l 2 else if takeE (takeL l 2) 1≠0 then takeL (takeL l 2) 1 else if takeV (takeL l 2) 1=2 then rwR (takeL (takeL l 2) 1) else if takeV (takeL l 2) 1=3 then takeL (takeL (takeL l 2) 1) 1 else takeL (takeL l 2) 1:=rfl;rw[e]
 split
 ·exact takeL_in h 2
 split
 ·exact takeL_in (takeL_in h 2) 1
 split
 ·exact rwR_in (takeL_in (takeL_in h 2) 1)
 split
 ·exact takeL_in (takeL_in (takeL_in h 2) 1) 1
 ·exact takeL_in (takeL_in h 2) 1
theorem chC_small {l:List Nat} (h:∀x∈l,x < 256):(chC l).v.length≤255∧(chC l).k.n.size≤255:=by
 have h1:=takeL_in h 1;refine⟨?_,?_⟩
 ·unfold chC
  dsimp only
  split
  ·simp
  ·refine rwL_len ?_;intro x hx;exact tkR_in h1 x hx
 ·unfold chC gkK
  dsimp only
  split
  ·exact tkK_name h1
  ·decide
theorem wpList_append_change {w:World} {ops:Array Oper} {rest:List Oper} {o:Oper} {a:Act} {Q:Exit→Act→World→Prop} (hgd:o.guard=none) (s x:Operand)
  (ho:o.op=.call { callee:=.builtin .append,args:=#[s,x],argTypes:=#[44,44] })
  (B:Nat) (A:Option Addr) (k ch:Nat) (vs:List Value) (hsv:a.eval s=.slice A k ch) (hown:OwnV w 105 6 B A k ch vs)
  (g c':Nat) (us:List Value) (hx:a.eval x=.slice (some ⟨g,0,none⟩) 1 c') (hb:Blk w g 105 us) (hul:us.length=6) (h1:∀u∈us,u.oneCell'=true) (hn:(k+1)*72≤140737488355328) (hbase:B≤w.heap.size)
  (h:∀A2 c2 w',Hid (OwnV w' 105 6 B A2 (k+1) c2 (vs++us))→Hid (Kept (InRow A) w w')→wpList Tryz.prog ops Q rest (a.put o.dst (.slice A2 (k+1) c2)) w'):
  wpList Tryz.prog ops Q (o::rest) a w:=by
 obtain⟨i0,hi,hz0,hz1,hz2⟩:=info_parts info_change
 have hr:RowV w (some ⟨g,0,none⟩) 1 i0.size us:=by
  rw[hz1];exact⟨by rw[hul],fun _=>⟨g,0,rfl,fun j v hj=>by rw[Nat.zero_add,hb.cell];exact hj⟩⟩
 have ho':OwnV w 105 i0.size B A k ch vs:=by rw[hz1];exact hown
 refine wpList_append_rowV w hgd s x 44 ho 105 i0 (.agg #[.int .i64 0,.int .u8 0,.string ⟨#[]⟩,.int .i64 0,.slice none 0 0,.bool false]) Tryz.underlying44 hi hz0 (by rw[hz1];rfl) (by rw[hz1];omega) B A k ch vs hsv ho' (some ⟨g,0,none⟩) 1 c' us hx hr h1 (by rw[hz2];omega) (by omega) hbase ?_;intro A2 c2 w' h3 h4 h5;refine h A2 c2 w' (by have:=h3.out;rw[hz1] at this;exact this) ?_
 refine (Kept.refl (InRow A) w).grown h4.out fun q _ hA=>?_
 obtain⟨a,ha,e⟩:=Option.map_eq_some_iff.1 hA;exact⟨a,ha,e⟩
theorem COwn.kept {S:Nat→Prop} {w w':World} {B c:Nat} {A:Option Addr} {es:List CE} (h:COwn w B A c es) (hk:Kept S w w') (h1:∀b,S b→¬At w b 105) (h2:∀b,S b→¬At w b 5):COwn w' B A c es:=
 ⟨h.1.kept hk fun a ha hS=>h1 _ hS (h.1.at_ a ha).1,fun e he=>⟨(h.2 e he).1.kept hk fun a ha hS=>h2 _ hS ((h.2 e he).1.at_ a ha).1,(h.2 e he).2⟩⟩
theorem chc_one (k:KY) (A:Option Addr) (n c:Nat) (b:Bool):∀u∈chc k A n c b,u.oneCell'=true:=by
 intro u hu;simp[chc] at hu
 rcases hu with rfl|rfl|rfl|rfl|rfl|rfl<;>rfl
def CsP (Q:Nat→Prop) (w:World) (g:Nat) (l:List Nat) (e:Ending) (w':World):Prop:=
 ∃A c es,e=.returned (.tuple #[.slice A es.length c,.int .i64 (csE l)])∧Kept (·=g) w w' ∧
  (csE l=0→cts es=stC (takeV l 1) (takeL l 1)∧COwn w' w.heap.size A c es∧Rdr Q w' g (stR (takeV l 1) (takeL l 1)))
theorem changes_any (g:Nat) (l:List Nat) (w:World) (h:Rdr Q w g l):
  Calls Tryz.prog 126 #[.agg #[.pointer (some ⟨g,0,none⟩)]] w (CsP Q w g l):=by
 have hg:=h.at_.lt;have hV:takeV l 1 < 256:=takeV_lt (s:=1) (by obtain⟨_,_,_,h2,_⟩:=h;exact h2.2.1) sz1;have HE:Hid (csE l=if takeE l 1≠0 then takeE l 1 else if takeV l 1=0 then 5 else fsE (takeV l 1) (takeL l 1)):=rfl
 have HT:Hid (∀u,Rdr Q u g l→Calls Tryz.prog 128 #[.pointer (some ⟨g,0,none⟩),.int .i64 1] u (TakeP Q u g l 1)):=fun u hu=>etake_any g l 1 u hu
 have FNO:Hid (∀(z:Int) (u:World),csE l=z→z≠0→Kept (·=g) w u→CsP Q w g l (.returned (.tuple #[.slice none 0 0,.int .i64 z])) u):=fun z u h1 h2 h3=>⟨none,0,[],by rw[h1];rfl,h3,fun h=>absurd (h1.symm.trans h) h2⟩
 have FYES:Hid (∀(A:Option Addr) (c n:Nat) (es:List CE) (u:World),csE l=0→es.length=n→cts es=stC (takeV l 1) (takeL l 1)→COwn u w.heap.size A c es→Rdr Q u g (stR (takeV l 1) (takeL l 1))→Kept (·=g) w u →
   CsP Q w g l (.returned (.tuple #[.slice A n c,.int .i64 0])) u):=fun A c n es u h1 h2 h3 h4 h5 h6=>⟨A,c,es,by rw[h1,h2],h6,fun _=>⟨h3,h4,h5⟩⟩
 obtain⟨w1,hw1⟩:∃w1,w1=w.alloc (.cells #[.pointer (some ⟨g,0,none⟩)] 198):=⟨_,rfl⟩
 have n1:New w w1:=by rw[hw1];exact kR.alloc _
 have BF1:Hid (Blk w1 w.heap.size 198 [.pointer (some ⟨g,0,none⟩)]):=by rw[hw1];exact Blk.made w _ _
 have R1:=jH (h.new n1);have K1:Hid (Kept (·=g) w w1):=(Kept.refl (·=g) w).new n1;have HW:=jH hw1;clear hw1 n1 h;generalize csE l=ce at *;go_enter Tryz.func126,Tryz.ntmps126;go_wp2_with fail;rw[←HW.out];clear HW;generalize hgr:w.heap.size=gr at *;have HGR:=jH hgr;clear hgr
 have hgn:gr≠g:=by omega
 have a0:=BF1.out.q0;refine (HT.out _ R1.out).mono ?_;rintro e w2 ⟨rfl,r2,k2⟩;have BF2:=jH (BF1.out.kept k2 hgn)
 have K2:Hid (Kept (·=g) w w2):=K1.out.trans k2 fun _ _ h=>h
 have R2:=jH r2;clear r2 k2 BF1 K1 R1 HT a0;generalize takeE l 1=te at *;generalize takeV l 1=n at *;generalize takeL l 1=l1 at *
 by_cases h1:te=0
 ·have HE2:=jH (HE.out.trans (if_neg (by omega)));subst h1;clear HE
  by_cases h2:n=0
  ·have F:=jH (FNO.out 5 w2 (HE2.out.trans (if_pos h2)) (by decide) K2.out);subst h2;clear FNO FYES HE2;go_wp2;go_ret2;exact F.out
  ·have HE3:=jH (HE2.out.trans (if_neg h2));have d0:((n:Int) == 0)=false:=beq_eq_false_iff_ne.2 (by omega);clear HE2;go_wp2_with fail
   go_loopw [6,21] (fun o i wr=>∃(k:Nat) (A':Option Addr) (c':Nat) (es':List CE),k≤n∧i=.int .u64 k∧o=.slice A' k c'∧Hid (es'.length=k)∧Hid (COwn wr gr A' c' es')∧Hid (cts es'=stC k l1)∧Hid (Rdr Q wr g (stR k l1))∧Hid (∀j,j < k→chE (stR j l1)=0)∧Hid (Kept (·=g) w wr)∧Hid (Blk wr gr 198 [.pointer (some ⟨g,0,none⟩)])) (fun _ i _=>n - (intOf i).toNat)
   case atStart=>exact⟨0,none,0,[],Nat.zero_le _,rfl,rfl,rfl,COwn.nil _ _,rfl,R2,(fun j hj=>by omega),K2,BF2⟩
   case round=>
    obtain⟨k,A',c',es',hk,rfl,rfl,HLN,VO,VC,VR,VE,VK,VB⟩:=hrel;clear BF2 K2 R2
    by_cases hlt:k < n
    ·have a0:=VB.out.q0;have HSM:=jH (chC_small (l:=stR k l1) (by obtain⟨_,_,_,h2,_⟩:=VR.out;exact h2.2.1));have hgx:=VR.out.at_;have HGX:=jH hgx;go_wp2_with fail;refine (change_any g _ _ VR.out).mono ?_;rintro e w3 ⟨kk,A3,n3,c3,b3,rfl,k3,h3⟩;have H3:=jH h3
     have K3:Hid (Kept (·=g) w w3):=VK.out.trans k3 fun _ _ h=>h
     have B3:=jH (VB.out.kept k3 hgn);have V3:Hid (COwn w3 gr A' c' es'):=VO.out.kept k3 (fun b e ht=>by subst e;exact ht.ne_of HGX.out (by decide) rfl) (fun b e ht=>by subst e;exact ht.ne_of HGX.out (by decide) rfl)
     have hsz:gr≤wr.heap.size:=by have:=VK.out.size;have:=HGR.out;omega
     obtain⟨w4,hw4⟩:∃w4,w4=w3.alloc (.cells #[.int .i64 kk.i,.int .u8 (kk.t:Nat),.string kk.n,.int .i64 kk.c,.slice A3 n3 c3,.bool b3] 105):=⟨_,rfl⟩
     have n4:New w3 w4:=by rw[hw4];exact kR.alloc _
     have BX4:Hid (Blk w4 w3.heap.size 105 (chc kk A3 n3 c3 b3)):=by rw[hw4];exact Blk.made w3 _ _
     have N4:=jH n4;have HW4:=jH hw4;clear h3 k3 n4 hw4 VO VB VR VK a0
     by_cases he:chE (stR k l1)=0
     ·obtain⟨e1,e2,e3,o3,r3⟩:=H3.out he;have VE2:=jH (more_ok VE.out he)
      have VC2:Hid (cts es'++[chC (stR k l1)]=stC (k+1) l1):=by rw[Hid,stC_next,VC.out]
      have R4:Hid (Rdr Q w4 g (stR (k+1) l1)):=r3.new N4.out;have O4:Hid (OwnB w4 5 gr A3 c3 (chC (stR k l1)).v):=(o3.mono hsz).new N4.out;have B4:=jH (B3.out.kept N4.out id);have V4:=jH (V3.out.new N4.out);have K4:Hid (Kept (·=g) w w4):=K3.out.new N4.out;have E1:=jH e1;have E2:=jH e2;have E3:=jH e3;rw[he];clear o3 r3 e1 e2 e3 H3 VE VC V3 K3 B3 he
      go_upto_region 10 with fail
      rw[←HW4.out];clear HW4;obtain⟨q0,q1,q2,q3,q4,q5⟩:=chc6 BX4.out;generalize hcc:chC (stR k l1)=cc at *;obtain⟨w5,hw5⟩:∃w5,w5=w4.alloc (.cells #[.int .i64 kk.i,.int .u8 (kk.t:Nat),.string kk.n,.int .i64 kk.c,.slice A3 n3 c3,.bool b3] 105):=⟨_,rfl⟩
      have n5:New w4 w5:=by rw[hw5];exact kR.alloc _
      have BY5:Hid (Blk w5 w4.heap.size 105 (chc kk A3 n3 c3 b3)):=by rw[hw5];exact Blk.made w4 _ _
      have R5:=jH (R4.out.new n5);have O5:=jH (O4.out.new n5);have B5:=jH (B4.out.kept n5 id);have V5:=jH (V4.out.new n5);have K5:Hid (Kept (·=g) w w5):=K4.out.new n5
      have W5:Hid (OwnV w5 105 6 gr A' k c' (ces es')):=by have:=V5.out.1;rwa [HLN.out] at this
      have HW5:=jH hw5
      have hsz5:gr≤w5.heap.size:=by have:=K5.out.size;have:=HGR.out;omega
      clear n5 hw5 R4 O4 B4 V4 K4
      go_wp2_with (at_builtin;rw[←HW5.out];refine wpList_append_change rfl _ _ rfl gr A' k c' (ces es') rfl W5.out w4.heap.size 1 (chc kk A3 n3 c3 b3) rfl BY5.out rfl (chc_one _ _ _ _ _) (by omega) hsz5 ?_)
      intro A6 c6 w6 O6 K6
      have P6:Hid (OwnB w6 5 gr A3 c3 cc.v):=O5.out.kept K6.out fun a ha ⟨b,hb,e⟩=>(O5.out.at_ a ha).1.ne_of (e ▸ (W5.out.at_ b hb).1) (by decide) rfl
      have V6:Hid (COwn w6 gr A6 c6 (es'++[⟨cc,A3,c3⟩])):=COwn.more V5.out P6.out ⟨by have:=HSM.out.1;omega,by have:=HSM.out.2;unfold maxLen;omega⟩ K6.out HLN.out (by have:=O6.out;rw[E1.out,E2.out,E3.out] at this;exact this)
      have R6:Hid (Rdr Q w6 g (stR (k+1) l1)):=R5.out.kept K6.out (fun ⟨b,hb,e⟩=>R5.out.at_.ne_of (e ▸ (W5.out.at_ b hb).1) (by decide) rfl) fun i ⟨b,hb,e⟩ _ ht=>ht.ne_of (e ▸ (W5.out.at_ b hb).1) (by decide) rfl
      have B6:=jH (B5.out.kept K6.out fun ⟨b,hb,e⟩=>B5.out.at_.ne_of (e ▸ (W5.out.at_ b hb).1) (by decide) rfl)
      have L6:Hid (Kept (·=g) w w6):=K5.out.trans K6.out fun i hi ⟨b,hb,e⟩=>by have:=(W5.out.at_ b hb).2;have:=HGR.out;omega
      have VC3:Hid (cts (es'++[⟨cc,A3,c3⟩])=stC (k+1) l1):=by rw[Hid,cts_append];exact VC2.out
      have HLN2:Hid ((es'++[(⟨cc,A3,c3⟩:CE)]).length=k+1):=by rw[Hid,List.length_append,HLN.out];rfl
      clear O6 K6 P6 V5 W5 R5 B5 K5 O5 BX4 BY5 q0 q1 q2 q3 q4 q5 HW5 HLN VC2 E1 E2 E3;go_wp2;go_roundw
      case rel=>exact⟨k+1,A6,c6,_,by omega,by go_num,rfl,HLN2,V6,VC3,R6,VE2,L6,B6⟩
      case measure=>simp[intOf];omega
     ·have F:=jH (FNO.out _ w4 (HE3.out.trans (fs_no VE.out hlt he)) he (K3.out.new N4.out));have b0:(chE (stR k l1) != 0)=true:=bne_iff_ne.2 he;clear FNO FYES HE3 H3 VE VC V3 B3 K3 he BX4;generalize chE (stR k l1)=z at *
      go_upto_region 10 with fail
      rw[←HW4.out];clear HW4;go_wp2;go_ret2;exact F.out
    ·have hkn:k=n:=by omega
     have hlen:=HLN.out;have F:=jH (FYES.out A' c' k es' wr (HE3.out.trans (fs_yes (by rw[←hkn];exact VE.out))) HLN.out (by rw[←hkn];exact VC.out) VO.out (by rw[←hkn];exact VR.out) VK.out);clear VO VC VR VE VK VB FNO FYES HE3;go_wp2;go_ret2;exact F.out
 ·have F:=jH (FNO.out te w2 (HE.out.trans (if_pos h1)) h1 K2.out);have b0:(te != 0)=true:=bne_iff_ne.2 h1;clear FNO FYES HE h1;go_wp2;go_ret2;exact F.out
def GetP11 (w:World) (l:List Nat) (e:Ending) (w':World):Prop:=
 ∃A c es,e=.returned (.tuple #[.slice A es.length c,.int .i64 (geE l)])∧cts es=geC l∧COwn w' w.heap.size A c es∧New w w'
theorem get_no {w u:World} {l:List Nat} {E:Int} (h:geE l=E) (h0:E≠0) (k:New w u):GetP11 w l (.returned (.tuple #[.slice none 0 0,.int .i64 E])) u:=
 ⟨none,0,[],by rw[h];rfl,by unfold geC;rw[h,if_neg h0];rfl,COwn.nil _ _,k⟩
theorem get_yes {w u:World} {l:List Nat} {A:Option Addr} {c n:Nat} {es:List CE} (h:geE l=0) (hn:es.length=n) (hc:cts es=stC (takeV l 1) (takeL l 1)) (ho:COwn u w.heap.size A c es) (k:New w u):GetP11 w l (.returned (.tuple #[.slice A n c,.int .i64 0])) u:=
 ⟨A,c,es,by rw[h,hn],by unfold geC;rw[if_pos h];exact hc,ho,k⟩
theorem COwn.mono {w:World} {B B' c:Nat} {A:Option Addr} {es:List CE} (h:COwn w B A c es) (hB:B'≤B):COwn w B' A c es:=
 ⟨h.1.mono hB,fun e he=>⟨(h.2 e he).1.mono hB,(h.2 e he).2⟩⟩
theorem recGet_any (A:Option Addr) (n c:Nat) (l:List Nat) (w:World) (ha:Bts w A n l) (hn:n≤140737488351232) (hA:A=none→c=0∧n=0):
  Calls Tryz.prog 101 #[.slice A n c] w (GetP11 w l):=by
 have HE:Hid (geE l=if csE l≠0 then csE l else if 0 < (stR (takeV l 1) (takeL l 1)).length then 5 else 0):=rfl
 have CN:=fun u hu=>jH (new_any A n c l u (ha.new hu) hn hA)
 have FNO:Hid (∀(E:Int) u,geE l=E→E≠0→New w u→GetP11 w l (.returned (.tuple #[.slice none 0 0,.int .i64 E])) u):=fun E u h h0 k=>get_no h h0 k
 have FYES:Hid (∀(A:Option Addr) (c:Nat) (es:List CE) u,geE l=0→cts es=stC (takeV l 1) (takeL l 1)→COwn u w.heap.size A c es→New w u→GetP11 w l (.returned (.tuple #[.slice A es.length c,.int .i64 0])) u):=fun A c es u h h1 h2 k=>get_yes h rfl h1 h2 k
 clear ha hA;generalize geE l=ge at *;go_enter Tryz.func101,Tryz.ntmps101;go_wp2_with fail;refine (CN _ kR).out.mono ?_;rintro e w1 ⟨g,rfl,r1,hg,k1⟩;have hlt1:=r1.at_.lt;obtain⟨w2,hw2⟩:∃w2,w2=w1.alloc (.cells #[.pointer (some ⟨g,0,none⟩)] 198):=⟨_,rfl⟩
 have n2:New w1 w2:=by rw[hw2];exact kR.alloc _
 have B2:Hid (Blk w2 w1.heap.size 198 [.pointer (some ⟨g,0,none⟩)]):=by rw[hw2];exact Blk.made w1 _ _
 have R2:=jH (r1.new n2);have K2:Hid (New w w2):=k1.new n2;have HG:=jH hg;have HW2:=jH hw2
 have hgn:w1.heap.size≠g:=by omega
 clear r1 k1 CN n2 hw2 hg;have a0:=B2.out.q0
 go_upto_region 2 with fail
 rw[←HW2.out];clear HW2;go_wp2_with fail;refine (changes_any g l _ R2.out).mono ?_;rintro e w3 ⟨A3,c3,es,rfl,k3,h3⟩;have B3:=jH (B2.out.kept k3 hgn);have hs2:w.heap.size≤w2.heap.size:=K2.out.size
 have K3:Hid (New w w3):=K2.out.trans k3 fun i hi e=>by have:=HG.out;omega
 have H3:Hid (csE l=0→cts es=stC (takeV l 1) (takeL l 1)∧COwn w3 w.heap.size A3 c3 es∧Rdr (fun b=>w.heap.size≤b) w3 g (stR (takeV l 1) (takeL l 1))):=fun h=>⟨(h3 h).1,(h3 h).2.1.mono hs2,(h3 h).2.2⟩
 clear h3 k3 B2 R2 K2 a0
 by_cases h1:csE l=0
 ·obtain⟨e1,e2,e3⟩:=H3.out h1;have HE2:=jH (HE.out.trans (if_neg (by rw[h1];simp)));have E1:=jH e1;have E2:=jH e2;have CL:=jH (eleft_any g _ _ e3);rw[h1];clear e1 e2 e3 H3 HE h1;have a0:=B3.out.q0;generalize (stR (takeV l 1) (takeL l 1)).length=m at *
  by_cases h2:0 < m
  ·have F:=jH (FNO.out 5 w3 (HE2.out.trans (if_pos h2)) (by decide) K3.out);clear FNO FYES HE2 E1 E2;generalize es.length=n at *
   go_wp2_with (go_at_call 127;refine CL.out.mono ?_;rintro e w4 ⟨rfl,rfl⟩)
   go_ret2;exact F.out
  ·have F:=jH (FYES.out A3 c3 es w3 (HE2.out.trans (if_neg h2)) E1.out E2.out K3.out)
   obtain rfl:m=0:=by omega
   clear FNO FYES HE2 E1 E2 h2;generalize es.length=n at *
   go_wp2_with (go_at_call 127;refine CL.out.mono ?_;rintro e w4 ⟨rfl,rfl⟩)
   go_ret2;exact F.out
 ·have F:=jH (FNO.out _ w3 (HE.out.trans (if_pos h1)) h1 K3.out);have b0:(csE l != 0)=true:=bne_iff_ne.2 h1;clear FNO FYES HE h1 H3;generalize csE l=z at *;generalize es.length=n at *;go_wp2;go_ret2;exact F.out
end
end Go.Proofs.YtbiihjdjbknibaaGreat
