/-
  Layer 7: contracts (Yt Zj Yx Zk).
-/
import Derived.Test.YtjjamoemheljdaaGreatC28
import Derived.Test.YtjjamoemheljdaaGreatC18
import Derived.Maps.OwnSet
namespace Go.Proofs.YtjjamoemheljdaaGreat
set_option maxRecDepth 100000
set_option maxHeartbeats 8000000
set_option linter.unusedSimpArgs false
set_option linter.unusedVariables false
section
open Go.RowKit
theorem hgtN_app (f:Nat→Nat) (a b:List (ByteArray×Nat)):hgtN f (a++b)=max (hgtN f a) (hgtN f b):=by
 induction a with
 | nil=>simp[hgtN]
 | cons x r ih=>rw[List.cons_append,hgtN,hgtN,ih,Nat.max_assoc]
theorem hgt_le (L:List ND):∀(f j:Nat),hgt L f j≤f
 | 0,_=>Nat.le_refl _
 | f+1,j=>by
  unfold hgt
  split
  ·omega
  ·rename_i n _
   have:∀ns:List (ByteArray×Nat),hgtN (hgt L f) ns≤f+1:=fun ns=>by
    induction ns with
    | nil=>simp[hgtN]
    | cons e r ih=>unfold hgtN;have:=hgt_le L f e.2;omega
   exact this _
theorem tell_any (i x v gl:Nat) (w:World) (h:Blk w gl 3 [.int .i64 v]) (_hv:v≤1000) (_hx:x≤1000):
  Calls Tryz.prog 104 #[.int .i64 i,.int .i64 x,.pointer (some ⟨gl,0,none⟩)] w (fun e w'=>e=.returned (.tuple #[])∧Blk w' gl 3 [.int .i64 (Nat.max v x:Nat)]∧Kept (·=gl) w w'):=by
 have y0:=h.q0;have f0:=h.free 0
 have hm:max ((v:Nat):Int) ((x:Nat):Int)=((Nat.max v x:Nat):Int):=by show _=((max v x:Nat):Int);omega
 have B9:Hid (Blk (w.setCell ⟨gl,0,none⟩ (.int .i64 (Nat.max v x:Nat))) gl 3 [.int .i64 (Nat.max v x:Nat)]):=h.put 0 _;have K9:Hid (Kept (·=gl) w (w.setCell ⟨gl,0,none⟩ (.int .i64 (Nat.max v x:Nat)))):=Kept.set1 _ _ _ _;generalize Nat.max v x=m at *;clear h;go_enter Tryz.func104,Tryz.ntmps104;go_wp2
 go_end0
 exact⟨rfl,B9.out,K9.out⟩
theorem walk_any (w0:World) (gt p gl:Nat) (L:List ND) (d:Nat→Nat) (hR:Rt ⟨p,L⟩) (hd:Deep L d) (hgl:w0.heap.size≤gl) (f:Nat):∀(j dep v:Nat) (y:ND) (w:World),PT w0 w gt p L→ndI L j=some y→(y.ns≠[]→7≤f+d y.i)→dep≤v→dep+f≤100→v≤100 →
  Blk w gl 3 [.int .i64 v] →
  Calls Tryz.prog 73 #[.pointer (some ⟨gt,0,none⟩),.int .i64 j,.int .i64 dep,.func (.func 104) #[] #[.pointer (some ⟨gl,0,none⟩)]] w
   (fun e w'=>e=.returned (.tuple #[])∧Blk w' gl 3 [.int .i64 (Nat.max v (dep+hgt L f j):Nat)]∧Kept (·=gl) w w'):=by
 induction f using Nat.strongRecOn with
 | ind f ih=>
 intro j dep v y w h hy hf hdv hdf hv hb;have hlen:L.length≤1000:=Nat.le_trans (show L.length≤48 from hR.len) (by omega);have hym:=(zaa hy).1;obtain⟨ga,pj,x,_,hCN,hZC⟩:=node_on h hR.ord hlen hy;have CN:=jH hCN;have ZC:=jH hZC;have HP:=jH h;have HBL:=jH hb;have XL:Hid (y.ns.length≤288):=hR.ns_le hym
 obtain⟨V,hV⟩:∃V:Nat→Nat,V=fun k=>Nat.max v (dep+hgtN (hgt L (f - 1)) (y.ns.take k)):=⟨_,rfl⟩
 have HV0:Hid (V 0=v):=by rw[hV];show max v (dep+0)=v;omega
 have hHV:∀k,dep+hgtN (hgt L (f - 1)) (y.ns.take k)≤100:=fun k=>by
  have:hgtN (hgt L (f - 1)) (y.ns.take k)≤f:=by
   by_cases hns:y.ns.take k=[]
   ·rw[hns];exact Nat.zero_le _
   ·have hne:y.ns≠[]:=fun e=>hns (by rw[e,List.take_nil])
    have h7:=hf hne;obtain⟨e,he⟩:∃e,e∈y.ns:=List.exists_mem_of_ne_nil _ hne
    have:=(hd.2 y hym e he).1
    have hall:∀ns:List (ByteArray×Nat),hgtN (hgt L (f - 1)) ns≤f:=fun ns=>by
     induction ns with
     | nil=>simp[hgtN]
     | cons e r ih=>unfold hgtN;have:=hgt_le L (f - 1) e.2;omega
    exact hall _
  omega
 have HVL:Hid (∀k,V k≤100):=fun k=>by rw[hV];show max v _≤100;have:=hHV k;omega
 have HVE:Hid (V y.ns.length=Nat.max v (dep+hgt L f j)):=by
  rw[hV,Hid]
  show Nat.max v (dep+hgtN (hgt L (f - 1)) (y.ns.take y.ns.length))=_
  rw[List.take_length]
  cases f with
  | zero=>
   have:y.ns=[]:=Classical.byContradiction fun e=>by
    have h7:=hf e;obtain⟨z,hz⟩:∃z,z∈y.ns:=List.exists_mem_of_ne_nil _ e
    have:=(hd.2 y hym z hz).1
    omega
   rw[this]
   rfl
  | succ f=>
   show Nat.max v (dep+hgtN (hgt L f) y.ns)=Nat.max v (dep+hgt L (f+1) j)
   rw[hgt,hy]
 have HNX:Hid (∀(k:Nat) (e:ByteArray×Nat),y.ns[k]?=some e→V (k+1)=Nat.max (Nat.max (V k) (dep+1)) (dep+1+hgt L (f - 1) e.2)):=fun k e he=>by
  rw[hV]
  show Nat.max v (dep+hgtN (hgt L (f - 1)) (y.ns.take (k+1)))=Nat.max (Nat.max (Nat.max v (dep+hgtN (hgt L (f - 1)) (y.ns.take k))) (dep+1)) (dep+1+hgt L (f - 1) e.2)
  rw[List.take_add_one,he,Option.toList_some,hgtN_app,show hgtN (hgt L (f - 1)) [e]=max (1+hgt L (f - 1) e.2) 0 from rfl]
  show max _ _=max (max (max _ _) _) _
  omega
 have HSU:Hid (∀(k:Nat) (e:ByteArray×Nat) (u:World),y.ns[k]?=some e→New w0 u→PT w0 u gt p L→Blk u gl 3 [.int .i64 (Nat.max (V k) (dep+1):Nat)] →
   Calls Tryz.prog 73 #[.pointer (some ⟨gt,0,none⟩),.int .i64 e.2,.int .i64 (((dep:Nat):Int)+1),.func (.func 104) #[] #[.pointer (some ⟨gl,0,none⟩)]] u
    (fun e' w'=>e'=.returned (.tuple #[])∧Blk w' gl 3 [.int .i64 (V (k+1):Nat)]∧Kept (·=gl) u w')):=fun k e u he hu hpt hbl=>by
  have hem:=List.mem_of_getElem? he
  have hne:y.ns≠[]:=fun e2=>by rw[e2] at he;cases he
  have h7:=hf hne;have h6:=hd.2 y hym e hem;obtain⟨c,hc⟩:=ndI_of (hR.ent y hym e hem);have hci:=(zaa hc).2
  have:=ih (f - 1) (by omega) e.2 (dep+1) (Nat.max (V k) (dep+1)) c u hpt hc (fun hcn=>by
   have hck:c.k=1:=Classical.byContradiction fun hk=>hcn (zbd (hR.fin c (zaa hc).1) hk).2.2.2.1
   have:=h6.2 c (zaa hc).1 hci hck
   rw[hci,this]
   omega) (Nat.le_max_right _ _) (by omega) (by have:=HVL.out k;show max _ _≤100;omega) hbl
  rw[HNX.out k e he];exact this
 have XN:Hid (∀u,New w u→NmIn u x.A y.ns):=fun u hu=>(hZC u hu).2.2.2.2.2.1
 have HKP:Hid (∀u,Kept (·=gl) w u→PT w0 u gt p L∧New w0 u∧(∀A,x.A=some A→¬A.block=gl)):=fun u hu=>by
  refine⟨h.far hu hb.at_ (by decide) (by decide) (by decide) (by decide) hgl,?_,?_⟩
  ·obtain⟨_,_,_,_,_,_,_,h5,_⟩:=h
   exact h5.trans hu fun i hi e=>by subst e;exact absurd hi (Nat.not_lt.2 hgl)
  ·intro A hA;exact ((hZC w kR).2.2.2.2.2.2.2 A hA).ne_of hb.at_ (by decide)
 have HDE:Hid (dep≤100):=by show _≤_;omega
 have HHG:Hid (gl < w.heap.size):=hb.lt;clear h hy hf hdv hdf hv hb ih hlen hym hV hHV hCN hZC;generalize hn:y.ns.length=n at *;have LN:=jH hn;have hn288:=XL.out;clear hn;generalize Nat.max v (dep+hgt L f j)=VR at *;go_enter Tryz.func73,Tryz.ntmps73
 go_wp2_with (go_at_call 72;refine (CN.out w kR).mono ?_;rintro e w2 ⟨rfl,hK2⟩;have N2:=jH hK2;have z3:=(ZC.out w2 hK2).2.2.2.1;clear hK2)
 clear z3
 go_loopw [17] (fun i wr=>∃k:Nat,k≤n∧i=.int .i64 k∧Hid (Kept (·=gl) w wr)∧Hid (Blk wr gl 3 [.int .i64 (V k:Nat)])) (fun i _=>n - (intOf i).toNat)
 case atStart=>exact⟨0,Nat.zero_le _,rfl,N2.out.mono (fun _ _ f=>f.elim),by rw[HV0.out];exact HBL.out.kept N2.out id⟩
 case round=>
  obtain⟨k,hk,rfl,VK,VB⟩:=hrel
  by_cases hlt:k < n
  ·have HLT:=jH hlt
   have XW:Hid (NmIn wr x.A y.ns):=(XN.out w kR).kept VK.out fun a ha=>(HKP.out wr VK.out).2.2 a ha
   obtain⟨g2,o2,e,eA2,he⟩:=NmIn.pos XW.out (i:=k) (by rw[LN.out];exact hlt);obtain⟨x0,x1⟩:=NmIn.get (g:=g2) (o:=o2) (by rw[←eA2];exact XW.out) he;have SU:=jH (fun u hu h3 h4=>HSU.out k e u he hu h3 h4);rw[eA2];clear he eA2 XW;obtain⟨es_,ei⟩:=e;simp only at x0 x1;obtain⟨w3,hw3⟩:∃w3,w3=wr.alloc (.cells #[.string es_,.int .i64 ei] 65):=⟨_,rfl⟩
   have K3:Hid (Kept (·=gl) w w3):=by rw[hw3];exact VK.out.alloc _
   have B3:Hid (Blk w3 gl 3 [.int .i64 (V k:Nat)]):=by rw[hw3];exact VB.out.alloc _
   have BN:Hid (Blk w3 wr.heap.size 65 [.string es_,.int .i64 ei]):=by rw[hw3];exact Blk.made wr _ _
   have HNG:Hid (¬wr.heap.size=gl):=BN.out.at_.ne_of B3.out.at_ (by decide);have HW3:=jH hw3;have CT:=jH (tell_any ei (dep+1) (V k) gl w3 B3.out (by have:=HVL.out k;omega) (by have:=HDE.out;omega));have y1:=BN.out.q1
   have wd:IntKind.i64.wrap (((dep:Nat):Int)+1)=((dep:Nat):Int)+1:=by have:=HDE.out;rw[IntKind.wrap_i64];omega
   clear hw3
   go_upto_region 3 with fail
   rw[←HW3.out];clear HW3 x0 x1;generalize wr.heap.size=gb at *;have CT:Hid (Calls Tryz.prog 104 #[.int .i64 ei,.int .i64 (((dep:Nat):Int)+1),.pointer (some ⟨gl,0,none⟩)] w3 (fun e w'=>e=.returned (.tuple #[])∧Blk w' gl 3 [.int .i64 (Nat.max (V k) (dep+1):Nat)]∧Kept (·=gl) w3 w')):=CT.out
   go_upto_region 4 with (go_at_call 104;refine CT.out.mono ?_;rintro e w5 ⟨rfl,hB5,hK5⟩;have B5:=jH hB5;have K5:Hid (Kept (·=gl) w w5):=K3.out.trans hK5 (fun _ _ e=>e);have y1:=(BN.out.kept hK5 HNG.out).q1;clear hB5 hK5)
   have SW:=jH (SU.out w5 (HKP.out w5 K5.out).2.1 (HKP.out w5 K5.out).1 B5.out);clear CT SU
   go_wp2_with (go_at_call 73;refine SW.out.mono ?_;rintro e w6 ⟨rfl,hB6,hK6⟩;have B6:=jH hB6;have K6:Hid (Kept (·=gl) w w6):=K5.out.trans hK6 (fun _ _ e=>e);clear hB6 hK6)
   go_roundw
   case rel=>exact⟨k+1,HLT.out,by go_num,K6,B6⟩
   case measure=>have:=HLT.out;simp[intOf];omega
  ·obtain rfl:k=n:=by omega
   go_wp2_with fail
   go_end0
   exact⟨rfl,by rw[←HVE.out];exact VB.out,VK.out⟩
theorem height_any (w0:World) (gt p j:Nat) (L:List ND) (y:ND) (w:World) (h:PT w0 w gt p L) (hR:Rt ⟨p,L⟩) (hy:ndI L j=some y):
  Calls Tryz.prog 91 #[.pointer (some ⟨gt,0,none⟩),.int .i64 j] w (MNew w ((hgt L 8 j:Nat):Int)):=by
 obtain⟨d,hd⟩:=hR.dep
 have h0:New w0 w:=by obtain⟨_,_,_,_,_,_,_,h5,_⟩:=h;exact h5
 obtain⟨w1,hw1⟩:∃w1,w1=w.alloc (.cells #[.int .i64 0] 3):=⟨_,rfl⟩
 have N1:Hid (New w w1):=by rw[hw1];exact kR.alloc _
 have BL:Hid (Blk w1 w.heap.size 3 [.int .i64 0]):=by rw[hw1];exact Blk.made w _ _
 have CW:Hid (Calls Tryz.prog 73 #[.pointer (some ⟨gt,0,none⟩),.int .i64 j,.int .i64 0,.func (.func 104) #[] #[.pointer (some ⟨w.heap.size,0,none⟩)]] w1
   (fun e w'=>e=.returned (.tuple #[])∧Blk w' w.heap.size 3 [.int .i64 (hgt L 8 j:Nat)]∧Kept (·=w.heap.size) w1 w')):=by
  have:=walk_any w0 gt p w.heap.size L d hR hd h0.size 8 j 0 0 y w1 (h.new N1.out) hy (fun _=>by omega) (Nat.le_refl _) (by omega) (by omega) BL.out
  rw[show Nat.max 0 (0+hgt L 8 j)=hgt L 8 j by show max 0 _=_;omega] at this;exact this
 have HW:=jH hw1;clear h hR hy hd h0 hw1;generalize hgt L 8 j=hv at *;go_enter Tryz.func91,Tryz.ntmps91
 go_upto_region 2 with fail
 rw[←HW.out];clear HW;have HGL:Hid (w.heap.size≤w.heap.size):=Nat.le_refl _;obtain⟨gl,hgl⟩:∃gl,gl=w.heap.size:=⟨_,rfl⟩;rw[←hgl] at CW BL ⊢
 have HGL:Hid (∀u,Kept (·=gl) w1 u→New w u):=fun u hu=>N1.out.trans hu fun i hi e=>by rw[hgl] at e;subst e;exact absurd hi (Nat.lt_irrefl _)
 clear hgl
 go_wp2_with (go_at_call 73;refine CW.out.mono ?_;rintro e w2 ⟨rfl,hB2,hK2⟩;have N2:=jH (HGL.out w2 hK2);have y0:=hB2.q0;clear hB2 hK2)
 go_ret;exact⟨rfl,N2.out⟩
end
section
open Go.RowKit Go.Maps
theorem own_tight {w:World} {b n m:Nat} {D:DataW Unit} (h:w.ownsMap Tryz.prog 3 (plainElem Tryz.prog 3) b n D) (hm:Maps.size D≤m):w.ownsMap Tryz.prog 3 (plainElem Tryz.prog 3) b m D:=by
 obtain⟨es,clock,hb,F,hs,rfl⟩:=h;refine⟨es,clock,hb,F,?_,rfl⟩;simpa [Maps.size,length_sorted] using hm
def MapS (w:World) (b:Nat) (L:List ND) (s:Nat→Bool):Prop:=∃D:DataW Unit,w.ownsMap Tryz.prog 3 (plainElem Tryz.prog 3) b 48 D∧Tidy D∧(∀j:Nat,has D (.int .i64 j)=s j)∧Maps.size D=(inos L).countP s
theorem own_block {w w':World} {b n:Nat} {D:DataW Unit} (h:w.ownsMap Tryz.prog 3 (plainElem Tryz.prog 3) b n D) (hk:w'.heap[b]?=w.heap[b]?):w'.ownsMap Tryz.prog 3 (plainElem Tryz.prog 3) b n D:=by
 obtain⟨es,clock,hb,r⟩:=h;exact⟨es,clock,hk.trans hb,r⟩
theorem MapS.kept {S:Nat→Prop} {w w':World} {b:Nat} {L:List ND} {s:Nat→Bool} (h:MapS w b L s) (hk:Kept S w w') (hn:¬S b):MapS w' b L s:=by
 obtain⟨D,h1,r⟩:=h;exact⟨D,own_block h1 (hk.block b h1.lt hn),r⟩
theorem MapS.ext {w:World} {b:Nat} {L:List ND} {s s':Nat→Bool} (h:MapS w b L s) (he:∀x,s x=s' x):MapS w b L s':=by
 rwa [show s'=s from funext fun x=>(he x).symm]
theorem MapS.ne {w:World} {b g:Nat} {L:List ND} {s:Nat→Bool} {t:TypeId} {cs:List Value} (h:MapS w b L s) (hb:Blk w g t cs):g≠b:=by
 obtain⟨D,⟨es,clock,h1,_⟩,_⟩:=h;rintro rfl;unfold Blk at hb;rw[hb] at h1;cases h1
theorem MapS.put {w1:World} {b j:Nat} {L:List ND} {s:Nat→Bool} {D:DataW Unit} (hs:∀j:Nat,has D (.int .i64 j)=s j) (ht:Tidy D) (hz:Maps.size D=(inos L).countP s) (hL:L.length≤48) (ho:OrdN L) (hj:j∈inos L) {d:DataW Unit}
  (hown:w1.ownsMap Tryz.prog 3 (plainElem Tryz.prog 3) b (48+1) (D.put (.int .i64 j) d)):MapS w1 b L (fun x=>j == x || s x):=by
 have hk:WideAt.IsKeyLit (.int .i64 j):=trivial
 have hsz:Maps.size (D.put (.int .i64 j) d)=(inos L).countP (fun x=>j == x || s x):=by
  rw[size_put ht,cnt_put (inos_nodup ho) hj,hs,hz]
 refine⟨_,own_tight hown ?_,ht.put hk _,fun x=>?_,hsz⟩
 ·rw[hsz];exact Nat.le_trans List.countP_le_length (by unfold inos;rw[List.length_map];exact hL)
 ·by_cases e:j=x
  ·subst e;rw[has_put_same ht.isMap hk];simp
  ·rw[has_put_other (fun e2=>e (by injection e2 with _ e2;omega)),hs];simp[e]
theorem tellR_any (i x v gm gl b:Nat) (L:List ND) (s:Nat→Bool) (w:World) (hM:MapS w b L s) (hi:i∈inos L) (hi6:i≤65535) (hL:L.length≤48) (ho:OrdN L) (hg:Blk w gm 101 [.map (some b)]) (h:Blk w gl 3 [.int .i64 v]) (_hv:v≤1000) (hx:x≤1000):
  Calls Tryz.prog 74 #[.int .i64 i,.int .i64 x,.pointer (some ⟨gm,0,none⟩),.pointer (some ⟨gl,0,none⟩)] w
   (fun e w'=>e=.returned (.tuple #[])∧MapS w' b L (fun y=>i == y || s y)∧Blk w' gl 3 [.int .i64 (Nat.max v x:Nat)]∧Kept (fun k=>k=gl∨k=b) w w'):=by
 have hnl:gl≠b:=hM.ne h;have hnm:gm≠b:=hM.ne hg;have m0:=hg.q0
 have hm:max ((v:Nat):Int) ((x:Nat):Int)=((Nat.max v x:Nat):Int):=by show _=((max v x:Nat):Int);omega
 obtain⟨D,h1,h2,h3,h4⟩:=hM
 have PUT:Hid (∀(w1:World) (d:DataW Unit),w1.ownsMap Tryz.prog 3 (plainElem Tryz.prog 3) b (48+1) (D.put (.int .i64 i) d)→MapS w1 b L (fun y=>i == y || s y)):=fun w1 d hh=>MapS.put h3 h2 h4 hL ho hi hh
 have HL:=jH h;have HG:=jH hg;have HNL:=jH hnl;generalize Nat.max v x=m at *;clear h2 h3 h4 hi hL ho hnm h hg hnl;go_enter Tryz.func74,Tryz.ntmps74
 go_upto_region 1 with (at_mapUpdate;refine wpList_mapUpdate_own _ rfl _ _ _ 101 rfl 3 3 lawI Tryz.underlying101 _ b _ D rfl h1 (by unfold maxLen;omega) _ _ _ rfl rfl (keyI hi6) _ [] (plainElem_int Tryz.underlying3 (wfI (by omega) (by omega))) ?_;intro w5 hown5 hgrow5)
 have K5:Hid (Kept (·=b) w w5):=⟨hgrow5.os,hgrow5.tape,hgrow5.output,hgrow5.size,fun q hq e=>hgrow5.block q hq (fun h=>e (Option.some.inj h))⟩;have M5:=jH (PUT.out _ _ hown5);have B5:=jH (HL.out.kept K5.out HNL.out);clear h1 hown5 hgrow5 m0;have y0:=B5.out.q0;have f0:=B5.out.free 0;have B9:Hid (Blk (w5.setCell ⟨gl,0,none⟩ (.int .i64 m)) gl 3 [.int .i64 m]):=B5.out.put 0 _;have M9:Hid (MapS (w5.setCell ⟨gl,0,none⟩ (.int .i64 m)) b L (fun y=>i == y || s y)):=M5.out.kept (Kept.set1 _ _ _ _) (fun e=>HNL.out e.symm);have K9:Hid (Kept (fun k=>k=gl∨k=b) w (w5.setCell ⟨gl,0,none⟩ (.int .i64 m))):=(K5.out.mono fun _ _ e=>.inr e).setCell (p:=⟨gl,0,none⟩) (fun _=>.inl rfl) _
 go_wp2
 go_end0
 exact⟨rfl,M9.out,B9.out,K9.out⟩
theorem walkR_any (gt p gl gm b g o c:Nat) (es:List NE) (w:World) (d:Nat→Nat) (hB:Blk w gt 25 [.int .i64 p,.slice (some ⟨g,o,none⟩) es.length c]) (hT:TIn w (some ⟨g,o,none⟩) es) (hR:Rt ⟨p,nds es⟩) (hd:Deep (nds es) d)
  (hgl:w.heap.size≤gl) (hgb:w.heap.size≤b) (hlm:gm≠gl) (f:Nat):∀(j dep v:Nat) (s:Nat→Bool) (y:ND) (u:World),New w u→ndI (nds es) j=some y→(y.ns≠[]→7≤f+d y.i)→dep≤v→dep+f≤100→v≤100 →
  MapS u b (nds es) s→Blk u gl 3 [.int .i64 v]→Blk u gm 101 [.map (some b)] →
  Calls Tryz.prog 73 #[.pointer (some ⟨gt,0,none⟩),.int .i64 j,.int .i64 dep,.func (.func 74) #[] #[.pointer (some ⟨gm,0,none⟩),.pointer (some ⟨gl,0,none⟩)]] u
   (fun e w'=>e=.returned (.tuple #[])∧MapS w' b (nds es) (fun x=>s x || rch (nds es) f j x)∧Blk w' gl 3 [.int .i64 ((Nat.max v (dep+hgt (nds es) f j):Nat):Int)]∧Kept (fun k=>k=gl∨k=b) u w'):=by
 have hlen:es.length≤48:=by have:=hR.len;rwa [show (TT.mk p (nds es)).l.length=es.length from zab es] at this
 have HR:=jH hR;have HB:=jH hB;have HT:=jH hT;have HDD:=jH hd;clear hB hT;obtain⟨L,hL⟩:∃L,L=nds es:=⟨_,rfl⟩;rw[←hL] at hR hd;have HLE:=jH hL;rw[show nds es=L from hL.symm];have hlenL:L.length≤48:=hR.len;clear hL
 induction f using Nat.strongRecOn with
 | ind f ih=>
 intro j dep v s y u hu hy hf hdv hdf hv hM hb hm;have hym:=(zaa hy).1;have HSS:=jH hM;have HBL:=jH hb;have HBM:=jH hm;have HU:=jH hu;have XL:Hid (y.ns.length≤288):=hR.ns_le hym
 have hyE:ndI (nds es) j=some y:=by rw[←HLE.out];exact hy
 obtain⟨x,hx,hxn,_⟩:=zbg hyE
 have CN:Hid (∀q,New w q→Calls Tryz.prog 72 #[.pointer (some ⟨gt,0,none⟩),.int .i64 j] q (fun e w'=>e=.returned (.pointer (some ⟨g,o+posI (nds es) j*5,none⟩))∧New q w')):=fun q hq=>
  zbq gt _ g o _ c es j y q (HB.out.kept hq id) (TIn.new HT.out hq) (zab es) HR.out.ord (by omega) hyE
 have Z3:Hid (∀q,New w q→q.cell? ⟨g,o+posI (nds es) j*5+3,none⟩=some (.slice x.A y.ns.length x.c)):=fun q hq=>by
  obtain⟨_,_,_,_,z3,_⟩:=(TIn.new HT.out hq).get hx;rwa [hxn] at z3
 have XN:Hid (NmIn w x.A y.ns):=by have:=(HT.out.get hx).1.1;rwa [hxn] at this
 obtain⟨V,hV⟩:∃V:Nat→Nat,V=fun k=>Nat.max v (dep+hgtN (hgt L (f - 1)) (y.ns.take k)):=⟨_,rfl⟩
 obtain⟨R,hRR⟩:∃R:Nat→Nat→Bool,R=fun k x=>s x || (y.ns.take k).any (fun e=>e.2 == x || rch L (f - 1) e.2 x):=⟨_,rfl⟩
 have HV0:Hid (V 0=v):=by rw[hV];show max v (dep+0)=v;omega
 have HR0:Hid (∀x,R 0 x=s x):=fun x=>by rw[hRR];simp
 have hHV:∀k,dep+hgtN (hgt L (f - 1)) (y.ns.take k)≤100:=fun k=>by
  have:hgtN (hgt L (f - 1)) (y.ns.take k)≤f:=by
   by_cases hns:y.ns.take k=[]
   ·rw[hns];exact Nat.zero_le _
   ·have hne:y.ns≠[]:=fun e=>hns (by rw[e,List.take_nil])
    have h7:=hf hne;obtain⟨e,he⟩:∃e,e∈y.ns:=List.exists_mem_of_ne_nil _ hne
    have:=(hd.2 y hym e he).1
    have hall:∀ns:List (ByteArray×Nat),hgtN (hgt L (f - 1)) ns≤f:=fun ns=>by
     induction ns with
     | nil=>simp[hgtN]
     | cons e r ih=>unfold hgtN;have:=hgt_le L (f - 1) e.2;omega
    exact hall _
  omega
 have HVL:Hid (∀k,V k≤100):=fun k=>by rw[hV];show max v _≤100;have:=hHV k;omega
 have hz:f=0→y.ns=[]:=fun f0=>Classical.byContradiction fun e=>by
  have h7:=hf e;obtain⟨z,hz⟩:∃z,z∈y.ns:=List.exists_mem_of_ne_nil _ e
  have:=(hd.2 y hym z hz).1
  omega
 have HVE:Hid (V y.ns.length=Nat.max v (dep+hgt L f j)):=by
  rw[hV,Hid]
  show Nat.max v (dep+hgtN (hgt L (f - 1)) (y.ns.take y.ns.length))=_
  rw[List.take_length]
  cases f with
  | zero=>rw[hz rfl];rfl
  | succ f=>
   show Nat.max v (dep+hgtN (hgt L f) y.ns)=Nat.max v (dep+hgt L (f+1) j)
   rw[hgt,hy]
 have HRE:Hid (∀x,R y.ns.length x=(s x || rch L f j x)):=fun x=>by
  rw[hRR]
  show (s x || (y.ns.take y.ns.length).any _)=_
  rw[List.take_length]
  cases f with
  | zero=>rw[hz rfl];rfl
  | succ f=>rw[rch_step hy];rfl
 have HNX:Hid (∀(k:Nat) (e:ByteArray×Nat),y.ns[k]?=some e→V (k+1)=Nat.max (Nat.max (V k) (dep+1)) (dep+1+hgt L (f - 1) e.2)∧∀x,R (k+1) x=((e.2 == x || R k x) || rch L (f - 1) e.2 x)):=fun k e he=>by
  rw[hV,hRR]
  constructor
  ·show Nat.max v (dep+hgtN (hgt L (f - 1)) (y.ns.take (k+1)))=Nat.max (Nat.max (Nat.max v (dep+hgtN (hgt L (f - 1)) (y.ns.take k))) (dep+1)) (dep+1+hgt L (f - 1) e.2)
   rw[List.take_add_one,he,Option.toList_some,hgtN_app,show hgtN (hgt L (f - 1)) [e]=max (1+hgt L (f - 1) e.2) 0 from rfl]
   show max _ _=max (max (max _ _) _) _
   omega
  ·intro x
   show (s x || (y.ns.take (k+1)).any _)=_
   rw[List.take_add_one,he,Option.toList_some,List.any_append];simp only[List.any_cons,List.any_nil,Bool.or_false];generalize s x=a;generalize (y.ns.take k).any _=b2;generalize (e.2 == x)=c2;generalize rch L (f - 1) e.2 x=d2
   cases a<;>cases b2<;>cases c2<;>cases d2<;>rfl
 have HSU:Hid (∀(k:Nat) (e:ByteArray×Nat) (q:World),y.ns[k]?=some e→New w q→MapS q b L (fun x=>e.2 == x || R k x)→Blk q gl 3 [.int .i64 (Nat.max (V k) (dep+1):Nat)]→Blk q gm 101 [.map (some b)] →
   Calls Tryz.prog 73 #[.pointer (some ⟨gt,0,none⟩),.int .i64 e.2,.int .i64 (((dep:Nat):Int)+1),.func (.func 74) #[] #[.pointer (some ⟨gm,0,none⟩),.pointer (some ⟨gl,0,none⟩)]] q
    (fun e' w'=>e'=.returned (.tuple #[])∧MapS w' b L (R (k+1))∧Blk w' gl 3 [.int .i64 (V (k+1):Nat)]∧Kept (fun k=>k=gl∨k=b) q w')):=fun k e q he hq hms hbl hbm=>by
  have hem:=List.mem_of_getElem? he
  have hne:y.ns≠[]:=fun e2=>by rw[e2] at he;cases he
  have h7:=hf hne;have h6:=hd.2 y hym e hem;obtain⟨c,hc⟩:=ndI_of (hR.ent y hym e hem);have hci:=(zaa hc).2
  have:=ih (f - 1) (by omega) e.2 (dep+1) (Nat.max (V k) (dep+1)) _ c q hq hc (fun hcn=>by
   have hck:c.k=1:=Classical.byContradiction fun hk=>hcn (zbd (hR.fin c (zaa hc).1) hk).2.2.2.1
   have:=h6.2 c (zaa hc).1 hci hck
   rw[hci,this]
   omega) (Nat.le_max_right _ _) (by omega) (by have:=HVL.out k;show max _ _≤100;omega) hms hbl hbm
  refine this.mono fun e' w' hh=>⟨hh.1,hh.2.1.ext fun x=>((HNX.out k e he).2 x).symm,?_,hh.2.2.2⟩
  rw[(HNX.out k e he).1];exact hh.2.2.1
 have HEN:Hid (∀e∈y.ns,e.2∈inos L∧e.2≤65535):=fun e he=>by
  have h1:=hR.ent y hym e he;obtain⟨z,hz,e2⟩:=List.mem_map.1 h1;exact⟨h1,by rw[←e2];exact (hR.rng z hz).2⟩
 have HOL:Hid (OrdN L):=hR.ord
 have HDE:Hid (dep≤100):=by show _≤_;omega
 have HGLB:Hid (∀q,Kept (fun k=>k=gl∨k=b) u q→New w q):=fun q hq=>hu.trans hq fun i hi e=>by rcases e with rfl|rfl<;>omega
 have HGM:Hid (¬(gm=gl∨gm=b)):=by
  rintro (e|e)
  ·exact hlm e
  ·exact hM.ne hm e
 clear hy hf hdv hdf hv hM hb hm ih hym hV hRR hHV hz hu hx hxn hyE hR hd;generalize hn:y.ns.length=n at *;have LN:=jH hn;have hn288:=XL.out;clear hn;generalize Nat.max v (dep+hgt L f j)=VR at *;go_enter Tryz.func73,Tryz.ntmps73
 go_wp2_with (go_at_call 72;refine (CN.out u HU.out).mono ?_;rintro e w2 ⟨rfl,hK2⟩;have N2:=jH hK2;have z3:=Z3.out w2 (HU.out.new hK2);clear hK2)
 clear z3
 go_loopw [17] (fun i wr=>∃k:Nat,k≤n∧i=.int .i64 k∧Hid (Kept (fun k=>k=gl∨k=b) u wr)∧Hid (Blk wr gl 3 [.int .i64 (V k:Nat)])∧Hid (MapS wr b L (R k))) (fun i _=>n - (intOf i).toNat)
 case atStart=>exact⟨0,Nat.zero_le _,rfl,N2.out.mono (fun _ _ f=>f.elim),by rw[HV0.out];exact HBL.out.kept N2.out id,(HSS.out.kept N2.out id).ext fun x=>(HR0.out x).symm⟩
 case round=>
  obtain⟨k,hk,rfl,VK,VB,VM⟩:=hrel
  by_cases hlt:k < n
  ·have HLT:=jH hlt;have XW:Hid (NmIn wr x.A y.ns):=RowV.new XN.out (HGLB.out wr VK.out);obtain⟨g2,o2,e,eA2,he⟩:=NmIn.pos XW.out (i:=k) (by rw[LN.out];exact hlt);obtain⟨x0,x1⟩:=NmIn.get (g:=g2) (o:=o2) (by rw[←eA2];exact XW.out) he;have SU:=jH (fun q hq h3 h4 h5=>HSU.out k e q he hq h3 h4 h5);have EN:=jH (HEN.out e (List.mem_of_getElem? he));rw[eA2];clear he eA2 XW;obtain⟨es_,ei⟩:=e;simp only at x0 x1;obtain⟨w3,hw3⟩:∃w3,w3=wr.alloc (.cells #[.string es_,.int .i64 ei] 65):=⟨_,rfl⟩
   have K3:Hid (Kept (fun k=>k=gl∨k=b) u w3):=by rw[hw3];exact VK.out.alloc _
   have B3:Hid (Blk w3 gl 3 [.int .i64 (V k:Nat)]):=by rw[hw3];exact VB.out.alloc _
   have M3:Hid (MapS w3 b L (R k)):=by rw[hw3];exact VM.out.kept ((Kept.refl (fun _=>False) _).alloc _) id
   have G3:Hid (Blk w3 gm 101 [.map (some b)]):=HBM.out.kept K3.out HGM.out
   have BN:Hid (Blk w3 wr.heap.size 65 [.string es_,.int .i64 ei]):=by rw[hw3];exact Blk.made wr _ _
   have HNG:Hid (¬(wr.heap.size=gl∨wr.heap.size=b)):=by
    rintro (e|e)
    ·exact BN.out.at_.ne_of B3.out.at_ (by decide) e
    ·exact M3.out.ne BN.out e
   have HW3:=jH hw3;have CT:=jH (tellR_any ei (dep+1) (V k) gm gl b L (R k) w3 M3.out EN.out.1 EN.out.2 hlenL HOL.out G3.out B3.out (by have:=HVL.out k;omega) (by have:=HDE.out;omega));have y1:=BN.out.q1
   have wd:IntKind.i64.wrap (((dep:Nat):Int)+1)=((dep:Nat):Int)+1:=by have:=HDE.out;rw[IntKind.wrap_i64];omega
   clear hw3
   go_upto_region 3 with fail
   rw[←HW3.out];clear HW3 x0 x1;generalize wr.heap.size=gb at *;have CT:Hid (Calls Tryz.prog 74 #[.int .i64 ei,.int .i64 (((dep:Nat):Int)+1),.pointer (some ⟨gm,0,none⟩),.pointer (some ⟨gl,0,none⟩)] w3 (fun e w'=>e=.returned (.tuple #[])∧MapS w' b L (fun y=>ei == y || R k y)∧Blk w' gl 3 [.int .i64 (Nat.max (V k) (dep+1):Nat)]∧Kept (fun k=>k=gl∨k=b) w3 w')):=CT.out
   go_upto_region 4 with (go_at_call 74;refine CT.out.mono ?_;rintro e w5 ⟨rfl,hM5,hB5,hK5⟩;have M5:=jH hM5;have B5:=jH hB5;have G5:=jH (G3.out.kept hK5 HGM.out);have K5:Hid (Kept (fun k=>k=gl∨k=b) u w5):=K3.out.trans hK5 (fun _ _ e=>e);have y1:=(BN.out.kept hK5 HNG.out).q1;clear hM5 hB5 hK5)
   have SW:=jH (SU.out w5 (HGLB.out w5 K5.out) M5.out B5.out G5.out);clear CT SU
   go_wp2_with (go_at_call 73;refine SW.out.mono ?_;rintro e w6 ⟨rfl,hM6,hB6,hK6⟩;have M6:=jH hM6;have B6:=jH hB6;have K6:Hid (Kept (fun k=>k=gl∨k=b) u w6):=K5.out.trans hK6 (fun _ _ e=>e);clear hM6 hB6 hK6)
   go_roundw
   case rel=>exact⟨k+1,HLT.out,by go_num,K6,B6,M6⟩
   case measure=>have:=HLT.out;simp[intOf];omega
  ·obtain rfl:k=n:=by omega
   go_wp2_with fail
   go_end0
   exact⟨rfl,VM.out.ext HRE.out,by rw[←HVE.out];exact VB.out,VK.out⟩
end
section
open Go.RowKit
theorem ispiece_any (p:Nat) (w:World):Calls Tryz.prog 29 #[.int .i64 p] w (fun e w'=>e=.returned (.bool (decide (1≤p∧p≤255)))∧New w w'):=by
 by_cases h1:1≤p
 ·have d1:decide ((1:Int)≤((p:Nat):Int))=true:=decide_eq_true (by omega);have d1':decide (((p:Nat):Int) < (1:Int))=false:=decide_eq_false (by omega)
  have e:decide (1≤p∧p≤255)=decide (((p:Nat):Int)≤255):=by
   by_cases h:p≤255
   ·rw[decide_eq_true (⟨h1,h⟩:1≤p∧p≤255),decide_eq_true (by omega)]
   ·rw[decide_eq_false (fun e=>h e.2),decide_eq_false (by omega)]
  rw[e];clear e h1;go_enter Tryz.func29,Tryz.ntmps29;go_wp2;go_ret;exact⟨rfl,kR⟩
 ·have d1:decide ((1:Int)≤((p:Nat):Int))=false:=decide_eq_false (by omega);have d1':decide (((p:Nat):Int) < (1:Int))=true:=decide_eq_true (by omega);rw[decide_eq_false (fun e:1≤p∧p≤255=>h1 e.1)];clear h1;go_enter Tryz.func29,Tryz.ntmps29;go_wp2;go_ret;exact⟨rfl,kR⟩
theorem hasto_any (kk:Nat) (w:World):Calls Tryz.prog 81 #[.int .u8 kk] w (fun e w'=>e=.returned (.bool (decide (kk∈[4,6])))∧New w w'):=by
 by_cases hk:kk∈[4,6]
 ·simp only[List.mem_cons,List.not_mem_nil,or_false] at hk
  rcases hk with rfl|rfl
  all_goals
   go_enter Tryz.func81,Tryz.ntmps81
   go_wp2_with (fail)
   first|(go_ret;exact⟨rfl,by first|exact kR|assumption⟩)|(go_ret2;exact⟨rfl,by first|exact kR|assumption⟩)
 ·have hd:decide (kk∈[4,6])=false:=decide_eq_false (fun h=>hk (by simp only[List.mem_cons,List.not_mem_nil,or_false] at h ⊢;omega));simp only[List.mem_cons,List.not_mem_nil,or_false,not_or] at hk;have n4:(((kk:Nat):Int) == 4)=false:=beq_eq_false_iff_ne.2 (by omega);have n6:(((kk:Nat):Int) == 6)=false:=beq_eq_false_iff_ne.2 (by omega);clear hk;rw[hd];clear hd;go_enter Tryz.func81,Tryz.ntmps81
  go_wp2_with (fail)
  first|(go_ret;exact⟨rfl,by first|exact kR|assumption⟩)|(go_ret2;exact⟨rfl,by first|exact kR|assumption⟩)
theorem changes_any (kk:Nat) (w:World):Calls Tryz.prog 22 #[.int .u8 kk] w (fun e w'=>e=.returned (.bool (decide (kk∈[1,2,3,4,5,6,7,8])))∧New w w'):=by
 by_cases hk:kk∈[1,2,3,4,5,6,7,8]
 ·simp only[List.mem_cons,List.not_mem_nil,or_false] at hk
  rcases hk with rfl|rfl|rfl|rfl|rfl|rfl|rfl|rfl
  all_goals
   go_enter Tryz.func22,Tryz.ntmps22
   go_wp2_with (fail)
   first|(go_ret;exact⟨rfl,by first|exact kR|assumption⟩)|(go_ret2;exact⟨rfl,by first|exact kR|assumption⟩)
 ·have hd:decide (kk∈[1,2,3,4,5,6,7,8])=false:=decide_eq_false (fun h=>hk (by simp only[List.mem_cons,List.not_mem_nil,or_false] at h ⊢;omega));simp only[List.mem_cons,List.not_mem_nil,or_false,not_or] at hk;have n1:(((kk:Nat):Int) == 1)=false:=beq_eq_false_iff_ne.2 (by omega);have n2:(((kk:Nat):Int) == 2)=false:=beq_eq_false_iff_ne.2 (by omega);have n3:(((kk:Nat):Int) == 3)=false:=beq_eq_false_iff_ne.2 (by omega);have n4:(((kk:Nat):Int) == 4)=false:=beq_eq_false_iff_ne.2 (by omega);have n5:(((kk:Nat):Int) == 5)=false:=beq_eq_false_iff_ne.2 (by omega);have n6:(((kk:Nat):Int) == 6)=false:=beq_eq_false_iff_ne.2 (by omega)
  have n7:(((kk:Nat):Int) == 7)=false:=beq_eq_false_iff_ne.2 (by omega);have n8:(((kk:Nat):Int) == 8)=false:=beq_eq_false_iff_ne.2 (by omega);clear hk;rw[hd];clear hd;go_enter Tryz.func22,Tryz.ntmps22
  go_wp2_with (fail)
  first|(go_ret;exact⟨rfl,by first|exact kR|assumption⟩)|(go_ret2;exact⟨rfl,by first|exact kR|assumption⟩)
theorem zbi (kk:Nat) (w:World):Calls Tryz.prog 52 #[.int .u8 kk] w (fun e w'=>e=.returned (.bool (decide (kk∈[1,2,3,4,5,6,7,8,9,10,11])))∧New w w'):=by
 by_cases hk:kk∈[1,2,3,4,5,6,7,8,9,10,11]
 ·simp only[List.mem_cons,List.not_mem_nil,or_false] at hk
  rcases hk with rfl|rfl|rfl|rfl|rfl|rfl|rfl|rfl|rfl|rfl|rfl
  all_goals
   go_enter Tryz.func52,Tryz.ntmps52
   go_wp2_with (go_at_call 22;refine (changes_any _ _).mono ?_;rintro e wq ⟨rfl,NQ⟩)
   first|(go_ret;exact⟨rfl,by first|exact kR|assumption⟩)|(go_ret2;exact⟨rfl,by first|exact kR|assumption⟩)
 ·have hd:decide (kk∈[1,2,3,4,5,6,7,8,9,10,11])=false:=decide_eq_false (fun h=>hk (by simp only[List.mem_cons,List.not_mem_nil,or_false] at h ⊢;omega));simp only[List.mem_cons,List.not_mem_nil,or_false,not_or] at hk;have n1:(((kk:Nat):Int) == 1)=false:=beq_eq_false_iff_ne.2 (by omega);have n2:(((kk:Nat):Int) == 2)=false:=beq_eq_false_iff_ne.2 (by omega);have n3:(((kk:Nat):Int) == 3)=false:=beq_eq_false_iff_ne.2 (by omega);have n4:(((kk:Nat):Int) == 4)=false:=beq_eq_false_iff_ne.2 (by omega);have n5:(((kk:Nat):Int) == 5)=false:=beq_eq_false_iff_ne.2 (by omega);have n6:(((kk:Nat):Int) == 6)=false:=beq_eq_false_iff_ne.2 (by omega)
  have n7:(((kk:Nat):Int) == 7)=false:=beq_eq_false_iff_ne.2 (by omega);have n8:(((kk:Nat):Int) == 8)=false:=beq_eq_false_iff_ne.2 (by omega);have n9:(((kk:Nat):Int) == 9)=false:=beq_eq_false_iff_ne.2 (by omega);have n10:(((kk:Nat):Int) == 10)=false:=beq_eq_false_iff_ne.2 (by omega);have n11:(((kk:Nat):Int) == 11)=false:=beq_eq_false_iff_ne.2 (by omega);have hd2:decide (kk∈[1,2,3,4,5,6,7,8])=false:=decide_eq_false (fun h=>by simp only[List.mem_cons,List.not_mem_nil,or_false] at h;omega);have CC:=jH (fun u=>changes_any kk u);rw[hd2] at CC;clear hd2 hk;rw[hd];clear hd;go_enter Tryz.func52,Tryz.ntmps52
  go_wp2_with (go_at_call 22;refine (CC.out _).mono ?_;rintro e wq ⟨rfl,NQ⟩)
  first|(go_ret;exact⟨rfl,by first|exact kR|assumption⟩)|(go_ret2;exact⟨rfl,by first|exact kR|assumption⟩)
end
section
open Go.RowKit Go.Maps
theorem wpList_insert_own {ops:Array Oper} {rest:List Oper} {o:Oper} {a:Act} {Q:Exit→Act→World→Prop} (w:World)
  (hg:o.guard=none) (m x v:Operand) (t:TypeId) (hop:o.op=Op.insert t m x v)
  (k e:TypeId) (K:Keyed Tryz.prog k) (ht:Tryz.prog.underlying t=some (.map k e)) (R:Value→Option (DataW Unit×List MemPlace)) (b n:Nat) (D:DataW Unit)
  (hm:a.eval m=.map (some b)) (hown:w.ownsMap Tryz.prog k R b n D) (hn:n < maxLen) (key val:Value) (kl:Lit) (hx:a.eval x=key) (hv:a.eval v=val) (hkey:keyOf Tryz.prog k key=some kl)
  (d:DataW Unit) (ps:List MemPlace) (hval:R val=some (d,ps))
  (hK:∀w',w'.ownsMap Tryz.prog k R b (n+1) (D.put kl d)→w.grownBy w' (some b)→wpList Tryz.prog ops Q rest (a.put o.dst undef) w'):
  wpList Tryz.prog ops Q (o::rest) a w:=by
 refine wpList_plain hg fun K' hK'=>?_
 obtain⟨w',hrun,r1,r2⟩:=hown.update K ht hn hkey hval;unfold Oper.wp;simp[execOp,hop,hm,hx,hv,hrun,Result.andThen];exact hK' _ _ (hK w' r1 r2)
theorem reached_yes (gt p:Nat) (A:Option Addr) (n c:Nat) (es:List NE) (w:World) (hB:Blk w gt 25 [.int .i64 p,.slice A n c]) (hT:TIn w A es) (hn:es.length=n) (hR:Rt ⟨p,nds es⟩):
  Calls Tryz.prog 45 #[.pointer (some ⟨gt,0,none⟩)] w (zbt w true):=by
 have hlen:n≤48:=by have:=hR.len;rw[show (TT.mk p (nds es)).l.length=es.length from zab es] at this;omega
 obtain⟨rt,hr1,hr2⟩:=hR.one;have hr1:ndI (nds es) 1=some rt:=hr1;obtain⟨x,hx,_,_⟩:=zbg hr1;obtain⟨g,o,_,eA,_⟩:=TIn.pos hT (List.getElem?_eq_some_iff.1 hx).1;subst eA hn;obtain⟨d,hd⟩:=hR.dep;have h1m:1∈inos (nds es):=List.mem_map.2 ⟨rt,(zaa hr1).1,(zaa hr1).2⟩
 have WK:Hid (∀(gl gm b:Nat) (u:World),w.heap.size≤gl→w.heap.size≤b→gm≠gl→New w u→MapS u b (nds es) (fun x=>1 == x)→Blk u gl 3 [.int .i64 0]→Blk u gm 101 [.map (some b)] →
   Calls Tryz.prog 73 #[.pointer (some ⟨gt,0,none⟩),.int .i64 1,.int .i64 0,.func (.func 74) #[] #[.pointer (some ⟨gm,0,none⟩),.pointer (some ⟨gl,0,none⟩)]] u
    (fun e w'=>e=.returned (.tuple #[])∧(∃D:DataW Unit,w'.ownsMap Tryz.prog 3 (plainElem Tryz.prog 3) b 48 D∧Maps.size D=es.length)∧(∃hh:Nat,hh≤6∧Blk w' gl 3 [.int .i64 (hh:Nat)])∧Kept (fun k=>k=gl∨k=b) u w')):=fun gl gm b u h1 h2 h3 hu hm hl hg=>by
  have:=walkR_any gt p gl gm b g o c es w d hB hT hR hd h1 h2 h3 8 1 0 0 _ rt u hu hr1 (fun _=>by omega) (Nat.le_refl _) (by omega) (by omega) hm hl hg
  refine this.mono fun e w' hh=>⟨hh.1,?_,⟨_,hgt_root hR,?_⟩,hh.2.2.2⟩
  ·obtain⟨D,d1,d2,d3,d4⟩:=hh.2.1;refine⟨D,d1,?_⟩;rw[d4]
   have hall:∀y∈inos (nds es),(1 == y || rch (nds es) 8 1 y)=true:=fun y hy=>by
    rcases rch_all hR hy with h|h
    ·rw[h];rfl
    ·have h:rch (nds es) 8 1 y=true:=h;rw[h,Bool.or_true]
   rw[List.countP_eq_length.2 hall];unfold inos;rw[List.length_map,zab]
  ·have e:Nat.max 0 (0+hgt (nds es) 8 1)=hgt (nds es) 8 1:=by show max 0 _=_;omega
   rw[e] at hh;exact hh.2.2.1
 have PUT:Hid (∀(w1:World),w1.ownsMap Tryz.prog 3 (plainElem Tryz.prog 3) w.heap.size (0+1) ((DataW.map []:DataW Unit).put (.int .i64 (1:Nat)) (.lit (.int .i64 0)))→MapS w1 w.heap.size (nds es) (fun x=>1 == x)):=fun w1 hh=>by
  have:=MapS.put (s:=fun _=>false) (fun _=>rfl) tidy_empty (by rw[List.countP_false];rfl) hR.len hR.ord h1m (hh.mono (by omega))
  exact this.ext fun x=>by simp
 have HB:=jH hB;have b1:=hB.q1;have hmm:=@run_makeMap Tryz.prog;have HMD:Hid ((w.alloc (.map #[] 0)).ownsMap Tryz.prog 3 (plainElem (H:=Unit) Tryz.prog 3) w.heap.size 0 (.map [])):=World.ownsMap_made _ _ _ _;have k0:keyOf Tryz.prog 3 (.int .i64 1)=some (.int .i64 (1:Nat)):=keyI (j:=1) (by omega);clear hB hT hR hd hr1 hr2 hx h1m;generalize es.length=n at *;go_enter Tryz.func45,Tryz.ntmps45
 go_upto_region 2 with (refine wpList_insert_own _ rfl _ _ _ 101 rfl 3 3 lawI Tryz.underlying101 _ w.heap.size 0 (.map []) rfl HMD.out (by unfold maxLen;omega) _ _ _ rfl rfl k0 _ [] (plainElem_int Tryz.underlying3 (wfI (by omega) (by omega))) ?_;intro wI hownI hgrowI)
 have kI:New w wI:=Kept.grown ((Kept.refl _ w).alloc (.map #[] 0)) hgrowI (fun k hk e=>by injection e with e;omega);have MI:=jH (PUT.out wI hownI);obtain⟨w3,hw3⟩:∃w3,w3=(wI.alloc (.cells #[.map (some w.heap.size)] 101)).alloc (.cells #[.int .i64 0] 3):=⟨_,rfl⟩
 have kw:New wI w3:=by rw[hw3];exact (kR.alloc _).alloc _
 have N3:=jH (kI.new kw);have M3:Hid (MapS w3 w.heap.size (nds es) (fun x=>1 == x)):=MI.out.kept kw id
 have G3:Hid (Blk w3 wI.heap.size 101 [.map (some w.heap.size)]):=by rw[hw3];exact (Blk.made wI _ _).alloc _
 have B3:Hid (Blk w3 (wI.heap.size+1) 3 [.int .i64 0]):=by
  have:=Blk.made (wI.alloc (.cells #[.map (some w.heap.size)] 101)) 3 #[.int .i64 0]
  rw[World.size_alloc] at this;rw[hw3];exact this
 have HWI:Hid (w.heap.size≤wI.heap.size+1):=Nat.le_succ_of_le kI.size;have HW3:=jH hw3;clear hw3 kw kI hownI hgrowI MI PUT HMD k0 hmm b1
 go_upto_region 3 with fail
 rw[←HW3.out];clear HW3;obtain⟨b,hb⟩:∃b,b=w.heap.size:=⟨_,rfl⟩
 have HBB:Hid (w.heap.size≤b):=by rw[Hid,hb];exact Nat.le_refl _
 rw[←hb] at M3 G3 ⊢;clear hb;have CW:=jH (WK.out (wI.heap.size+1) wI.heap.size b w3 HWI.out HBB.out (by omega) N3.out M3.out B3.out G3.out)
 have HGM:Hid (¬(wI.heap.size=wI.heap.size+1∨wI.heap.size=b)):=by
  rintro (e|e)
  ·omega
  ·exact M3.out.ne G3.out e
 clear WK M3;generalize hgl:wI.heap.size+1=gl at *
 have HNW:Hid (∀q,Kept (fun k=>k=gl∨k=b) w3 q→New w q):=fun q hq=>N3.out.trans hq fun i hi e=>by have h1:=HWI.out;have h2:=HBB.out;rcases e with rfl|rfl<;>omega
 clear hgl;generalize wI.heap.size=gm at *
 go_upto_region 4 with (go_at_call 73;refine CW.out.mono ?_;rintro e w4 ⟨rfl,⟨D,hD,hsz⟩,⟨hh,hh6,hBl⟩,hK⟩;have N4:=jH (HNW.out w4 hK);have m0:=(G3.out.kept hK HGM.out).q0;have y0:=hBl.q0;have b1:=(HB.out.kept N4.out id).q1;have LEN:∀(q:Nat) (ty:TypeId),(Builtin.len_ #[101] ty #[.map (some b)]).run Tryz.prog (w4.drewN q)=.ok (.int .i64 n) (w4.drewN q):=(fun q ty=>by have h:=(own_block (w':=w4.drewN q) hD rfl).len Tryz.underlying101 ty;rwa [hsz] at h);have d1:decide (((hh:Nat):Int)≤6)=true:=decide_eq_true (by omega);clear hK hBl hD hsz)
 have d2:decide (hh≤6)=true:=decide_eq_true hh6;go_quiet (fail);go_wp2;go_ret;exact⟨rfl,N4.out.drewN _⟩
theorem mright_yes (p:Nat) (A:Option Addr) (n c:Nat) (es:List NE) (w:World) (hT:TIn w A es) (hn:es.length=n) (hR:Rt ⟨p,nds es⟩):
  Calls Tryz.prog 21 #[.agg #[.int .i64 p,.slice A n c]] w (zbt w true):=by
 obtain⟨w1,hw1⟩:∃w1,w1=w.alloc (.cells #[.int .i64 p,.slice A n c] 25):=⟨_,rfl⟩
 have n1:New w w1:=by rw[hw1];exact kR.alloc _
 have BX:Blk w1 w.heap.size 25 [.int .i64 p,.slice A n c]:=by rw[hw1];exact Blk.made w _ _
 have N1:=jH n1;have HW:=jH hw1;have hp1:1≤p:=hR.p1;have hp2:p≤255:=hR.p2
 have CP:Hid (∀u,Calls Tryz.prog 29 #[.int .i64 p] u (fun e w'=>e=.returned (.bool true)∧New u w')):=fun u=>by
  have:=ispiece_any p u
  rwa [decide_eq_true ⟨hp1,hp2⟩] at this
 have CA:Hid (∀u,New w1 u→Calls Tryz.prog 43 #[.pointer (some ⟨w.heap.size,0,none⟩)] u (zbt u true)):=fun u hu=>nodes_yes w.heap.size p A n c es u (BX.kept hu id) (TIn.new hT (n1.new hu)) hn hR
 have CB:Hid (∀u,New w1 u→Calls Tryz.prog 44 #[.pointer (some ⟨w.heap.size,0,none⟩)] u (zbt u true)):=fun u hu=>entered_yes w.heap.size p A n c es u (BX.kept hu id) (TIn.new hT (n1.new hu)) hn hR
 have CC:Hid (∀u,New w1 u→Calls Tryz.prog 45 #[.pointer (some ⟨w.heap.size,0,none⟩)] u (zbt u true)):=fun u hu=>reached_yes w.heap.size p A n c es u (BX.kept hu id) (TIn.new hT (n1.new hu)) hn hR
 have a0:=BX.q0;clear hw1 n1 BX hT hn hR;go_enter Tryz.func21,Tryz.ntmps21
 go_upto_region 1 with fail
 rw[←HW.out];clear HW;generalize w.heap.size=gk at *
 go_wp2_with (first
  | (go_at_call 29;refine (CP.out _).mono ?_;rintro e w2 ⟨rfl,hK⟩;have K2:=jH hK;clear hK)
  | (go_at_call 43;refine (CA.out _ K2.out).mono ?_;rintro e w3 ⟨rfl,hK⟩;have K3:=jH (K2.out.new hK);clear hK)
  | (go_at_call 44;refine (CB.out _ K3.out).mono ?_;rintro e w4 ⟨rfl,hK⟩;have K4:=jH (K3.out.new hK);clear hK)
  | (go_at_call 45;refine (CC.out _ K4.out).mono ?_;rintro e w5 ⟨rfl,hK⟩;have K5:=jH (K4.out.new hK);clear hK))
 go_ret;exact⟨rfl,N1.out.new K5.out⟩
end
end Go.Proofs.YtjjamoemheljdaaGreat
