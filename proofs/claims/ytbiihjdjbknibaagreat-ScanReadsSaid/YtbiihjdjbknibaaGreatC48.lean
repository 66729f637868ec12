/-
  Layer 7: contracts (Am An).
-/
import Derived.Test.YtbiihjdjbknibaaGreatC47
namespace Go.Proofs.YtbiihjdjbknibaaGreat
set_option maxRecDepth 100000
set_option maxHeartbeats 8000000
set_option linter.unusedSimpArgs false
set_option linter.unusedVariables false
section
open Go.ChangeShapes Go.WideShapes Go.ChangeAt Go.RowKit
def RPutHO (w:World) (n:Int) (k e s:Nat) (r:Ending) (w':World):Prop:=
 ∃A c,r=.returned (.tuple #[.slice A (phL n k e s).length c,.int .i64 (phE n k e s)])∧Hid (OwnB w' 5 w.heap.size A c (phL n k e s))∧Hid (New w w')
theorem rPutHead_own (n:Int) (k e s:Nat) (w:World) (hk:k < 256) (he:e < 4294967296) (hs:s < 18446744073709551616):
  Calls Tryz.prog 19 #[.int .i64 n,.agg #[.int .u8 (k:Nat),.int .u32 (e:Nat),.int .u64 (s:Nat)]] w (RPutHO w n k e s):=by
 obtain⟨i0,hi,hz0,hz1,hz2⟩:=info_parts info_u8
 by_cases hh:isHd k e s
 ·have E1:Hid (phL n k e s=sPutL n 1 (hdL k e s)):=by show _=_;unfold phL;rw[if_pos hh]
  have E2:Hid (phE n k e s=sPutE n 1 (hdL k e s)):=by show _=_;unfold phE;rw[if_pos hh]
  have HH:=jH (decide_eq_true hh)
  have FE:Hid (putL e (4:Int)=leB e 4):=by show _=_;unfold putL;rw[if_pos ⟨.inr (.inr (.inl rfl)),fit_e he⟩];try rfl
  have FS:Hid (putL s (8:Int)=leB s 8):=by show _=_;unfold putL;rw[if_pos ⟨.inr (.inr (.inr rfl)),fit_s hs⟩];try rfl
  have HD1:Hid (([k]++leB e 4)++leB s 8=hdL k e s):=by show _=_;unfold hdL;rw[leB1 k hk]
  have L4:Hid ((leB e 4).length=4):=leB_length _ _;have L8:Hid ((leB s 8).length=8):=leB_length _ _;clear hh;go_enter Tryz.func19,Tryz.ntmps19;go_wp2_with fail;have N1:Hid (New w (w.alloc (.cells #[.int .u8 (k:Nat),.int .u32 (e:Nat),.int .u64 (s:Nat)] 69))):=kR.alloc _;have P1:Hid (Blk (w.alloc (.cells #[.int .u8 (k:Nat),.int .u32 (e:Nat),.int .u64 (s:Nat)] 69)) w.heap.size 69 [.int .u8 (k:Nat),.int .u32 (e:Nat),.int .u64 (s:Nat)]):=Blk.made w _ _;refine (mayHead_any k e s _).mono ?_;rintro r w2 ⟨rfl,h1⟩;rw[HH.out];have N2:Hid (New w w2):=N1.out.new h1;have P2:=jH (P1.out.new h1);obtain⟨d0,d1⟩:=P2.out.p2
  have hl2:=P2.out.lt;clear h1 N1 P1;go_wp2_with fail;have N3:Hid (New w2 (w2.alloc (.cells #[.int .u8 (k:Nat)] 5))):=kR.alloc _
  have O3:Hid (OwnB (w2.alloc (.cells #[.int .u8 (k:Nat)] 5)) 5 w2.heap.size (some ⟨w2.heap.size,0,none⟩) 1 [k]):=
   OwnB.of_blk (l:=[k]) (sp:=[]) (Blk.made w2 5 #[.int .u8 (k:Nat)]) (Nat.le_refl _) (by intro x hx;simp at hx;omega) rfl (by unfold maxLen;omega)
  have LW3:Hid (w2.heap.size < (w2.alloc (.cells #[.int .u8 (k:Nat)] 5)).heap.size):=by show _ < _;simp
  generalize w2.alloc (.cells #[.int .u8 (k:Nat)] 5)=w3 at *;refine (rput_any e 4 _ (by omega)).mono ?_;rintro r w4 ⟨A4,c4,rfl,h1,h2⟩
  have O4:Hid (OwnB w4 5 w3.heap.size A4 c4 (leB e 4)):=by rw[←FE.out];exact h1
  have O3b:=jH (O3.out.new h2);have N4:Hid (New w2 w4):=N3.out.new h2;have LW4:Hid (w3.heap.size≤w4.heap.size):=h2.size;have P4:=jH (P2.out.new N4.out);have d2:=P4.out.q2;rw[FE.out,L4.out];clear h1 h2 d0 d1 hl2 O3;go_wp2_with fail;refine (rput_any s 8 _ hs).mono ?_;rintro r w5 ⟨A5,c5,rfl,h1,h2⟩
  have O5:Hid (OwnB w5 5 w4.heap.size A5 c5 (leB s 8)):=by rw[←FS.out];exact h1
  have O3c:=jH (O3b.out.new h2);have O4b:=jH (O4.out.new h2);have N5:Hid (New w2 w5):=N4.out.new h2;rw[FS.out,L8.out]
  have B4:Hid (Bts w5 A4 4 (leB e 4)):=by have:=O4b.out.bts;rw[L4.out] at this;exact this
  have B5:Hid (Bts w5 A5 8 (leB s 8)):=by have:=O5.out.bts;rw[L8.out] at this;exact this
  have LB:Hid ((1:Nat)=[k].length):=rfl
  have LM:Hid ([k].length+4≤140737488355328):=by show _≤_;simp
  have LZ:Hid (w2.heap.size≤w5.heap.size):=N5.out.size;clear h1 h2 d2 O3b O4 N4 P4
  go_wp2_with (at_builtin;refine wpList_append_bytes _ rfl _ _ _ rfl 5 i0 Tryz.underlying52 hi hz0 hz1 hz2 w2.heap.size (some ⟨w2.heap.size,0,none⟩) 1 1 [k] rfl O3c.out LB.out A4 4 c4 (leB e 4) rfl B4.out LM.out LZ.out ?_)
  intro A6 c6 w6 hown hgr _
  have O6:Hid (OwnB w6 5 w2.heap.size A6 c6 ([k]++leB e 4)):=by first|exact hown|exact hown.out
  have N6:Hid (New w2 w6):=Kept.of_own N5.out O3c.out (by first|exact hgr|exact hgr.out);have KG:Hid (Kept (·=w2.heap.size) w5 w6):=kR.grown (by first|exact hgr|exact hgr.out) (fun q _ e=>by simp at e;exact e.symm)
  have B6:Hid (Bts w6 A5 8 (leB s 8)):=B5.out.kept KG.out fun a ha hb=>by
   have h1:=(O5.out.at_ a ha).2;have h3:=LW3.out;have h4:=LW4.out;omega
  have LB6:Hid ((5:Nat)=([k]++leB e 4).length):=by show _=_;rw[List.length_append,L4.out];rfl
  have LM6:Hid (([k]++leB e 4).length+8≤140737488355328):=by rw[←LB6.out];show _≤_;omega
  have LZ6:Hid (w2.heap.size≤w6.heap.size):=N6.out.size;clear hown hgr O3c B4 B5 O5 O4b N5 LM LZ
  go_wp2_with (at_builtin;refine wpList_append_bytes _ rfl _ _ _ rfl 5 i0 Tryz.underlying52 hi hz0 hz1 hz2 w2.heap.size A6 5 c6 ([k]++leB e 4) rfl O6.out LB6.out A5 8 c5 (leB s 8) rfl B6.out LM6.out LZ6.out ?_)
  intro A7 c7 w7 hown hgr _
  have O7:Hid (OwnB w7 5 w2.heap.size A7 c7 (([k]++leB e 4)++leB s 8)):=by first|exact hown|exact hown.out
  have N7:Hid (New w2 w7):=Kept.of_own N6.out O6.out (by first|exact hgr|exact hgr.out);have N8:Hid (New w w7):=N2.out.new N7.out
  have B7:Hid (Bts w7 A7 13 (hdL k e s)):=by
   have:=O7.out.bts
   rw[HD1.out,hdL_length] at this;exact this
  clear hown hgr O6 B6 N6 LM6 LZ6 O7 N7;go_wp2_with fail;refine (rPut_any n 1 A7 13 c7 (hdL k e s) _ B7.out (by unfold maxLen;omega)).mono ?_;rintro r w9 ⟨A9,c9,rfl,h1,h3⟩;replace h1:=h1.mono N8.out.size;replace h3:=N8.out.new h3;have R:Hid (RPutHO w n k e s (.returned (.tuple #[.slice A9 (sPutL n 1 (hdL k e s)).length c9,.int .i64 (sPutE n 1 (hdL k e s))])) w9):=⟨A9,c9,by rw[E1.out,E2.out],by rw[E1.out];exact h1,h3⟩;clear h1 h3 B7;go_wp2;go_ret2;exact R.out
 ·have E1:Hid (phL n k e s=[]):=by show _=_;unfold phL;rw[if_neg hh]
  have E2:Hid (phE n k e s=2):=by show _=_;unfold phE;rw[if_neg hh]
  have HH:=jH (decide_eq_false hh);clear hh hk he hs;go_enter Tryz.func19,Tryz.ntmps19;go_wp2_with fail;have N1:Hid (New w (w.alloc (.cells #[.int .u8 (k:Nat),.int .u32 (e:Nat),.int .u64 (s:Nat)] 69))):=kR.alloc _;refine (mayHead_any k e s _).mono ?_;rintro r w2 ⟨rfl,h1⟩;rw[HH.out];have N2:Hid (New w w2):=N1.out.new h1;have R:Hid (RPutHO w n k e s (.returned (.tuple #[.slice none 0 0,.int .i64 2])) w2):=⟨none,0,by rw[E1.out,E2.out];rfl,by rw[E1.out];exact OwnB.nil _ _ _,N2⟩;clear h1;go_wp2;go_ret2;exact R.out
theorem tkC_none {s:CSt}:∀k,(∀i,i < k→(lookV s i).w≠1)→tkC s k=[]
 | 0,_=>rfl
 | k+1,h=>by
  unfold tkC;rw[tkC_none k fun i hi=>h i (by omega),if_neg (h k (by omega))]
  rfl
theorem tkC_one {s:CSt} {b:Nat} (hb:(lookV s b).w=1):∀k,(∀i,i < k→i≠b→(lookV s i).w≠1)→tkC s k=if b < k then [tkOf s b] else []
 | 0,_=>by rw[if_neg (by omega)];rfl
 | k+1,h=>by
  unfold tkC;rw[tkC_one hb k fun i hi=>h i (by omega)]
  by_cases e:k=b
  ·subst e;rw[if_neg (by omega),if_pos hb,if_pos (by omega)]
   rfl
  ·rw[if_neg (h k (by omega) e),List.append_nil]
   by_cases h1:b < k
   ·rw[if_pos h1,if_pos (by omega)]
   ·rw[if_neg h1,if_neg (by omega)]
theorem scanS_agree (s:CSt):Agree s (scanS s):=by
 unfold scanS
 split
 ·exact scan_agree s _ rfl _ _
 ·exact scan_agree s _ rfl _ _
theorem tkn_eq (s:CSt):tknL s (scanS s)=insG (tkC s s.nb) ((tkC s s.nb).length - 1):=by
 unfold tknL;rw[tkUpto_eq (scanS_agree s) _ (Nat.le_refl _)]
theorem pgsU_none {f:Nat→List Nat}:∀k,(∀q,1≤q→q≤k→rdOk (f q)=false)→pgsU f k=[]
 | 0,_=>rfl
 | k+1,h=>by
  unfold pgsU;rw[h (k+1) (by omega) (by omega),if_neg (by decide)]
  exact pgsU_none k fun q h1 h2=>h q h1 (by omega)
theorem look_not {s:CSt} {i:Nat} (h:ghE (readL s i 0)≠0):(lookV s i).w≠1:=by
 unfold lookV;rw[if_neg h]
 show hlV s i≠1
 unfold hlV
 split<;>omega
def sc0:CSt:=newS 16 8 128 0
def sc1:CSt:=progS sc0 3 0 (phL 128 1 1 1)
def scF:List Nat:=List.replicate 128 255
def scH:List Nat:=phL 128 1 1 1
theorem sc_p:phE 128 1 1 1=0∧(phL 128 1 1 1).length=128:=by decide +kernel
theorem scF_no:ghE scF≠0∧rdOk scF=false:=by decide +kernel
theorem scH_yes:ghE scH=0∧ghK scH=1∧ghR scH=1∧ghS scH=1:=by decide +kernel
theorem sl_full (N o n:Nat) (h:o+n≤N):sl (List.replicate N 255) o n=List.replicate n 255:=by
 unfold sl;rw[List.drop_replicate,List.take_replicate,Nat.min_eq_left (by omega)]
theorem sc0_by:sc0.by_=List.replicate 16384 255:=rfl
theorem sc_off (s:CSt) (h1:s.np=8) (h2:s.nz=128) (i q:Nat):offP s i q=(i*8+q)*128:=by
 unfold offP;rw[h1,h2,Int.toNat_natCast,Int.toNat_natCast]
theorem sc0_read {i q:Nat} (hi:i < 16) (hq:q < 8):readL sc0 i q=scF:=by
 rw[readL_pg (s:=sc0) rfl hi hq];unfold pgL;rw[sc_off _ rfl rfl,sc0_by];exact sl_full 16384 _ 128 (by omega)
theorem sc_rr:progR sc0 3 0 (phL 128 1 1 1).length=0:=by
 have ht:blank (tailL sc0 3 0)=true:=by
  have:tailL sc0 3 0=List.replicate 1024 255:=by
   unfold tailL;rw[show offP sc0 3 0=3072 from rfl,sc0_by,show (sc0.np - (0:Int).toNat)*sc0.nz=1024 from rfl];exact sl_full 16384 3072 1024 (by omega)
  rw[this]
  decide +kernel
 unfold progR;rw[sc_p.2,if_neg (by decide),if_neg (by decide),if_neg (by decide),ht,if_pos rfl]
theorem sc1_eq:sc1={ sc0 with deeds:=1,by_:=lay sc0.by_ 3072 scH }:=by
 unfold sc1 progS;rw[if_pos sc_rr]
 rfl
theorem sc_b:progE sc0 3 0 (phL 128 1 1 1)=0:=by
 unfold progE;rw[if_pos sc_rr]
 rfl
theorem sc1_h:sc1.dead=false∧sc1.nb=16∧sc1.np=8∧sc1.nz=128∧sc1.by_=lay (List.replicate 16384 255) 3072 scH:=by
 rw[sc1_eq];exact⟨rfl,rfl,rfl,rfl,rfl⟩
theorem sc1_read {i q:Nat} (hi:i < 16) (hq:q < 8):readL sc1 i q=if i=3∧q=0 then scH else scF:=by
 obtain⟨h1,h2,h3,h4,h5⟩:=sc1_h;have hH:scH.length=128:=sc_p.2;rw[readL_pg h1 (by omega) (by omega)];unfold pgL;rw[sc_off _ h3 h4,h5,h4]
 show sl _ _ _=_
 split
 ·next h=>
  obtain⟨rfl,rfl⟩:=h;rw[sl_lay_in _ _ _ _ _ (by rw[hH,List.length_replicate];omega) (by omega) (by omega)];unfold sl;rw[show (3*8+0)*128 - 3072=0 from rfl,List.drop_zero,List.take_of_length_le (by omega)]
 ·next h=>
  rw[sl_lay_out _ _ _ _ _ (by rw[hH,List.length_replicate];omega) (by rw[hH];omega) (by rw[List.length_replicate];omega)];exact sl_full 16384 _ 128 (by omega)
theorem sc_a:eraL sc0 1=[]:=by
 unfold eraL
 rw[tkn_eq,show sc0.nb=16 from rfl,tkC_none 16 fun i hi=>look_not (by
  have:=sc0_read (q:=0) hi (by omega)
  rw[show readL sc0 i 0=scF from this]
  exact scF_no.1)]
 rfl
theorem sc_c:eraL sc1 1=[⟨3,1,[]⟩]:=by
 have h3:readL sc1 (3:Nat) 0=scH:=sc1_read (i:=3) (q:=0) (by omega) (by omega)
 have hl:lookV sc1 3=⟨1,1,1,1⟩:=by
  obtain⟨y1,y2,y3,y4⟩:=scH_yes;unfold lookV;rw[h3,if_pos y1,y2,y3,y4]
 have hp:pgsB sc1 3=[]:=by
  unfold pgsB;rw[sc1_h.2.2.1]
  refine pgsU_none 7 fun q h1 h2=>?_
  rw[sc1_read (by omega) (by omega),if_neg (by omega)];exact scF_no.2
 unfold eraL
 rw[tkn_eq,sc1_h.2.1,tkC_one (b:=3) (by rw[hl]) 16 fun i hi hn=>look_not (by
  have:=sc1_read (q:=0) hi (by omega)
  rw[if_neg (by omega)] at this;rw[show readL sc1 i 0=scF from this]
  exact scF_no.1),if_pos (by omega)]
 show eraV sc1 1 [tkOf sc1 3]=_
 unfold eraV;unfold tkOf;rw[hl,if_pos ⟨rfl,rfl⟩]
 show [(⟨3,1,pgsB sc1 3⟩:BV)]=_
 rw[hp]
theorem sc_f:eraF sc0 1=[]:=by unfold eraF;rw[sc_a,List.drop_nil];rfl
theorem sc_r:((eraL sc1 1).drop (eraR sc1 1)).map (·.b)=[3]∧((eraL sc1 1).take (eraR sc1 1)).map (·.b)=[]:=by
 unfold eraR;rw[sc_c];exact⟨rfl,rfl⟩
theorem sc_d:sc0.dead=false∧sc1.dead=false∧sc0.nb≤19∧sc1.nb≤19∧sc0.deeds < 4611686018427387904:=
 ⟨rfl,sc1_h.1,by show 16≤19;omega,by rw[sc1_h.2.1];omega,by show 0 < 4611686018427387904;omega⟩
set_option maxRecDepth 100000
theorem works12_any (w:World):Calls Tryz.prog 9 #[] w (True1 w):=by
 have e0:Hid (geoOk 16 8 128 0):=by show geoOk 16 8 128 0;decide
 have hd:=jH sc_d;have hp:=jH sc_p;have hb:=jH sc_b;have hf:=jH sc_f;have hr:=jH sc_r;go_enter Tryz.func9,Tryz.ntmps9;go_wp2_with fail;refine (nNew_ok 16 8 128 0 _ e0.out).mono ?_;rintro e w2 ⟨g,Q,rfl,h1,hq,k2⟩;have C2:Hid (NChip Q w2 g sc0):=h1;have K2:Hid (New w w2):=k2;have HQ:Hid (∀b,Q b→w.heap.size≤b):=hq;clear h1 hq k2;go_wp2_with fail;refine (Facts_ok Q g sc0 1 _ C2.out hd.out.1 hd.out.2.2.1 (by decide) (by decide)).mono ?_;rintro e w3 ⟨A3,c3,e3,rfl,h1,-,k3⟩
 have hl3:e3.length=0:=by
  rw[hf.out] at h1
  have:=congrArg List.length h1
  rw[fts_len] at this;exact this
 have C3:=jH (C2.out.new k3);have K3:=jH (K2.out.new k3);rw[hl3];clear h1 k3 C2 K2 hl3;go_wp2_with fail;refine (Facts_no _ 0 2 _ (noBk_zero Q g sc0 _ C3.out hd.out.1 hd.out.2.2.1) rfl).mono ?_;rintro e w4 ⟨rfl,k4⟩;have C4:=jH (C3.out.new k4);have K4:=jH (K3.out.new k4);clear k4 C3 K3;go_wp2_with fail;refine (rPutHead_own 128 1 1 1 _ (by decide) (by decide) (by decide)).mono ?_;rintro e w5 ⟨A5,c5,rfl,o5,k5⟩;have C5:=jH (C4.out.new k5.out);have K5:=jH (K4.out.new k5.out);have B5:=jH o5.out.bts
 have F5:Hid (∀a,A5=some a→¬Q a.block):=fun a ha hQ=>by
  have h1:=(o5.out.at_ a ha).2;have h2:=C4.out.low _ hQ;omega
 rw[hp.out.1];clear o5 k5 C4 K4;go_wp2_with fail;refine (nProg_k _ K5 C5 HQ B5 F5 hd.out.2.2.2.2 0 sc1 hb.out rfl).mono ?_;rintro e w6 ⟨rfl,C6,_,K6⟩;clear C5 K5 B5 F5;generalize (phL 128 1 1 1).length=ln at *;go_wp2_with fail;refine (Blocks_ok Q g sc1 1 _ C6.out hd.out.2.1 hd.out.2.2.2.1 (by decide) (by decide)).mono ?_;rintro e w7 ⟨A7,c7,A8,c8,rfl,o7,o8,k7⟩;have hr1:=hr.out.1;have hr2:=hr.out.2;rw[hr1] at o7 ⊢;rw[hr2];have K7:=jH (K6.out.new k7);obtain⟨w8,hw8⟩:∃w8,w8=w7.alloc (.cells #[.int .i64 3] 3):=⟨_,rfl⟩
 have n8:New w7 w8:=by rw[hw8];exact kR.alloc _
 have I7:Hid (IIn w8 A7 1 [3]):=(o7.new n8).ins
 have B8:Hid (IIn w8 (some ⟨w7.heap.size,0,none⟩) 1 [3]):=by
  refine⟨rfl,fun _=>⟨w7.heap.size,0,rfl,fun j x hx=>?_⟩⟩
  have hb8:Blk w8 w7.heap.size 3 [.int .i64 3]:=by rw[hw8];exact Blk.made w7 _ _
  rw[Nat.zero_add,hb8.cell]
  match j,hx with
  | 0,hx=>simp at hx;subst hx;rfl
 have K8:=jH (K7.out.new n8);have HW8:=jH hw8;clear o7 o8 k7 hr1 hr2 n8 hw8 K7 K6 C6 hr hf hb hp hd HQ e0;go_wp2_with fail;rw[←HW8.out];refine (ints_eq _ _ 1 _ _ [3] _ I7.out B8.out (by unfold maxLen;omega)).mono ?_;rintro e w9 ⟨q,rfl,rfl⟩;go_wp2;go_ret;exact⟨rfl,K8.out.drewN q⟩
end
section
open Go.ChangeShapes Go.WideShapes Go.ChangeAt Go.RowKit
def fiN (N k:Nat):List Nat:=List.replicate k 255++List.replicate (N - k) 0
theorem fiN_zero (N:Nat):fiN N 0=List.replicate N 0:=by unfold fiN;simp
theorem fiN_end (N:Nat):fiN N N=List.replicate N 255:=by unfold fiN;simp
theorem fiN_get (N k:Nat) (hk:k < N):(fiN N k)[k]?=some 0:=by
 unfold fiN;rw[List.getElem?_append_right (by rw[List.length_replicate];exact Nat.le_refl _),List.length_replicate,Nat.sub_self,List.getElem?_replicate,if_pos (by omega)]
theorem fiN_step (N k:Nat) (hk:k < N):(fiN N k).set k 255=fiN N (k+1):=by
 unfold fiN;rw[List.set_append_right _ _ (by rw[List.length_replicate];exact Nat.le_refl _),List.length_replicate,Nat.sub_self,show N - k=(N - (k+1))+1 from by omega,List.replicate_succ,List.set_cons_zero,List.replicate_succ'];simp
def scW (N:Nat):List Nat:=List.replicate N 255
theorem scW_len (N:Nat):(scW N).length=N:=List.length_replicate ..
theorem scW_bytes (N:Nat):IsBytes (scW N):=fun x hx=>by rw[List.eq_of_mem_replicate hx];omega
theorem fiN_full (N:Nat):fiN N N=scW N:=fiN_end N
def scL:CSt:=loadS 16 8 128 0 (scW 16384) []
def ChNil (w:World) (e:Ending) (w':World):Prop:=∃g Q,e=.returned (.pointer (some ⟨g,0,none⟩))∧Hid (NChip Q w' g scL)∧Hid (∀b,Q b→w.heap.size≤b)∧Hid (New w w')
theorem chipNil_any (w:World):Calls Tryz.prog 6 #[.slice none 0 0,.slice none 0 0] w (ChNil w):=by
 have e0:Hid (geoOk ((16:Nat):Int) ((8:Nat):Int) ((128:Nat):Int) ((0:Nat):Int)):=by show geoOk 16 8 128 0;decide
 obtain⟨i0,hi,hz0,hz1,hz2⟩:=info_parts info_u8
 have hmk:=fun u=>run_make_bytes (P:=Tryz.prog) 52 5 i0 Tryz.underlying52 hi hz0 hz1 hz2 .i64 .i64 16384 16384 16384 16384 rfl rfl (Nat.le_refl _) (by omega) u
 obtain⟨N,hN⟩:∃N:Nat,N=16384:=⟨_,rfl⟩;have HN:=jH hN;obtain⟨Z,hZ⟩:∃Z,Z=List.replicate 16384 0:=⟨_,rfl⟩
 have HZ:Hid (Z=List.replicate N 0):=by show _=_;rw[hZ,hN]
 rw[←hZ] at hmk;clear hZ hN;have K1:Hid (New w (w.alloc (.cells #[.int .i64 16,.int .i64 8,.int .i64 128,.int .i64 0] 51))):=kR.alloc _;have BG:Hid (Blk (w.alloc (.cells #[.int .i64 16,.int .i64 8,.int .i64 128,.int .i64 0] 51)) w.heap.size 51 [.int .i64 16,.int .i64 8,.int .i64 128,.int .i64 0]):=Blk.made w _ _;obtain⟨w2,hw2⟩:∃w2,w2=w.alloc (.cells #[.int .i64 16,.int .i64 8,.int .i64 128,.int .i64 0] 51):=⟨_,rfl⟩
 have hs2:w.heap.size+1=w2.heap.size:=by rw[hw2];simp
 have HS2:=jH hs2;rw[←hw2] at K1 BG;have HW2:=jH hw2
 have BZ:Hid (Blk (w2.alloc (.cells (rawB Z) 5)) w2.heap.size 5 ((fiN N 0).map byt)):=by rw[fiN_zero,←HZ.out];exact Blk.madeB w2 5 Z
 have KZ:Hid (New w2 (w2.alloc (.cells (rawB Z) 5))):=kR.alloc _;clear hw2 hs2;go_enter Tryz.func6,Tryz.ntmps6
 go_upto_block 0 with fail
 rw[←HW2.out];have hgS:=HS2.out;clear HW2 HS2 hmk;generalize hgg0:w.heap.size=gg0 at *;generalize gg0+1=gall at *;subst hgS;go_wp2_with fail
 go_loopw [7] (fun i wr=>∃k:Nat,k≤16384∧i=.int .i64 k∧Hid (Blk wr w2.heap.size 5 ((fiN N k).map byt))∧Hid (New w2 wr)) (fun i _=>16384 - (intOf i).toNat)
 case atStart=>exact⟨0,by omega,rfl,BZ,KZ⟩
 case round=>
  obtain⟨k,hk,rfl,VB,VK⟩:=hrel;clear BZ KZ
  by_cases hlt:k < 16384
  ·have HKN:Hid (k < N):=by rw[HN.out];exact hlt
   have hcell:wr.cell? ⟨w2.heap.size,k,none⟩=some (.int .u8 0):=by rw[VB.out.cell,List.getElem?_map,fiN_get N k HKN.out];rfl
   have hfree:=VB.out.free k;go_wp2;go_roundw
   case rel=>
    refine⟨k+1,by omega,by go_num,?_,VK.out.setCell (p:=⟨w2.heap.size,k,none⟩) (fun hh=>by simp at hh) _⟩;have hb1:=VB.out.put k (.int .u8 255);rw[set_any _ k 255 (.int .u8 255) rfl,fiN_step N k HKN.out] at hb1;exact hb1
   case measure=>simp[intOf];omega
  ·have hkN:k=N:=by have:=HN.out;omega
   rw[hkN,fiN_full] at VB;have HWl:Hid ((scW N).length=16384):=(scW_len N).trans HN.out;have HWb:=jH (scW_bytes N)
   have HWW:Hid (scW N=scW 16384):=by rw[Hid,HN.out]
   clear hkN HN HZ;generalize scW N=W at *;have K3:Hid (New w wr):=K1.out.new VK.out
   have BW3:Hid (Bts wr (some ⟨w2.heap.size,0,none⟩) 16384 W):=by simpa [Hid] using Bts.of_blkN (off:=0) (junk:=[]) (by simpa using VB.out) HWb.out HWl.out
   have BG3:=jH (BG.out.new VK.out)
   have CL:=fun u hu=>jH (nLoad_any 16 8 128 0 (some ⟨w2.heap.size,0,none⟩) 16384 16384 W none 0 0 [] u e0.out (BW3.out.new hu) (by intro h;cases h) (by omega) ⟨rfl,by simp,fun h=>absurd h (by omega)⟩ (by omega) (by omega))
   clear VB BG BW3 K1 VK e0;have hgg:=BG3.out.lt;obtain⟨g0,g1,g2,g3⟩:=BG3.out.p4;go_wp2_with fail;refine wp_loop_rounds 1 ?_;rw[rounds_succ];go_wp2_with fail;refine wp_loop_rounds 1 ?_;rw[rounds_succ];go_wp2_with fail;refine (CL wr kR).out.mono ?_;rintro e w4 ⟨h1,-⟩;obtain⟨g,Q,rfl,hc,hq,hk⟩:=h1 (fun x hx=>by cases hx);have R:Hid (ChNil w (.returned (.pointer (some ⟨g,0,none⟩))) w4):=⟨g,Q,rfl,by rw[Hid,scL,←HWW.out];exact hc,fun b hb=>Nat.le_trans K3.out.size (hq b hb),K3.out.new hk⟩;clear h1 hc hq hk CL HWl HWb HWW;go_wp2;go_ret;exact R.out
end
end Go.Proofs.YtbiihjdjbknibaaGreat
