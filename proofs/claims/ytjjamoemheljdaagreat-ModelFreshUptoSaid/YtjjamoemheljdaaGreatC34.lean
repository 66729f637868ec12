/-
  Layer 7: contracts (Yz).
-/
import Derived.Test.YtjjamoemheljdaaGreatC29
namespace Go.Proofs.YtjjamoemheljdaaGreat
set_option maxRecDepth 100000
set_option maxHeartbeats 8000000
set_option linter.unusedSimpArgs false
set_option linter.unusedVariables false
section
open Go.RowKit
theorem zby {w u:World} {g h:Nat} {x0 x1 x2 x3 y0 y1 y2 y3:Value} (hb:Blk u g 87 [x0,x1,x2,x3]) (hc:Blk u h 87 [y0,y1,y2,y3]) (hk:New w u) (hg:w.heap.size≤g) (hh:w.heap.size≤h) (hne:g≠h) (a0 a1 a2 a3 b0 b1 b2 b3:Value) {W:World}
  (hW:W=((((((((u.setCell ⟨g,0,none⟩ (a0)).setCell ⟨g,1,none⟩ (a1)).setCell ⟨g,2,none⟩ (a2)).setCell ⟨g,3,none⟩ (a3)).setCell ⟨h,0,none⟩ (b0)).setCell ⟨h,1,none⟩ (b1)).setCell ⟨h,2,none⟩ (b2)).setCell ⟨h,3,none⟩ (b3))):Blk W g 87 [a0,a1,a2,a3]∧Blk W h 87 [b0,b1,b2,b3]∧New w W:=by
 subst hW;obtain⟨p1,p2,p3⟩:=zbu hb hk hg a0 a1 a2 a3;obtain⟨q1,q2,q3⟩:=zbu (hc.kept p3 (fun e=>hne e.symm)) p2 hh b0 b1 b2 b3;exact⟨p1.kept q3 hne,q1,q2⟩
theorem spots_how (gt:Nat) (kk:Nat) (sp st:ByteArray) (av nv:Int) (Ab:Option Addr) (bl bc:Nat) (w:World) (b:Bool) (g1 g2:List (List UInt8)) (x1 x2 e1 e2 q1 j1 d1 q2 j2 d2:Nat) (n1 n2:ByteArray)
  (h1:∀u,Calls Tryz.prog 80 #[.string sp] u (RetP u g1 x1)) (hT:∀u,Calls Tryz.prog 81 #[.int .u8 kk] u (fun e w'=>e=.returned (.bool b)∧New u w'))
  (h2:b=true→∀u,Calls Tryz.prog 80 #[.string st] u (RetP u g2 x2)) (hb2:b=false→g2=[])
  (hF1:∀u A c,New w u→Txs u A g1.length g1→Calls Tryz.prog 82 #[.pointer (some ⟨gt,0,none⟩),.slice A g1.length c] u (fun e w'=>e=.returned (.tuple #[.agg #[.int .i64 q1,.string n1,.int .i64 j1,.int .i64 d1],.int .i64 e1])∧New u w'))
  (hF2:∀u A c,New w u→Txs u A g2.length g2→Calls Tryz.prog 82 #[.pointer (some ⟨gt,0,none⟩),.slice A g2.length c] u (fun e w'=>e=.returned (.tuple #[.agg #[.int .i64 q2,.string n2,.int .i64 j2,.int .i64 d2],.int .i64 e2])∧New u w')):
  Calls Tryz.prog 53 #[.pointer (some ⟨gt,0,none⟩),.agg #[.int .u8 kk,.string sp,.string st,.int .i64 av,.int .i64 nv,.slice Ab bl bc]] w (fun e w'=>New w w' ∧
   (x1≠0→e=.returned (.tuple #[.agg #[.int .i64 0,.string ⟨#[]⟩,.int .i64 0,.int .i64 0],.agg #[.int .i64 0,.string ⟨#[]⟩,.int .i64 0,.int .i64 0],.int .i64 x1])) ∧
   (x1=0→b=true→x2≠0→e=.returned (.tuple #[.agg #[.int .i64 0,.string ⟨#[]⟩,.int .i64 0,.int .i64 0],.agg #[.int .i64 0,.string ⟨#[]⟩,.int .i64 0,.int .i64 0],.int .i64 x2])) ∧
   (x1=0→(b=true→x2=0)→e1≠0→e=.returned (.tuple #[.agg #[.int .i64 0,.string ⟨#[]⟩,.int .i64 0,.int .i64 0],.agg #[.int .i64 0,.string ⟨#[]⟩,.int .i64 0,.int .i64 0],.int .i64 e1])) ∧
   (x1=0→(b=true→x2=0)→e1=0→e2≠0→e=.returned (.tuple #[.agg #[.int .i64 0,.string ⟨#[]⟩,.int .i64 0,.int .i64 0],.agg #[.int .i64 0,.string ⟨#[]⟩,.int .i64 0,.int .i64 0],.int .i64 e2])) ∧
   (x1=0→(b=true→x2=0)→e1=0→e2=0→e=.returned (.tuple #[.agg #[.int .i64 q1,.string n1,.int .i64 j1,.int .i64 d1],.agg #[.int .i64 q2,.string n2,.int .i64 j2,.int .i64 d2],.int .i64 0]))):=by
 obtain⟨w1,hw1⟩:∃w1,w1=((w.alloc (.cells #[.int .u8 kk,.string sp,.string st,.int .i64 av,.int .i64 nv,.slice Ab bl bc] 34)).alloc (.cells #[.int .i64 0,.string ⟨#[]⟩,.int .i64 0,.int .i64 0] 87)).alloc (.cells #[.int .i64 0,.string ⟨#[]⟩,.int .i64 0,.int .i64 0] 87):=⟨_,rfl⟩
 have N1:Hid (New w w1):=by rw[hw1];exact ((kR.alloc _).alloc _).alloc _
 have BC:Hid (Blk w1 w.heap.size 34 [.int .u8 kk,.string sp,.string st,.int .i64 av,.int .i64 nv,.slice Ab bl bc]):=by rw[hw1];exact ((Blk.made w _ _).alloc _).alloc _
 have B4:Hid (Blk w1 (w.heap.size+1) 87 [.int .i64 0,.string ⟨#[]⟩,.int .i64 0,.int .i64 0]):=by
  have:=Blk.made (w.alloc (.cells #[.int .u8 kk,.string sp,.string st,.int .i64 av,.int .i64 nv,.slice Ab bl bc] 34)) 87 #[.int .i64 0,.string ⟨#[]⟩,.int .i64 0,.int .i64 0]
  rw[World.size_alloc] at this;rw[hw1];exact this.alloc _
 have B5:Hid (Blk w1 (w.heap.size+1+1) 87 [.int .i64 0,.string ⟨#[]⟩,.int .i64 0,.int .i64 0]):=by
  have:=Blk.made ((w.alloc (.cells #[.int .u8 kk,.string sp,.string st,.int .i64 av,.int .i64 nv,.slice Ab bl bc] 34)).alloc (.cells #[.int .i64 0,.string ⟨#[]⟩,.int .i64 0,.int .i64 0] 87)) 87 #[.int .i64 0,.string ⟨#[]⟩,.int .i64 0,.int .i64 0]
  rw[World.size_alloc,World.size_alloc] at this;rw[hw1];exact this
 have HW:=jH hw1;have P1:=jH h1;have CT:=jH hT;have P2:=jH h2;have HB2:=jH hb2;have F1:=jH hF1;have F2:=jH hF2;clear hw1 h1 hT h2 hb2 hF1 hF2;go_enter Tryz.func53,Tryz.ntmps53;generalize hqq:(bodyPost _ _ _:Exit→Act→World→Prop)=QQ
 go_upto_region 1 with fail
 rw[←HW.out];clear HW;obtain⟨g5,hg5⟩:∃g5,g5=w.heap.size+1+1:=⟨_,rfl⟩;obtain⟨g4,hg4⟩:∃g4,g4=w.heap.size+1:=⟨_,rfl⟩;rw[←hg5] at B5 ⊢;rw[←hg4] at B4 ⊢
 have G4:Hid (w.heap.size≤g4):=by rw[Hid,hg4];omega
 have G5:Hid (w.heap.size≤g5):=by rw[Hid,hg5];omega
 have G45:Hid (g4≠g5):=by show g4≠g5;omega
 have G4C:Hid (g4≠w.heap.size):=by show g4≠w.heap.size;omega
 have G5C:Hid (g5≠w.heap.size):=by show g5≠w.heap.size;omega
 clear hg4 hg5;obtain⟨gc,hgc⟩:∃gc,gc=w.heap.size:=⟨_,rfl⟩;rw[←hgc] at BC G4C G5C ⊢;clear hgc;have ne45:(g4=g5)=False:=eq_false G45.out;have ne54:(g5=g4)=False:=eq_false (fun e=>G45.out e.symm);obtain⟨c0,c1,c2⟩:=BC.out.p3
 go_upto_region 2 with (go_at_call 80;refine (P1.out _).mono ?_;rintro e w2 ⟨A1,a1,rfl,hO,hk⟩;have T1:=jH hO.txs;clear hO;have N2:=jH (N1.out.new hk);have M2:Hid (New w1 w2):=hk;have A4:=jH (B4.out.kept M2.out id);have A5:=jH (B5.out.kept M2.out id);obtain⟨c0,c1,c2⟩:=(BC.out.kept M2.out id).p3;obtain⟨s0,s1,s2,s3⟩:=A4.out.p4;obtain⟨r0,r1,r2,r3⟩:=A5.out.p4;obtain⟨fs0,fs1,fs2,fs3⟩:=A4.out.f4;obtain⟨fr0,fr1,fr2,fr3⟩:=A5.out.f4;clear hk)
 by_cases hx1:x1=0
 ·subst hx1;clear P1
  cases b with
  | true=>
   have PT2:=jH (P2.out rfl);clear HB2 P2
   go_upto_region 7 with (first|(go_at_call 81;refine (CT.out _).mono ?_;rintro e w3 ⟨rfl,hk⟩;have T1:=jH (T1.out.new hk);have N3:=jH (N2.out.new hk);have M3:Hid (New w1 w3):=M2.out.new hk;have A4:=jH (B4.out.kept M3.out id);have A5:=jH (B5.out.kept M3.out id);obtain⟨c0,c1,c2⟩:=(BC.out.kept M3.out id).p3;obtain⟨s0,s1,s2,s3⟩:=A4.out.p4;obtain⟨r0,r1,r2,r3⟩:=A5.out.p4;obtain⟨fs0,fs1,fs2,fs3⟩:=A4.out.f4;obtain⟨fr0,fr1,fr2,fr3⟩:=A5.out.f4;clear hk)|(go_at_call 80;refine (PT2.out _).mono ?_;rintro e w4 ⟨A2,a2,rfl,hO,hk⟩;have T2:=jH hO.txs;have Q2:Hid (∀a,A2=some a→a.block≠g4):=(fun a ha e=>absurd (OwnV.at_ hO a ha).2 (by have:=A4.out.lt;omega));clear hO;have T1:=jH (T1.out.new hk);have N4:=jH (N3.out.new hk);have M4:Hid (New w1 w4):=M3.out.new hk;have A4:=jH (B4.out.kept M4.out id);have A5:=jH (B5.out.kept M4.out id);obtain⟨c0,c1,c2⟩:=(BC.out.kept M4.out id).p3;obtain⟨s0,s1,s2,s3⟩:=A4.out.p4;obtain⟨r0,r1,r2,r3⟩:=A5.out.p4;obtain⟨fs0,fs1,fs2,fs3⟩:=A4.out.f4;obtain⟨fr0,fr1,fr2,fr3⟩:=A5.out.f4;clear hk))
   clear CT PT2
   by_cases hx2:x2=0
   ·subst hx2
    go_upto_region 10 with (go_at_call 82;refine (F1.out _ A1 a1 N4.out T1.out).mono ?_;rintro e w5 ⟨rfl,hk⟩;have T2:=jH (T2.out.new hk);have N5:=jH (N4.out.new hk);have M5:Hid (New w1 w5):=M4.out.new hk;have A4:=jH (B4.out.kept M5.out id);have A5:=jH (B5.out.kept M5.out id);obtain⟨c0,c1,c2⟩:=(BC.out.kept M5.out id).p3;obtain⟨s0,s1,s2,s3⟩:=A4.out.p4;obtain⟨r0,r1,r2,r3⟩:=A5.out.p4;obtain⟨fs0,fs1,fs2,fs3⟩:=A4.out.f4;obtain⟨fr0,fr1,fr2,fr3⟩:=A5.out.f4;clear hk)
    clear c0 c1 c2 s0 s1 s2 s3 r0 r1 r2 r3 fs0 fs1 fs2 fs3 fr0 fr1 fr2 fr3;obtain⟨w6,hnw⟩:∃w6,w6=((((w5.setCell ⟨g4,0,none⟩ (.int .i64 q1)).setCell ⟨g4,1,none⟩ (.string n1)).setCell ⟨g4,2,none⟩ (.int .i64 j1)).setCell ⟨g4,3,none⟩ (.int .i64 d1)):=⟨_,rfl⟩;rw[←hnw];have L9:=zbu A4.out N5.out G4.out (.int .i64 q1) (.string n1) (.int .i64 j1) (.int .i64 d1);rw[←hnw] at L9;have Xw6:=jH L9.1;have Nw6:=jH L9.2.1;have Kw6:=jH L9.2.2;have Yw6:=jH (A5.out.kept L9.2.2 (fun e=>G45.out e.symm));clear L9 hnw;have T2:Hid (Txs w6 A2 g2.length g2):=T2.out.kept Kw6.out (fun a ha=>Q2.out a ha);obtain⟨s0,s1,s2,s3⟩:=Xw6.out.p4
    obtain⟨r0,r1,r2,r3⟩:=Yw6.out.p4;obtain⟨fs0,fs1,fs2,fs3⟩:=Xw6.out.f4;obtain⟨fr0,fr1,fr2,fr3⟩:=Yw6.out.f4
    by_cases he1:e1=0
    ·subst he1
     go_upto_region 13 with (go_at_call 82;refine (F2.out _ A2 a2 Nw6.out T2.out).mono ?_;rintro e w7 ⟨rfl,hk⟩;have N7:=jH (Nw6.out.new hk);have A4:=jH (Xw6.out.kept hk id);have A5:=jH (Yw6.out.kept hk id);obtain⟨s0,s1,s2,s3⟩:=A4.out.p4;obtain⟨r0,r1,r2,r3⟩:=A5.out.p4;obtain⟨fs0,fs1,fs2,fs3⟩:=A4.out.f4;obtain⟨fr0,fr1,fr2,fr3⟩:=A5.out.f4;clear hk)
     clear s0 s1 s2 s3 r0 r1 r2 r3 fs0 fs1 fs2 fs3 fr0 fr1 fr2 fr3;obtain⟨w8,hnw⟩:∃w8,w8=((((w7.setCell ⟨g5,0,none⟩ (.int .i64 q2)).setCell ⟨g5,1,none⟩ (.string n2)).setCell ⟨g5,2,none⟩ (.int .i64 j2)).setCell ⟨g5,3,none⟩ (.int .i64 d2)):=⟨_,rfl⟩;rw[←hnw];have L9:=zbu A5.out N7.out G5.out (.int .i64 q2) (.string n2) (.int .i64 j2) (.int .i64 d2);rw[←hnw] at L9;have Xw8:=jH L9.1;have Nw8:=jH L9.2.1;have Kw8:=jH L9.2.2;have Yw8:=jH (A4.out.kept L9.2.2 (G45.out));clear L9 hnw;obtain⟨s0,s1,s2,s3⟩:=Yw8.out.p4;obtain⟨r0,r1,r2,r3⟩:=Xw8.out.p4;obtain⟨fs0,fs1,fs2,fs3⟩:=Yw8.out.f4;obtain⟨fr0,fr1,fr2,fr3⟩:=Xw8.out.f4
     by_cases he2:e2=0
     ·subst he2;clear F1 T1
      go_upto_region 15 with fail
      go_region
      go_wp2_with fail;obtain⟨wf,hwf⟩:∃wf,wf=((((((((w8.setCell ⟨g4,0,none⟩ (.int .i64 q1)).setCell ⟨g4,1,none⟩ (.string n1)).setCell ⟨g4,2,none⟩ (.int .i64 j1)).setCell ⟨g4,3,none⟩ (.int .i64 d1)).setCell ⟨g5,0,none⟩ (.int .i64 q2)).setCell ⟨g5,1,none⟩ (.string n2)).setCell ⟨g5,2,none⟩ (.int .i64 j2)).setCell ⟨g5,3,none⟩ (.int .i64 d2)):=⟨_,rfl⟩;rw[←hwf];obtain⟨L4,L5,LN⟩:=zby Yw8.out Xw8.out Nw8.out G4.out G5.out G45.out _ _ _ _ _ _ _ _ hwf;clear hwf;replace L4:=L4.drew;replace L5:=L5.drew;replace LN:=LN.drew;have d0:=L4.cell 0;have d1:=L4.cell 1;have d2:=L4.cell 2;have d3:=L4.cell 3;have d4:=L5.cell 0
      have d5:=L5.cell 1;have d6:=L5.cell 2;have d7:=L5.cell 3;simp at d0 d1 d2 d3 d4 d5 d6 d7
      try simp only[Exit.then]
      rw[←hqq];refine bodyPost_ret (by simp[results,Tryz.results53,go_sem,d0,d1,d2,d3,d4,d5,d6,d7];try rfl) rfl ?_;refine⟨LN,fun h=>absurd rfl h,fun _ _ h=>absurd rfl h,fun _ _ h=>absurd rfl h,fun _ _ _ h=>absurd rfl h,fun _ _ _ _=>rfl⟩
     ·have ex2:(((e2:Nat):Int) != 0)=true:=bne_iff_ne.2 (by omega);have HX:=jH he2;clear he2;go_wp2_with fail;obtain⟨wf,hwf⟩:∃wf,wf=((((((((w8.setCell ⟨g4,0,none⟩ (.int .i64 0)).setCell ⟨g4,1,none⟩ (.string ⟨#[]⟩)).setCell ⟨g4,2,none⟩ (.int .i64 0)).setCell ⟨g4,3,none⟩ (.int .i64 0)).setCell ⟨g5,0,none⟩ (.int .i64 0)).setCell ⟨g5,1,none⟩ (.string ⟨#[]⟩)).setCell ⟨g5,2,none⟩ (.int .i64 0)).setCell ⟨g5,3,none⟩ (.int .i64 0)):=⟨_,rfl⟩;rw[←hwf];obtain⟨L4,L5,LN⟩:=zby Yw8.out Xw8.out Nw8.out G4.out G5.out G45.out _ _ _ _ _ _ _ _ hwf;clear hwf;have d0:=L4.cell 0;have d1:=L4.cell 1;have d2:=L4.cell 2;have d3:=L4.cell 3
      have d4:=L5.cell 0;have d5:=L5.cell 1;have d6:=L5.cell 2;have d7:=L5.cell 3;simp at d0 d1 d2 d3 d4 d5 d6 d7
      try simp only[Exit.then]
      rw[←hqq];refine bodyPost_ret (by simp[results,Tryz.results53,go_sem,d0,d1,d2,d3,d4,d5,d6,d7];try rfl) rfl ?_;refine⟨LN,fun h=>absurd rfl h,fun _ _ h=>absurd rfl h,fun _ _ h=>absurd rfl h,fun _ _ _ _=>rfl,fun _ _ _ h=>absurd h HX.out⟩
    ·have ex1:(((e1:Nat):Int) != 0)=true:=bne_iff_ne.2 (by omega);have HX:=jH he1;clear he1 F2;go_wp2_with fail;obtain⟨wf,hwf⟩:∃wf,wf=((((((((w6.setCell ⟨g4,0,none⟩ (.int .i64 0)).setCell ⟨g4,1,none⟩ (.string ⟨#[]⟩)).setCell ⟨g4,2,none⟩ (.int .i64 0)).setCell ⟨g4,3,none⟩ (.int .i64 0)).setCell ⟨g5,0,none⟩ (.int .i64 0)).setCell ⟨g5,1,none⟩ (.string ⟨#[]⟩)).setCell ⟨g5,2,none⟩ (.int .i64 0)).setCell ⟨g5,3,none⟩ (.int .i64 0)):=⟨_,rfl⟩;rw[←hwf];obtain⟨L4,L5,LN⟩:=zby Xw6.out Yw6.out Nw6.out G4.out G5.out G45.out _ _ _ _ _ _ _ _ hwf;clear hwf;have d0:=L4.cell 0;have d1:=L4.cell 1;have d2:=L4.cell 2
     have d3:=L4.cell 3;have d4:=L5.cell 0;have d5:=L5.cell 1;have d6:=L5.cell 2;have d7:=L5.cell 3;simp at d0 d1 d2 d3 d4 d5 d6 d7
     try simp only[Exit.then]
     rw[←hqq];refine bodyPost_ret (by simp[results,Tryz.results53,go_sem,d0,d1,d2,d3,d4,d5,d6,d7];try rfl) rfl ?_;refine⟨LN,fun h=>absurd rfl h,fun _ _ h=>absurd rfl h,fun _ _ _=>rfl,fun _ _ h=>absurd h HX.out,fun _ _ h=>absurd h HX.out⟩
   ·have ex2:(((x2:Nat):Int) != 0)=true:=bne_iff_ne.2 (by omega);have HX:=jH hx2;clear hx2 F1 F2;go_wp2_with fail;obtain⟨wf,hwf⟩:∃wf,wf=((((((((w4.setCell ⟨g4,0,none⟩ (.int .i64 0)).setCell ⟨g4,1,none⟩ (.string ⟨#[]⟩)).setCell ⟨g4,2,none⟩ (.int .i64 0)).setCell ⟨g4,3,none⟩ (.int .i64 0)).setCell ⟨g5,0,none⟩ (.int .i64 0)).setCell ⟨g5,1,none⟩ (.string ⟨#[]⟩)).setCell ⟨g5,2,none⟩ (.int .i64 0)).setCell ⟨g5,3,none⟩ (.int .i64 0)):=⟨_,rfl⟩;rw[←hwf];obtain⟨L4,L5,LN⟩:=zby A4.out A5.out N4.out G4.out G5.out G45.out _ _ _ _ _ _ _ _ hwf;clear hwf;have d0:=L4.cell 0;have d1:=L4.cell 1;have d2:=L4.cell 2
    have d3:=L4.cell 3;have d4:=L5.cell 0;have d5:=L5.cell 1;have d6:=L5.cell 2;have d7:=L5.cell 3;simp at d0 d1 d2 d3 d4 d5 d6 d7
    try simp only[Exit.then]
    rw[←hqq];refine bodyPost_ret (by simp[results,Tryz.results53,go_sem,d0,d1,d2,d3,d4,d5,d6,d7];try rfl) rfl ?_;refine⟨LN,fun h=>absurd rfl h,fun _ _ _=>rfl,fun _ h=>absurd (h (by first|exact trivial|rfl)) HX.out,fun _ h=>absurd (h (by first|exact trivial|rfl)) HX.out,fun _ h=>absurd (h (by first|exact trivial|rfl)) HX.out⟩
  | false=>
   obtain rfl:g2=[]:=HB2.out rfl;clear HB2 P2
   go_upto_region 9 with (go_at_call 81;refine (CT.out _).mono ?_;rintro e w3 ⟨rfl,hk⟩;have T1:=jH (T1.out.new hk);have N3:=jH (N2.out.new hk);have M3:Hid (New w1 w3):=M2.out.new hk;have A4:=jH (B4.out.kept M3.out id);have A5:=jH (B5.out.kept M3.out id);obtain⟨c0,c1,c2⟩:=(BC.out.kept M3.out id).p3;obtain⟨s0,s1,s2,s3⟩:=A4.out.p4;obtain⟨r0,r1,r2,r3⟩:=A5.out.p4;obtain⟨fs0,fs1,fs2,fs3⟩:=A4.out.f4;obtain⟨fr0,fr1,fr2,fr3⟩:=A5.out.f4;clear hk)
   clear CT
   go_upto_region 10 with (go_at_call 82;refine (F1.out _ A1 a1 N3.out T1.out).mono ?_;rintro e w5 ⟨rfl,hk⟩;have N5:=jH (N3.out.new hk);have M5:Hid (New w1 w5):=M3.out.new hk;have A4:=jH (B4.out.kept M5.out id);have A5:=jH (B5.out.kept M5.out id);obtain⟨c0,c1,c2⟩:=(BC.out.kept M5.out id).p3;obtain⟨s0,s1,s2,s3⟩:=A4.out.p4;obtain⟨r0,r1,r2,r3⟩:=A5.out.p4;obtain⟨fs0,fs1,fs2,fs3⟩:=A4.out.f4;obtain⟨fr0,fr1,fr2,fr3⟩:=A5.out.f4;clear hk)
   clear c0 c1 c2 s0 s1 s2 s3 r0 r1 r2 r3 fs0 fs1 fs2 fs3 fr0 fr1 fr2 fr3;obtain⟨w6,hnw⟩:∃w6,w6=((((w5.setCell ⟨g4,0,none⟩ (.int .i64 q1)).setCell ⟨g4,1,none⟩ (.string n1)).setCell ⟨g4,2,none⟩ (.int .i64 j1)).setCell ⟨g4,3,none⟩ (.int .i64 d1)):=⟨_,rfl⟩;rw[←hnw];have L9:=zbu A4.out N5.out G4.out (.int .i64 q1) (.string n1) (.int .i64 j1) (.int .i64 d1);rw[←hnw] at L9;have Xw6:=jH L9.1;have Nw6:=jH L9.2.1;have Kw6:=jH L9.2.2;have Yw6:=jH (A5.out.kept L9.2.2 (fun e=>G45.out e.symm));clear L9 hnw;have T2:Hid (Txs w6 none ([]:List (List UInt8)).length []):=Txs.nil _ _;obtain⟨s0,s1,s2,s3⟩:=Xw6.out.p4
   obtain⟨r0,r1,r2,r3⟩:=Yw6.out.p4;obtain⟨fs0,fs1,fs2,fs3⟩:=Xw6.out.f4;obtain⟨fr0,fr1,fr2,fr3⟩:=Yw6.out.f4
   by_cases he1:e1=0
   ·subst he1
    go_upto_region 13 with (go_at_call 82;refine (F2.out _ none 0 Nw6.out T2.out).mono ?_;rintro e w7 ⟨rfl,hk⟩;have N7:=jH (Nw6.out.new hk);have A4:=jH (Xw6.out.kept hk id);have A5:=jH (Yw6.out.kept hk id);obtain⟨s0,s1,s2,s3⟩:=A4.out.p4;obtain⟨r0,r1,r2,r3⟩:=A5.out.p4;obtain⟨fs0,fs1,fs2,fs3⟩:=A4.out.f4;obtain⟨fr0,fr1,fr2,fr3⟩:=A5.out.f4;clear hk)
    clear s0 s1 s2 s3 r0 r1 r2 r3 fs0 fs1 fs2 fs3 fr0 fr1 fr2 fr3;obtain⟨w8,hnw⟩:∃w8,w8=((((w7.setCell ⟨g5,0,none⟩ (.int .i64 q2)).setCell ⟨g5,1,none⟩ (.string n2)).setCell ⟨g5,2,none⟩ (.int .i64 j2)).setCell ⟨g5,3,none⟩ (.int .i64 d2)):=⟨_,rfl⟩;rw[←hnw];have L9:=zbu A5.out N7.out G5.out (.int .i64 q2) (.string n2) (.int .i64 j2) (.int .i64 d2);rw[←hnw] at L9;have Xw8:=jH L9.1;have Nw8:=jH L9.2.1;have Kw8:=jH L9.2.2;have Yw8:=jH (A4.out.kept L9.2.2 (G45.out));clear L9 hnw;obtain⟨s0,s1,s2,s3⟩:=Yw8.out.p4;obtain⟨r0,r1,r2,r3⟩:=Xw8.out.p4;obtain⟨fs0,fs1,fs2,fs3⟩:=Yw8.out.f4;obtain⟨fr0,fr1,fr2,fr3⟩:=Xw8.out.f4
    by_cases he2:e2=0
    ·subst he2;clear F1 T1
     go_upto_region 15 with fail
     go_region
     go_wp2_with fail;obtain⟨wf,hwf⟩:∃wf,wf=((((((((w8.setCell ⟨g4,0,none⟩ (.int .i64 q1)).setCell ⟨g4,1,none⟩ (.string n1)).setCell ⟨g4,2,none⟩ (.int .i64 j1)).setCell ⟨g4,3,none⟩ (.int .i64 d1)).setCell ⟨g5,0,none⟩ (.int .i64 q2)).setCell ⟨g5,1,none⟩ (.string n2)).setCell ⟨g5,2,none⟩ (.int .i64 j2)).setCell ⟨g5,3,none⟩ (.int .i64 d2)):=⟨_,rfl⟩;rw[←hwf];obtain⟨L4,L5,LN⟩:=zby Yw8.out Xw8.out Nw8.out G4.out G5.out G45.out _ _ _ _ _ _ _ _ hwf;clear hwf;replace L4:=L4.drew;replace L5:=L5.drew;replace LN:=LN.drew;have d0:=L4.cell 0;have d1:=L4.cell 1;have d2:=L4.cell 2;have d3:=L4.cell 3;have d4:=L5.cell 0
     have d5:=L5.cell 1;have d6:=L5.cell 2;have d7:=L5.cell 3;simp at d0 d1 d2 d3 d4 d5 d6 d7
     try simp only[Exit.then]
     rw[←hqq];refine bodyPost_ret (by simp[results,Tryz.results53,go_sem,d0,d1,d2,d3,d4,d5,d6,d7];try rfl) rfl ?_;refine⟨LN,fun h=>absurd rfl h,(fun _ h=>by cases h),fun _ _ h=>absurd rfl h,fun _ _ _ h=>absurd rfl h,fun _ _ _ _=>rfl⟩
    ·have ex2:(((e2:Nat):Int) != 0)=true:=bne_iff_ne.2 (by omega);have HX:=jH he2;clear he2;go_wp2_with fail;obtain⟨wf,hwf⟩:∃wf,wf=((((((((w8.setCell ⟨g4,0,none⟩ (.int .i64 0)).setCell ⟨g4,1,none⟩ (.string ⟨#[]⟩)).setCell ⟨g4,2,none⟩ (.int .i64 0)).setCell ⟨g4,3,none⟩ (.int .i64 0)).setCell ⟨g5,0,none⟩ (.int .i64 0)).setCell ⟨g5,1,none⟩ (.string ⟨#[]⟩)).setCell ⟨g5,2,none⟩ (.int .i64 0)).setCell ⟨g5,3,none⟩ (.int .i64 0)):=⟨_,rfl⟩;rw[←hwf];obtain⟨L4,L5,LN⟩:=zby Yw8.out Xw8.out Nw8.out G4.out G5.out G45.out _ _ _ _ _ _ _ _ hwf;clear hwf;have d0:=L4.cell 0;have d1:=L4.cell 1;have d2:=L4.cell 2;have d3:=L4.cell 3
     have d4:=L5.cell 0;have d5:=L5.cell 1;have d6:=L5.cell 2;have d7:=L5.cell 3;simp at d0 d1 d2 d3 d4 d5 d6 d7
     try simp only[Exit.then]
     rw[←hqq];refine bodyPost_ret (by simp[results,Tryz.results53,go_sem,d0,d1,d2,d3,d4,d5,d6,d7];try rfl) rfl ?_;refine⟨LN,fun h=>absurd rfl h,(fun _ h=>by cases h),fun _ _ h=>absurd rfl h,fun _ _ _ _=>rfl,fun _ _ _ h=>absurd h HX.out⟩
   ·have ex1:(((e1:Nat):Int) != 0)=true:=bne_iff_ne.2 (by omega);have HX:=jH he1;clear he1 F2;go_wp2_with fail;obtain⟨wf,hwf⟩:∃wf,wf=((((((((w6.setCell ⟨g4,0,none⟩ (.int .i64 0)).setCell ⟨g4,1,none⟩ (.string ⟨#[]⟩)).setCell ⟨g4,2,none⟩ (.int .i64 0)).setCell ⟨g4,3,none⟩ (.int .i64 0)).setCell ⟨g5,0,none⟩ (.int .i64 0)).setCell ⟨g5,1,none⟩ (.string ⟨#[]⟩)).setCell ⟨g5,2,none⟩ (.int .i64 0)).setCell ⟨g5,3,none⟩ (.int .i64 0)):=⟨_,rfl⟩;rw[←hwf];obtain⟨L4,L5,LN⟩:=zby Xw6.out Yw6.out Nw6.out G4.out G5.out G45.out _ _ _ _ _ _ _ _ hwf;clear hwf;have d0:=L4.cell 0;have d1:=L4.cell 1;have d2:=L4.cell 2
    have d3:=L4.cell 3;have d4:=L5.cell 0;have d5:=L5.cell 1;have d6:=L5.cell 2;have d7:=L5.cell 3;simp at d0 d1 d2 d3 d4 d5 d6 d7
    try simp only[Exit.then]
    rw[←hqq];refine bodyPost_ret (by simp[results,Tryz.results53,go_sem,d0,d1,d2,d3,d4,d5,d6,d7];try rfl) rfl ?_;refine⟨LN,fun h=>absurd rfl h,(fun _ h=>by cases h),fun _ _ _=>rfl,fun _ _ h=>absurd h HX.out,fun _ _ h=>absurd h HX.out⟩
 ·have ex1:(((x1:Nat):Int) != 0)=true:=bne_iff_ne.2 (by omega);have HX:=jH hx1;clear P1 CT P2 HB2 F1 F2 c0 c1 c2 hx1;go_wp2_with fail;obtain⟨wf,hwf⟩:∃wf,wf=((((((((w2.setCell ⟨g4,0,none⟩ (.int .i64 0)).setCell ⟨g4,1,none⟩ (.string ⟨#[]⟩)).setCell ⟨g4,2,none⟩ (.int .i64 0)).setCell ⟨g4,3,none⟩ (.int .i64 0)).setCell ⟨g5,0,none⟩ (.int .i64 0)).setCell ⟨g5,1,none⟩ (.string ⟨#[]⟩)).setCell ⟨g5,2,none⟩ (.int .i64 0)).setCell ⟨g5,3,none⟩ (.int .i64 0)):=⟨_,rfl⟩;rw[←hwf];obtain⟨L4,L5,LN⟩:=zby A4.out A5.out N2.out G4.out G5.out G45.out _ _ _ _ _ _ _ _ hwf;clear hwf;have d0:=L4.cell 0;have d1:=L4.cell 1
  have d2:=L4.cell 2;have d3:=L4.cell 3;have d4:=L5.cell 0;have d5:=L5.cell 1;have d6:=L5.cell 2;have d7:=L5.cell 3;simp at d0 d1 d2 d3 d4 d5 d6 d7
  try simp only[Exit.then]
  rw[←hqq];refine bodyPost_ret (by simp[results,Tryz.results53,go_sem,d0,d1,d2,d3,d4,d5,d6,d7];try rfl) rfl ?_;refine⟨LN,fun _=>rfl,fun h=>absurd h HX.out,fun h=>absurd h HX.out,fun h=>absurd h HX.out,fun h=>absurd h HX.out⟩
end
end Go.Proofs.YtjjamoemheljdaaGreat
