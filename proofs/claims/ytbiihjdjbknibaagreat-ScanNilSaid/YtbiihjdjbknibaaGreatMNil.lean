/-
  ScanNil: of no chip, a zero one, and a dead one, all is refused; for every block, era and flag.
-/
import Derived.Test.YtbiihjdjbknibaaGreatC48
namespace Go.Proofs.YtbiihjdjbknibaaGreat.scanNil
set_option linter.unusedSimpArgs false
set_option linter.unusedVariables false
open Go.ChangeShapes Go.WideShapes Go.ChangeAt Go.RowKit
theorem own:ownKnob Tryz.prog.godebug=none:=by kernel_rfl
theorem laidOut:laidOutB Tryz.prog=true:=by kernel_rfl
def scT:CSt:=hitsS scL [⟨0,false,[]⟩]
def scD:CSt:=erasS scT 0
theorem scT_e:hitsE [⟨0,false,[]⟩]=0:=by decide +kernel
theorem scT_s:hitsS scL [⟨0,false,[]⟩]=scT:=rfl
theorem scT_d:scT.deeds < 4611686018427387904:=by decide +kernel
theorem scD_e:erasE scT 0=10:=by decide +kernel
theorem scD_d:scD.dead=true:=by decide +kernel
theorem scD_r (b:Int):readE scD b 0=10:=by unfold readE refE;rw[if_pos scD_d]
set_option maxRecDepth 100000 in
set_option maxHeartbeats 3200000 in
theorem walk (b r:Int) (z:Bool) (w:World) (_:-9223372036854775808≤b∧b≤9223372036854775807):
  Calls Tryz.prog 5 #[.int .i64 b,.int .u32 r,.bool z] w (True1 w):=by
 cases z
 ·have N0:Hid (NoneAt w (.pointer none)):=NoneAt.nil w;have K0:Hid (New w w):=kR;go_enter Tryz.func5,Tryz.ntmps5;go_wp2_with fail;refine (Blocks_no _ r 1 _ (noBk_none _ r _ N0) rfl).mono ?_;rintro e w1 ⟨rfl,k1⟩;have N1:=jH (N0.out.new k1);have K1:=jH (K0.out.new k1);clear k1 N0 K0;go_wp2_with fail;refine (Facts_no _ r 1 _ (noBk_none _ r _ N1) rfl).mono ?_;rintro e w2 ⟨rfl,k2⟩;have N2:=jH (N1.out.new k2);have K2:=jH (K1.out.new k2);clear k2 N1 K1;go_wp2_with fail;refine (Pages_none _ b _ N2).mono ?_;rintro e w3 ⟨rfl,rfl⟩;clear N2;go_wp2_with fail;refine (chipNil_any _).mono ?_;rintro e w4 ⟨g,Q,rfl,C4,HQ4,k4⟩
  have K4:=jH (K2.out.new k4.out)
  have HQ:Hid (∀b,Q b→w.heap.size≤b):=fun b hb=>Nat.le_trans K2.out.size (HQ4.out b hb)
  obtain⟨w5,hw5⟩:∃w5,w5=w4.alloc (.cells #[.int .i64 0,.bool false,.slice none 0 0] 59):=⟨_,rfl⟩
  have n5:New w4 w5:=by rw[hw5];exact kR.alloc _
  have HA5:Hid (HitsA w5 (some ⟨w4.heap.size,0,none⟩) 1 [⟨0,false,[]⟩]):=by rw[hw5];exact hits_one w4 _ false none 0 0 [] 0 (Bts.nil _ _) (fun _=>⟨rfl,rfl⟩) (Nat.le_refl _) (by omega) ⟨by omega,by omega⟩ rfl
  have C5:=jH (C4.out.new n5);have K5:=jH (K4.out.new n5);have HW5:=jH hw5;clear hw5 n5 k4 C4 K4 K2 HQ4;go_wp2_with fail;rw[←HW5.out];clear HW5;refine (nHits_k [⟨0,false,[]⟩] K5 C5 HQ HA5 (by intro h;cases h) (by omega) 0 scT scT_e scT_s).mono ?_;rintro e w6 ⟨rfl,⟨Q6,C6,_,HQ6⟩,_,K6⟩;clear C5 K5 HQ HA5;go_wp2_with fail;refine (nErase_k (b:=0) K6 C6 HQ6 scT_d 10 scD scD_e rfl).mono ?_;rintro e w7 ⟨rfl,C7,_,K7⟩;clear C6 K6 HQ6;go_wp2_with fail;refine (Blocks_no _ r 10 _ (noBk_dead _ g scD r _ C7.out scD_d) rfl).mono ?_;rintro e w8 ⟨rfl,k8⟩;have C8:=jH (C7.out.new k8);have K8:=jH (K7.out.new k8);clear k8 C7 K7
  go_wp2_with fail;refine (Facts_no _ r 10 _ (noBk_dead _ g scD r _ C8.out scD_d) rfl).mono ?_;rintro e w9 ⟨rfl,k9⟩;have C9:=jH (C8.out.new k9);have K9:=jH (K8.out.new k9);clear k9 C8 K8;go_wp2_with fail;refine (Pages_no _ g scD b _ C9.out (by rw[scD_r];rfl)).mono ?_;rintro e w10 ⟨rfl,k10⟩;have K10:=jH (K9.out.new k10);rw[scD_r];clear k10 C9 K9;go_wp2_with fail;refine (works12_any _).mono ?_;rintro e w11 ⟨rfl,k11⟩;have K11:=jH (K10.out.new k11);clear k11 K10;go_wp2;go_ret;exact⟨rfl,K11.out⟩
 ·obtain⟨zs,hz⟩:∃zs:Array Value,zs=#[.int .i64 0,.int .i64 0,.int .i64 0,.int .i64 0,.slice none 0 0,.slice none 0 0,.bool false,.int .i64 0,.nilFunc]:=⟨_,rfl⟩;have N0:Hid (NoneAt (w.alloc (.cells zs 56)) (.pointer (some ⟨w.heap.size,0,none⟩))):=NoneAt.zero _ _ (by rw[(Blk.made w 56 zs).cell,hz];rfl);have K0:Hid (New w (w.alloc (.cells zs 56))):=kR.alloc _;subst hz;go_enter Tryz.func5,Tryz.ntmps5;go_wp2_with fail;refine (Blocks_no _ r 1 _ (noBk_none _ r _ N0) rfl).mono ?_;rintro e w1 ⟨rfl,k1⟩;have N1:=jH (N0.out.new k1);have K1:=jH (K0.out.new k1);clear k1 N0 K0;go_wp2_with fail;refine (Facts_no _ r 1 _ (noBk_none _ r _ N1) rfl).mono ?_
  rintro e w2 ⟨rfl,k2⟩;have N2:=jH (N1.out.new k2);have K2:=jH (K1.out.new k2);clear k2 N1 K1;go_wp2_with fail;refine (Pages_none _ b _ N2).mono ?_;rintro e w3 ⟨rfl,rfl⟩;clear N2;go_wp2_with fail;refine (chipNil_any _).mono ?_;rintro e w4 ⟨g,Q,rfl,C4,HQ4,k4⟩;have K4:=jH (K2.out.new k4.out)
  have HQ:Hid (∀b,Q b→w.heap.size≤b):=fun b hb=>Nat.le_trans K2.out.size (HQ4.out b hb)
  obtain⟨w5,hw5⟩:∃w5,w5=w4.alloc (.cells #[.int .i64 0,.bool false,.slice none 0 0] 59):=⟨_,rfl⟩
  have n5:New w4 w5:=by rw[hw5];exact kR.alloc _
  have HA5:Hid (HitsA w5 (some ⟨w4.heap.size,0,none⟩) 1 [⟨0,false,[]⟩]):=by rw[hw5];exact hits_one w4 _ false none 0 0 [] 0 (Bts.nil _ _) (fun _=>⟨rfl,rfl⟩) (Nat.le_refl _) (by omega) ⟨by omega,by omega⟩ rfl
  have C5:=jH (C4.out.new n5);have K5:=jH (K4.out.new n5);have HW5:=jH hw5;clear hw5 n5 k4 C4 K4 K2 HQ4;go_wp2_with fail;rw[←HW5.out];clear HW5;refine (nHits_k [⟨0,false,[]⟩] K5 C5 HQ HA5 (by intro h;cases h) (by omega) 0 scT scT_e scT_s).mono ?_;rintro e w6 ⟨rfl,⟨Q6,C6,_,HQ6⟩,_,K6⟩;clear C5 K5 HQ HA5;go_wp2_with fail;refine (nErase_k (b:=0) K6 C6 HQ6 scT_d 10 scD scD_e rfl).mono ?_;rintro e w7 ⟨rfl,C7,_,K7⟩;clear C6 K6 HQ6;go_wp2_with fail;refine (Blocks_no _ r 10 _ (noBk_dead _ g scD r _ C7.out scD_d) rfl).mono ?_;rintro e w8 ⟨rfl,k8⟩;have C8:=jH (C7.out.new k8);have K8:=jH (K7.out.new k8);clear k8 C7 K7
  go_wp2_with fail;refine (Facts_no _ r 10 _ (noBk_dead _ g scD r _ C8.out scD_d) rfl).mono ?_;rintro e w9 ⟨rfl,k9⟩;have C9:=jH (C8.out.new k9);have K9:=jH (K8.out.new k9);clear k9 C8 K8;go_wp2_with fail;refine (Pages_no _ g scD b _ C9.out (by rw[scD_r];rfl)).mono ?_;rintro e w10 ⟨rfl,k10⟩;have K10:=jH (K9.out.new k10);rw[scD_r];clear k10 C9 K9;go_wp2_with fail;refine (works12_any _).mono ?_;rintro e w11 ⟨rfl,k11⟩;have K11:=jH (K10.out.new k11);clear k11 K10;go_wp2;go_ret;exact⟨rfl,K11.out⟩
set_option maxRecDepth 100000 in
theorem lifted (os:Os) (started:os.Started) (H:Type) (enc:TypeId×Value→H):
  ReturnsInHanded {} Tryz.checked os 5 .any (Rows.scanNilSpec.pre6 enc Tryz.prog Tryz.f5 Rows.scanNilRow.domain false) (Rows.scanNilSpec.post enc Tryz.prog Tryz.f5 false true false false):=by
 refine lift_new (C:=Tryz.checked) (s:=Rows.scanNilSpec) (tb:=4) own started (by kernel_rfl) Tryz.func5
  (ChangeSpec.witness6 (enc:=enc) (C:=Tryz.checked) false ⟨#[],#[.int .i64 0,.int .u32 0,.bool false],[]⟩ 8 (by kernel_rfl) (by kernel_rfl) (by kernel_rfl) (by kernel_rfl))
  rfl (by kernel_rfl) Tryz.underlying4 ?_ laidOut (of_decide_eq_true (by kernel_rfl)) ?_
 ·intro ds hd
  match ds,hd with
  | [d0,d1,d2],_=>exact⟨rfl,rfl,rfl⟩
 ·intro W base args ds hA;have hA:Args enc Tryz.prog W base Tryz.f5.params.toList args.toList ds:=hA;rw[Tryz.params5] at hA;obtain⟨v0,vs0,d0,ds0,p0,hargs,rfl,a0,hA⟩:=hA.cons_;obtain⟨v1,vs1,d1,ds1,p1,rfl,rfl,a1,hA⟩:=hA.cons_;obtain⟨v2,vs2,d2,ds2,p2,rfl,rfl,a2,hA⟩:=hA.cons_;obtain⟨rfl,rfl⟩:=hA.nil_
  obtain rfl:args=#[v0,v1,v2]:=by cases args;simp_all
  obtain⟨x0,rfl,w0⟩:=a0.int_ Tryz.underlying3;obtain⟨y1,rfl,_⟩:=a1.int_ Tryz.underlying29;obtain⟨x2,rfl⟩:=a2.bool_ Tryz.underlying4;exact walk x0 y1 x2 W (i64_bounds w0)
theorem over:Rows.scanNilRow.holds Tryz.pinned (OpenSpec.ofChange Rows.scanNilSpec):=
 OpenClaim.holds_of_wide 5 Tryz.f5 rfl rfl rfl rfl rfl rfl rfl ⟨rfl,rfl,rfl,rfl,rfl⟩ rfl rfl rfl rfl rfl (by kernel_rfl) Tryz.func5 (by kernel_rfl)
  (of_decide_eq_true (by kernel_rfl)) (by unfold Func.isWrapper;first|(rw[if_pos (by decide +kernel)];kernel_rfl)|(rw[if_neg (by decide +kernel)];exact⟨rfl,rfl⟩))
  (fun os started H enc _=>lifted os started H enc)
theorem proved:Rows.ScanNilSaid:=over
end Go.Proofs.YtbiihjdjbknibaaGreat.scanNil
