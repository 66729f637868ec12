/-
  Layer 7: contracts (Mz).
-/
import Derived.Test.YtbiihjdjbknibaaGreatC36
namespace Go.Proofs.YtbiihjdjbknibaaGreat
set_option maxRecDepth 100000
set_option maxHeartbeats 8000000
set_option linter.unusedSimpArgs false
set_option linter.unusedVariables false
section
set_option maxRecDepth 100000
open Go.ChangeShapes Go.WideShapes Go.ChangeAt Go.RowKit
def StbP (w:World) (g:Nat) (sp:List Value) (O:List CE) (e:Ending) (w':World):Prop:=e=.returned (.tuple #[])∧∃M,SrtOf O M∧Blk w' g 105 (ces M++sp)∧Kept (·=g) w w'
theorem stable_any (g n c:Nat) (sp:List Value) (O:List CE) (w:World) (hb:Blk w g 105 (ces O++sp)) (hl:O.length=n) (hn:n≤140737488351232):
  Calls Tryz.prog 113 #[.slice (some ⟨g,0,none⟩) n c,.int .i64 (n:Nat),.func (.func 94) #[] #[]] w (StbP w g sp O):=by
 have HB:=jH hb;have HL:=jH hl;clear hb hl;go_enter Tryz.func113,Tryz.ntmps113;go_wp2_with fail
 go_loopw [7,8] (fun ta tb wr=>∃(a b:Nat) (L:List CE),a≤n∧b≤a+20∧a+20≤b∧ta=.int .i64 a∧tb=.int .i64 b∧Hid (SB1 a O L)∧Hid (Blk wr g 105 (ces L++sp))∧Hid (Kept (·=g) w wr)) (fun _ tb _=>n+20 - (intOf tb).toNat)
 case atStart=>exact⟨0,20,O,Nat.zero_le _,Nat.le_refl _,Nat.le_refl _,rfl,rfl,SB1.start O,HB,kR⟩
 case round=>
  obtain⟨a,b,L,ha,hb1,hb2,rfl,rfl,VS,VB,VK⟩:=hrel
  by_cases hlt:b≤n
  ·obtain⟨P,U,S,eL,lP,lU,hst⟩:=VS.out.step (by rw[HL.out];omega);have CI:=jH (insC_any g n c a b P U S sp wr (by rw[←eL];exact VB.out) lP (by omega) hlt hn);have HST:=jH hst;clear eL lP lU hst;go_wp2_with fail;refine CI.out.mono ?_;rintro e w2 ⟨rfl,M,q1,q2,q3,q4,q5⟩
   have HS2:Hid (SB1 b O (P++(M++S))):=by
    have:=HST.out M ⟨q1,q2,q3⟩
    rw[show a+20=b by omega] at this;exact this
   have HB2:=jH q4
   have HK2:Hid (Kept (·=g) w w2):=VK.out.trans q5 fun _ _ h=>h
   clear q1 q2 q3 q4 q5 CI HST VS VB VK;go_wp2;go_roundw
   case rel=>exact⟨b,b+20,_,hlt,Nat.le_refl _,Nat.le_refl _,rfl,by go_num,HS2,HB2,HK2⟩
   case measure=>simp[intOf];omega
  ·obtain⟨P,U,eL,lP,lU,hst⟩:=VS.out.last (by rw[HL.out];omega);have CI:=jH (insC_any g n c a n P U [] sp wr (by rw[←eL];exact VB.out) lP (by rw[lU];exact HL.out) (Nat.le_refl _) hn);have HST:=jH hst;clear eL lP lU hst;go_wp2_with fail;refine CI.out.mono ?_;rintro e w2 ⟨rfl,M,q1,q2,q3,q4,q5⟩;have HS2:=jH (HST.out M ⟨q1,q2,q3⟩);have HB2:=jH q4
   have HK2:Hid (Kept (·=g) w w2):=VK.out.trans q5 fun _ _ h=>h
   clear q1 q2 q3 q4 q5 CI HST VS VB VK ha hb1 hb2 hlt;go_wp2_with fail
   go_loopw [6] (fun ts wr=>∃(B:Nat) (L:List CE),20≤B∧B≤2*n+20∧ts=.int .i64 B∧Hid (SBT B O L)∧Hid (Blk wr g 105 (ces L++sp))∧Hid (Kept (·=g) w wr)) (fun ts _=>n - (intOf ts).toNat)
   case atStart=>exact⟨20,_,Nat.le_refl _,by omega,rfl,HS2,HB2,HK2⟩
   case round=>
    obtain⟨B,L,hB1,hB2,rfl,WS,WB,WK⟩:=hrel;clear HS2 HB2 HK2
    by_cases hlt:B < n
    ·have S0:=jH WS.out.start;go_wp2_with fail
     go_loopw [7,8] (fun ta tb wr=>∃(a b:Nat) (L:List CE),a≤n∧b≤a+2*B∧a+2*B≤b∧ta=.int .i64 a∧tb=.int .i64 b∧Hid (SB2 B a O L)∧Hid (Blk wr g 105 (ces L++sp))∧Hid (Kept (·=g) w wr)) (fun _ tb _=>n+2*B - (intOf tb).toNat)
     case atStart=>exact⟨0,2*B,L,Nat.zero_le _,by omega,by omega,rfl,by go_num,S0,WB,WK⟩
     case round=>
      obtain⟨a,b,L',ha,hb1,hb2,rfl,rfl,VS,VB,VK⟩:=hrel;clear S0 WS WB WK;obtain⟨m,hm⟩:∃m:Nat,a+B=m:=⟨_,rfl⟩
      have s1:(a:Int)+(B:Int)=(m:Int):=by omega
      by_cases hlt2:b≤n
      ·obtain⟨P,U,V,S,eL,lP,lU,lV,oU,oV,hst⟩:=VS.out.step (by rw[HL.out];omega);have CI:=jH (symM_any g n c sp hn b a m b P U V S wr (by omega) (by rw[←eL];exact VB.out) lP (by omega) (by omega) (by omega) (by omega) oU oV hlt2);have HST:=jH hst;clear eL lP lU lV oU oV hst hm;go_wp2_with fail;refine CI.out.mono ?_;rintro e w2 ⟨rfl,M,q1,q4,q5⟩
       have HS2:Hid (SB2 B b O (P++(M++S))):=by
        have:=HST.out M q1
        rw[show a+2*B=b by omega] at this;exact this
       have HB2:=jH q4
       have HK2:Hid (Kept (·=g) w w2):=VK.out.trans q5 fun _ _ h=>h
       clear q1 q4 q5 CI HST VS VB VK;go_wp2;go_roundw
       case rel=>exact⟨b,b+2*B,_,hlt2,Nat.le_refl _,Nat.le_refl _,rfl,by go_num,HS2,HB2,HK2⟩
       case measure=>simp[intOf];omega
      ·by_cases hmn:m < n
       ·obtain⟨P,U,V,eL,lP,lU,lV,oU,oV,hst⟩:=VS.out.last (by rw[HL.out];omega) (by rw[HL.out];omega);have CI:=jH (symM_any g n c sp hn n a m n P U V [] wr (by omega) (by rw[←eL];exact VB.out) lP (by omega) (by rw[HL.out] at lV;omega) (by omega) hmn oU oV (Nat.le_refl _));have HST:=jH hst;clear eL lP lU lV oU oV hst hm;go_wp2_with fail;refine CI.out.mono ?_;rintro e w2 ⟨rfl,M,q1,q4,q5⟩;have HS2:=jH (HST.out M q1);have HB2:=jH q4
        have HK2:Hid (Kept (·=g) w w2):=VK.out.trans q5 fun _ _ h=>h
        clear q1 q4 q5 CI HST VS VB VK;go_wp2;go_roundw
        case rel=>exact⟨2*B,_,by omega,by omega,by go_num,HS2,HB2,HK2⟩
        case measure=>simp[intOf];omega
       ·have HS2:=jH (VS.out.rest (by rw[HL.out];omega) (by rw[HL.out];omega));clear VS hm;go_wp2;go_roundw
        case rel=>exact⟨2*B,_,by omega,by omega,by go_num,HS2,VB,VK⟩
        case measure=>simp[intOf];omega
    ·have E9:Hid (StbP w g sp O (.returned (.tuple #[])) wr):=⟨rfl,_,WS.out.all (by rw[HL.out];omega),WB.out,WK.out⟩;clear WS WB WK;go_wp2
     go_end0
     exact E9.out
theorem SortP.of_stb {w w':World} {B g n c:Nat} {sp:List Value} {es:List CE} {e:Ending} (hl:es.length=n) (hc:n≤c∧c≤maxLen) (hB:B≤g) (hsp:(ces es).length+sp.length=c*6) (h:StbP w g sp es e w'):SortP w B (some ⟨g,0,none⟩) n c es e w':=by
 obtain⟨he,M,h1,h2,h3⟩:=h;refine⟨he,M,h1.1.trans hl,h1.2.1,h1.2.2,⟨?_,hc.1,hc.2,.inr ⟨g,sp,rfl,hB,h2,?_⟩⟩,h3.mono fun k _ hk=>?_⟩
 ·rw[ces_len,h1.1,hl]
 ·rw[ces_len] at hsp ⊢;rw[h1.1];exact hsp
 ·subst hk;exact⟨_,rfl,rfl⟩
theorem sort_all {n:Nat} (hn:n≤140737488351232):SortC n:=by
 by_cases h1:n≤1
 ·exact sort_one h1
 intro B A c es w hl ho _;obtain⟨h2,h3,h4,h5⟩:=ho
 rcases h5 with ⟨_,h5⟩|⟨g,sp,rfl,hB,hblk,hsp⟩
 ·omega
 have CI:=jH ((stable_any g n c sp es w hblk hl hn).mono fun e w' h=>SortP.of_stb hl ⟨h3,h4⟩ hB hsp h);clear hl hblk hsp h2 h3 h4 hB;go_enter Tryz.func93,Tryz.ntmps93;go_wp2_with fail;refine CI.out.mono ?_;intro e w2 h;have h0:=h.1;subst h0;have H:=jH h;clear h CI;go_wp2
 go_end0
 exact H.out
end
end Go.Proofs.YtbiihjdjbknibaaGreat
