/-
  Layer 7: contracts (Gm Gn Go).
-/
import Derived.Test.YtbiihjdjbknibaaGreatC16
namespace Go.Proofs.YtbiihjdjbknibaaGreat
set_option maxRecDepth 100000
set_option maxHeartbeats 8000000
set_option linter.unusedSimpArgs false
set_option linter.unusedVariables false
section
set_option maxRecDepth 100000
open Go.ChangeShapes Go.WideShapes Go.ChangeAt Go.RowKit
theorem row_cell {w:World} {gt i j:Nat} {l:List TK} {junk:List Value} {t:TK} {v:Value} (h:Blk w gt 90 (tRow l junk)) (ht:l[i]?=some t) (hj:j < 5) (hv:t.cells[j]?=some v):w.cell? ⟨gt,i*5+j,none⟩=some v:=by
 rw[h.cell];exact tRow_get _ _ _ _ _ _ ht hj hv
theorem row_put {w w':World} {gt i:Nat} {l:List TK} {junk:List Value} {b:TK} (h:Blk w gt 90 (tRow l junk)) (hi:i < l.length)
  (hw:w'=((((w.setCell ⟨gt,i*5,none⟩ (.int .i64 (b.b:Nat))).setCell ⟨gt,i*5+1,none⟩ (.int .u8 (b.k:Nat))).setCell ⟨gt,i*5+2,none⟩ (.int .u32 (b.e:Nat))).setCell ⟨gt,i*5+3,none⟩ (.int .u64 (b.s:Nat))).setCell ⟨gt,i*5+4,none⟩ (.bool b.bad)):
  Blk w' gt 90 (tRow (l.set i b) junk)∧Kept (·=gt) w w':=by
 subst hw;refine⟨?_,((((Kept.set1 w gt _ _).setCell (p:=⟨gt,_,none⟩) (fun _=>rfl) _).setCell (p:=⟨gt,_,none⟩) (fun _=>rfl) _).setCell (p:=⟨gt,_,none⟩) (fun _=>rfl) _).setCell (p:=⟨gt,_,none⟩) (fun _=>rfl) _⟩
 have:=((((h.put (i*5) (.int .i64 (b.b:Nat))).put (i*5+1) (.int .u8 (b.k:Nat))).put (i*5+2) (.int .u32 (b.e:Nat))).put (i*5+3) (.int .u64 (b.s:Nat))).put (i*5+4) (.bool b.bad)
 rw[tRow_set _ l b i hi] at this;exact this
def PSortP (w:World) (gt:Nat) (l:List TK) (junk:List Value) (e:Ending) (w':World):Prop:=e=.returned (.tuple #[])∧Blk w' gt 90 (tRow l junk)∧Kept (·=gt) w w'
theorem insSort_any (gt n c:Nat) (l:List TK) (junk:List Value) (w:World) (hb:Blk w gt 90 (tRow l junk)) (hl:l.length=n) (hn:n≤64) (_hc:n≤c):
  Calls Tryz.prog 134 #[.slice (some ⟨gt,0,none⟩) n c,.int .i64 0,.int .i64 (n:Nat),.func (.func 88) #[] #[]] w (PSortP w gt (insG l (n - 1)) junk):=by
 have HB:=jH hb;have HL:=jH hl;clear hb hl;go_enter Tryz.func134,Tryz.ntmps134;go_wp2
 go_loopw [8,9] (fun ti _ wr=>∃k:Nat,1≤k∧(k≤n∨k=1)∧ti=.int .i64 k∧Hid (Blk wr gt 90 (tRow (insG l (k - 1)) junk))∧Hid (Kept (·=gt) w wr)) (fun ti _ _=>n - (intOf ti).toNat)
 case atStart=>exact⟨1,Nat.le_refl _,.inr rfl,rfl,HB,kR⟩
 case round=>
  obtain⟨k,hk1,hk2,rfl,VB,VK⟩:=hrel
  by_cases hlt:k < n
  ·have HKK:Hid (insG l k=bub k (insG l (k - 1))):=by
    show _=_
    rw[show k=(k - 1)+1 by omega]
    rfl
   go_wp2_with fail
   go_loopw [9] (fun tj wx=>∃(j:Nat) (l':List TK),j≤k∧tj=.int .i64 j∧Hid (bub j l'=insG l k)∧Hid (l'.length=n)∧Hid (Blk wx gt 90 (tRow l' junk))∧Hid (Kept (·=gt) w wx)) (fun tj _=>(intOf tj).toNat)
   case atStart=>exact⟨k,insG l (k - 1),Nat.le_refl _,rfl,HKK.out.symm,(insG_len l _).trans HL.out,VB,VK⟩
   case round=>
    obtain⟨j,l',hj,rfl,UB,UL,UR,UK⟩:=hrel;clear VB VK
    rcases Nat.eq_zero_or_pos j with h0|h0
    ·subst h0
     have E:Hid (Blk wr gt 90 (tRow (insG l (k+1 - 1)) junk)):=by
      rw[show k+1 - 1=k by omega,←UB.out];exact UR.out
     have UK2:=jH UK.out;clear UB UL UR UK;go_wp2_with fail;go_quiet (fail);have E2:Hid (Blk (wr.drewN nq) gt 90 (tRow (insG l (k+1 - 1)) junk)):=E.out.drewN nq;have UK3:Hid (Kept (·=gt) w (wr.drewN nq)):=UK2.out.drewN nq;go_wp2;go_roundw
     case rel=>exact⟨k+1,by omega,by omega,by go_num,E2,UK3⟩
     case measure=>simp[intOf];omega
    ·obtain⟨m,hm⟩:∃m,m+1=j:=⟨j - 1,by omega⟩;have HM:=jH hm
     have hm1:m+1≤j:=by omega
     have hm2:j≤m+1:=by omega
     clear hm;obtain⟨x,hx⟩:∃x,l'[j]?=some x:=⟨_,List.getElem?_eq_getElem (by rw[UL.out];omega)⟩;obtain⟨y,hy⟩:∃y,l'[m]?=some y:=⟨_,List.getElem?_eq_getElem (by rw[UL.out];omega)⟩;have HXY:=jH (And.intro hx hy)
     have SA:Hid (∀wx,New wr wx→wx.cell? ⟨gt,j*5,none⟩=some (.int .i64 (x.b:Nat))∧wx.cell? ⟨gt,j*5+1,none⟩=some (.int .u8 (x.k:Nat))∧wx.cell? ⟨gt,j*5+2,none⟩=some (.int .u32 (x.e:Nat))∧wx.cell? ⟨gt,j*5+3,none⟩=some (.int .u64 (x.s:Nat))∧wx.cell? ⟨gt,j*5+4,none⟩=some (.bool x.bad)∧wx.cell? ⟨gt,m*5,none⟩=some (.int .i64 (y.b:Nat))∧wx.cell? ⟨gt,m*5+1,none⟩=some (.int .u8 (y.k:Nat))∧wx.cell? ⟨gt,m*5+2,none⟩=some (.int .u32 (y.e:Nat))∧wx.cell? ⟨gt,m*5+3,none⟩=some (.int .u64 (y.s:Nat))∧wx.cell? ⟨gt,m*5+4,none⟩=some (.bool y.bad)):=fun wx h1=>by
      have q:=UR.out.new h1;exact⟨row_cell (j:=0) q hx (by omega) rfl,row_cell (j:=1) q hx (by omega) rfl,row_cell (j:=2) q hx (by omega) rfl,row_cell (j:=3) q hx (by omega) rfl,row_cell (j:=4) q hx (by omega) rfl,row_cell (j:=0) q hy (by omega) rfl,row_cell (j:=1) q hy (by omega) rfl,row_cell (j:=2) q hy (by omega) rfl,row_cell (j:=3) q hy (by omega) rfl,row_cell (j:=4) q hy (by omega) rfl⟩
     have D1:Hid (New wr wr.drew):=kR.drew;obtain⟨a0,a1,a2,a3,a4,b0,b1,b2,b3,b4⟩:=SA.out wr kR
     have v1:(j:Int) < (n:Int):=by omega
     have v2:(m:Int) < (n:Int):=by omega
     have v3:(0:Int)≤(j:Int):=by omega
     have v4:(0:Int)≤(m:Int):=by omega
     have v5:IntKind.i64.wrap ((j:Int) - 1)=(m:Int):=by rw[IntKind.wrap_i64];omega
     have v6:decide ((0:Int) < (j:Int))=true:=decide_eq_true (by omega)
     have HSQ:Hid (seqAt l' j=x.s∧seqAt l' m=y.s):=by
      unfold seqAt;rw[hx,hy];exact⟨rfl,rfl⟩
     clear hx hy
     by_cases hlt2:x.s < y.s
     ·have HCV:Hid (cmpV x.s y.s=-1):=by show _=_;unfold cmpV;rw[if_pos hlt2]
      have HBB:Hid (bub m (swp l' m)=insG l k):=by
       show _=_
       rw[←UB.out,←HM.out];simp only[bub];rw[HM.out,HSQ.out.1,HSQ.out.2,if_pos hlt2]
      clear hlt2;go_wp2_with fail
      go_region_held3 (fun wx=>wx.cell? ⟨gt,j*5,none⟩=some (.int .i64 (x.b:Nat))∧wx.cell? ⟨gt,j*5+1,none⟩=some (.int .u8 (x.k:Nat))∧wx.cell? ⟨gt,j*5+2,none⟩=some (.int .u32 (x.e:Nat))∧wx.cell? ⟨gt,j*5+3,none⟩=some (.int .u64 (x.s:Nat))∧wx.cell? ⟨gt,j*5+4,none⟩=some (.bool x.bad)∧wx.cell? ⟨gt,m*5,none⟩=some (.int .i64 (y.b:Nat))∧wx.cell? ⟨gt,m*5+1,none⟩=some (.int .u8 (y.k:Nat))∧wx.cell? ⟨gt,m*5+2,none⟩=some (.int .u32 (y.e:Nat))∧wx.cell? ⟨gt,m*5+3,none⟩=some (.int .u64 (y.s:Nat))∧wx.cell? ⟨gt,m*5+4,none⟩=some (.bool y.bad))
       (first
        | assumption
        | exact SA.out _ kR
        | exact SA.out _ D1.out
        | exact SA.out _ (D1.out.new KC.out)
        | fail)
       (first
        | (go_at_call 88;refine (tkCmp_any x y _).mono ?_;rintro e wC ⟨rfl,h1⟩;have KC:=jH h1;clear h1;rw[HCV.out]))
      all_goals
       have N5:Hid (New wr wC):=D1.out.new KC.out;have URC:=jH (UR.out.new N5.out);have UKC:=jH (UK.out.new N5.out);clear a0 a1 a2 a3 a4 b0 b1 b2 b3 b4;obtain⟨a0,a1,a2,a3,a4,b0,b1,b2,b3,b4⟩:=SA.out wC N5.out;have f0:=URC.out.free (j*5);have f1:=URC.out.free (j*5+1);have f2:=URC.out.free (j*5+2);have f3:=URC.out.free (j*5+3);have f4:=URC.out.free (j*5+4);have g0:=URC.out.free (m*5);have g1:=URC.out.free (m*5+1);have g2:=URC.out.free (m*5+2);have g3:=URC.out.free (m*5+3);have g4:=URC.out.free (m*5+4);clear SA UB UR UK D1 KC N5;go_wp2_with fail
       go_region
       all_goals
        obtain⟨w5,hw5⟩:∃w5,w5=((((wC.setCell ⟨gt,j*5,none⟩ (.int .i64 (y.b:Nat))).setCell ⟨gt,j*5+1,none⟩ (.int .u8 (y.k:Nat))).setCell ⟨gt,j*5+2,none⟩ (.int .u32 (y.e:Nat))).setCell ⟨gt,j*5+3,none⟩ (.int .u64 (y.s:Nat))).setCell ⟨gt,j*5+4,none⟩ (.bool y.bad):=⟨_,rfl⟩;obtain⟨bs5,ks5⟩:=row_put (b:=y) URC.out (by rw[UL.out];omega) hw5;obtain⟨w6,hw6⟩:∃w6,w6=((((w5.setCell ⟨gt,m*5,none⟩ (.int .i64 (x.b:Nat))).setCell ⟨gt,m*5+1,none⟩ (.int .u8 (x.k:Nat))).setCell ⟨gt,m*5+2,none⟩ (.int .u32 (x.e:Nat))).setCell ⟨gt,m*5+3,none⟩ (.int .u64 (x.s:Nat))).setCell ⟨gt,m*5+4,none⟩ (.bool x.bad):=⟨_,rfl⟩;obtain⟨bs6,ks6⟩:=row_put (b:=x) bs5 (by rw[List.length_set,UL.out];omega) hw6
        have ESW:(l'.set j y).set m x=swp l' m:=by
         unfold swp;rw[HM.out,HXY.out.1,HXY.out.2]
        rw[ESW] at bs6;have E6:Hid (Blk w6.drew gt 90 (tRow (swp l' m) junk)):=bs6.drew;have K6:Hid (Kept (·=gt) w w6.drew):=((UKC.out.trans ks5 fun _ _ h=>h).trans ks6 fun _ _ h=>h).drew;have UL2:Hid ((swp l' m).length=n):=(swp_len l' m).trans UL.out
        have HW:Hid (w6=((((((((((wC.setCell ⟨gt,j*5,none⟩ (.int .i64 (y.b:Nat))).setCell ⟨gt,j*5+1,none⟩ (.int .u8 (y.k:Nat))).setCell ⟨gt,j*5+2,none⟩ (.int .u32 (y.e:Nat))).setCell ⟨gt,j*5+3,none⟩ (.int .u64 (y.s:Nat))).setCell ⟨gt,j*5+4,none⟩ (.bool y.bad)).setCell ⟨gt,m*5,none⟩ (.int .i64 (x.b:Nat))).setCell ⟨gt,m*5+1,none⟩ (.int .u8 (x.k:Nat))).setCell ⟨gt,m*5+2,none⟩ (.int .u32 (x.e:Nat))).setCell ⟨gt,m*5+3,none⟩ (.int .u64 (x.s:Nat))).setCell ⟨gt,m*5+4,none⟩ (.bool x.bad))):=by rw[hw5] at hw6;exact hw6
        clear hw5 hw6 bs5 bs6 ks5 ks6 ESW a0 a1 a2 a3 a4 b0 b1 b2 b3 b4 f0 f1 f2 f3 f4 g0 g1 g2 g3 g4;go_wp2;go_roundw
        case rel=>
         refine⟨m,swp l' m,by omega,by first|rfl|go_num,HBB,UL2,?_,?_⟩
         ·have:=E6;rw[HW.out] at this;exact this
         ·have:=K6;rw[HW.out] at this;exact this
        case measure=>simp[intOf];omega
     ·obtain⟨z,hz⟩:∃z,cmpV x.s y.s=z:=⟨_,rfl⟩;have HCV:=jH hz
      have hz0:0≤z:=by
       rw[←hz];unfold cmpV;rw[if_neg hlt2]
       split<;>omega
      have hz1:decide (z < 0)=false:=decide_eq_false (by omega)
      have HBB:Hid (l'=insG l k):=by
       show _=_
       rw[←UB.out,←HM.out];simp only[bub];rw[HM.out,HSQ.out.1,HSQ.out.2,if_neg hlt2]
      clear hlt2 hz;go_wp2_with fail
      go_region_held3 (fun wx=>wx.cell? ⟨gt,j*5,none⟩=some (.int .i64 (x.b:Nat))∧wx.cell? ⟨gt,j*5+1,none⟩=some (.int .u8 (x.k:Nat))∧wx.cell? ⟨gt,j*5+2,none⟩=some (.int .u32 (x.e:Nat))∧wx.cell? ⟨gt,j*5+3,none⟩=some (.int .u64 (x.s:Nat))∧wx.cell? ⟨gt,j*5+4,none⟩=some (.bool x.bad)∧wx.cell? ⟨gt,m*5,none⟩=some (.int .i64 (y.b:Nat))∧wx.cell? ⟨gt,m*5+1,none⟩=some (.int .u8 (y.k:Nat))∧wx.cell? ⟨gt,m*5+2,none⟩=some (.int .u32 (y.e:Nat))∧wx.cell? ⟨gt,m*5+3,none⟩=some (.int .u64 (y.s:Nat))∧wx.cell? ⟨gt,m*5+4,none⟩=some (.bool y.bad))
       (first
        | assumption
        | exact SA.out _ kR
        | exact SA.out _ D1.out
        | exact SA.out _ (D1.out.new KC.out)
        | fail)
       (first
        | (go_at_call 88;refine (tkCmp_any x y _).mono ?_;rintro e wC ⟨rfl,h1⟩;have KC:=jH h1;clear h1;rw[HCV.out]))
      all_goals
       have N5:Hid (New wr wC):=D1.out.new KC.out
       have E2:Hid (Blk wC gt 90 (tRow (insG l (k+1 - 1)) junk)):=by
        rw[show k+1 - 1=k by omega,←HBB.out];exact UR.out.new N5.out
       have UK3:Hid (Kept (·=gt) w wC):=UK.out.new N5.out;clear a0 a1 a2 a3 a4 b0 b1 b2 b3 b4 SA UB UL UR UK;go_wp2;go_roundw
       case rel=>exact⟨k+1,by omega,by omega,by go_num,E2,UK3⟩
       case measure=>simp[intOf];omega
  ·have hkk:k - 1=n - 1:=by omega
   have E:Hid (PSortP w gt (insG l (n - 1)) junk (.returned (.tuple #[])) wr):=⟨rfl,by rw[←hkk];exact VB.out,VK.out⟩;clear hkk;go_wp2
   go_end0
   exact E.out
end
section
set_option maxRecDepth 100000
open Go.ChangeShapes Go.WideShapes Go.ChangeAt Go.RowKit
theorem pstable_any (gt n c:Nat) (l:List TK) (junk:List Value) (w:World) (hb:Blk w gt 90 (tRow l junk)) (hl:l.length=n) (hn:n≤19) (hc:n≤c):
  Calls Tryz.prog 111 #[.slice (some ⟨gt,0,none⟩) n c,.int .i64 (n:Nat),.func (.func 88) #[] #[]] w (PSortP w gt (insG l (n - 1)) junk):=by
 have HB:=jH hb;have HL:=jH hl;have HN:Hid (n≤64∧n≤c):=⟨by omega,hc⟩;have j1:decide ((20:Int)≤(n:Int))=false:=decide_eq_false (by omega);have j2:decide ((20:Int) < (n:Int))=false:=decide_eq_false (by omega);clear hb hl;go_enter Tryz.func111,Tryz.ntmps111;go_wp2_with fail;refine wp_loop_rounds 1 ?_;rw[rounds_succ];go_wp2_with fail;refine (insSort_any gt n c l junk _ HB.out HL.out HN.out.1 HN.out.2).mono ?_;rintro r w2 ⟨rfl,h1,h2⟩;have R:Hid (PSortP w gt (insG l (n - 1)) junk (.returned (.tuple #[])) w2):=⟨rfl,h1,h2⟩;clear h1 h2;go_wp2_with fail;refine wp_loop_rounds 1 ?_;rw[rounds_succ];go_wp2
 go_end0
 exact R.out
theorem sortStable_any (gt n c:Nat) (l:List TK) (junk:List Value) (w:World) (hb:Blk w gt 90 (tRow l junk)) (hl:l.length=n) (hn:n≤19) (hc:n≤c):
  Calls Tryz.prog 87 #[.slice (some ⟨gt,0,none⟩) n c,.func (.func 88) #[] #[]] w (PSortP w gt (insG l (n - 1)) junk):=by
 have HB:=jH hb;have HL:=jH hl;have HN:Hid (n≤19∧n≤c):=⟨hn,hc⟩;clear hb hl;go_enter Tryz.func87,Tryz.ntmps87;go_wp2_with fail;refine (pstable_any gt n c l junk _ HB.out HL.out HN.out.1 HN.out.2).mono ?_;rintro r w2 ⟨rfl,h1,h2⟩;have R:Hid (PSortP w gt (insG l (n - 1)) junk (.returned (.tuple #[])) w2):=⟨rfl,h1,h2⟩;clear h1 h2;go_wp2
 go_end0
 exact R.out
theorem sortStable_nil (w:World):
  Calls Tryz.prog 87 #[.slice none 0 0,.func (.func 88) #[] #[]] w fun e w'=>e=.returned (.tuple #[])∧w=w':=by
 go_enter Tryz.func87,Tryz.ntmps87
 go_wp2_with (first|go_in)
 refine wp_loop_rounds 1 ?_;rw[rounds_succ]
 go_wp2_with (first|go_in)
 refine wp_loop_rounds 1 ?_;rw[rounds_succ]
 go_wp2_with (first|go_in)
 refine wp_loop_rounds 1 ?_;rw[rounds_succ];go_wp2
 go_end0
 exact⟨rfl,rfl⟩
end
section
set_option maxRecDepth 100000
open Go.ChangeShapes Go.WideShapes Go.ChangeAt Go.RowKit
theorem info_taken:(Tryz.prog.info? 90).map (fun i=>(i.zero,i.size,i.bytes))=some (some (.agg #[.int .i64 0,.int .u8 0,.int .u32 0,.int .u64 0,.bool false]),5,32):=by kernel_rfl
theorem step_append_tk {w wb:World} {ops:Array Oper} {o:Oper} {a:Act} {K:Act→World→Prop} {Q:Exit→Act→World→Prop} {E:Prop} (hgd:o.guard=none) (s x:Operand)
  (ho:o.op=.call { callee:=.builtin .append,args:=#[s,x],argTypes:=#[87,87] })
  (lo:Nat) (Ah:Option Addr) (k ch:Nat) (vs:List Value) (hsv:a.eval s=.slice Ah k ch) (hown:OwnV wb 90 5 lo Ah k ch vs) (hk:New wb w)
  (B c':Nat) (us:List Value) (hx:a.eval x=.slice (some ⟨B,0,none⟩) 1 c') (hb:Blk w B 90 us) (hul:us.length=5) (h1:∀u∈us,u.oneCell'=true) (hn:k+1≤65) (hbase:lo≤wb.heap.size)
  (h:∀A2 c2 w',Hid (OwnV w' 90 5 lo A2 (k+1) c2 (vs++us))→Hid (Kept (InRow Ah) wb w')→K (a.put o.dst (.slice A2 (k+1) c2)) w'):
  if Region.wanted o (yielded ops a.tmps)=true then Oper.wp Tryz.prog o a w K Q else E:=by
 obtain⟨i0,hi,hz0,hz1,hz2⟩:=info_parts info_taken
 have hr:RowV w (some ⟨B,0,none⟩) 1 i0.size us:=by
  rw[hz1];exact⟨by rw[hul],fun _=>⟨B,0,rfl,fun j v hj=>by rw[Nat.zero_add,hb.cell];exact hj⟩⟩
 have ho':OwnV w 90 i0.size lo Ah k ch vs:=by rw[hz1];exact hown.new hk
 refine step_append_rowV w hgd s x 87 ho 90 i0 (.agg #[.int .i64 0,.int .u8 0,.int .u32 0,.int .u64 0,.bool false]) Tryz.underlying87 hi hz0 (by rw[hz1];rfl) (by rw[hz1];omega) lo Ah k ch vs hsv ho' (some ⟨B,0,none⟩) 1 c' us hx hr h1 (by rw[hz2];omega) (by omega) (Nat.le_trans hbase hk.size) ?_;intro A2 c2 w' h3 h4 _;refine h A2 c2 w' (by have:=h3.out;rw[hz1] at this;exact this) ?_
 refine (hk.mono (S':=InRow Ah) fun _ _ f=>f.elim).grown h4.out fun q _ hA=>?_
 obtain⟨a,ha,e⟩:=Option.map_eq_some_iff.1 hA;exact⟨a,ha,e⟩
theorem tRow_junk (junk:List Value):∀l:List TK,tRow l junk=tRow l []++junk:=by
 intro l
 induction l with
 | nil=>rfl
 | cons t l ih=>simp only[tRow,List.append_assoc];rw[ih]
theorem tRow_snoc (t:TK):∀l:List TK,tRow (l++[t]) []=tRow l []++t.cells:=by
 intro l
 induction l with
 | nil=>simp[tRow]
 | cons c l ih=>simp only[List.cons_append,tRow,List.append_assoc];rw[ih]
theorem tRow_len (l:List TK):(tRow l []).length=l.length*5:=by
 induction l with
 | nil=>rfl
 | cons c l ih=>simp only[tRow,List.length_append,ih,TK.cells,List.length_cons,List.length_nil];omega
def tkUpto (s:CSt) (p:PSt):Nat→List TK
 | 0=>[]
 | k+1=>tkUpto s p k++(match p.bl[k]? with|some b=>if b.w=1 then [⟨k,b.k,b.e,b.s,badAt s k⟩] else []|none=>[])
theorem tkUpto_len (s:CSt) (p:PSt):∀k,(tkUpto s p k).length≤k:=by
 intro k
 induction k with
 | zero=>exact Nat.le_refl _
 | succ k ih=>
  simp only[tkUpto,List.length_append]
  split
  ·split<;>simp<;>omega
  ·simp;omega
def tknL (s:CSt) (p:PSt):List TK:=insG (tkUpto s p s.nb) ((tkUpto s p s.nb).length - 1)
def TknP (w:World) (l:List TK) (e:Ending) (w':World):Prop:=∃A c,e=.returned (.slice A l.length c)∧OwnV w' 90 5 w.heap.size A l.length c (tRow l [])∧New w w'
theorem pTaken_any (Qc:Nat→Prop) (gp gb g:Nat) (s:CSt) (p:PSt) (w:World) (h:PRep Qc w gp gb g s p) (hn19:s.nb≤19):
  Calls Tryz.prog 56 #[.pointer (some ⟨gp,0,none⟩)] w (TknP w (tknL s p)):=by
 have HP:=jH h;have c1:=h.pool.q1;have hgbl:=h.blks.lt;have H19:=jH hn19;clear h;go_enter Tryz.func56,Tryz.ntmps56;go_wp2_with fail;refine (pNone_no _ _ _ _ _ _ _ HP.out).mono ?_;rintro e w' ⟨rfl,rfl⟩;go_wp2_with fail
 go_loopw [3,4,5,13] (fun ta _ _ tk wr=>∃(k:Nat) (A:Option Addr) (m c:Nat),k≤s.nb∧m≤k∧tk=.int .i64 k∧ta=.slice A m c∧Hid (m=(tkUpto s p k).length)∧Hid (m=0→A=none∧c=0)∧Hid (OwnV wr 90 5 w.heap.size A m c (tRow (tkUpto s p k) []))∧Hid (New w wr)) (fun _ _ _ tk _=>s.nb - (intOf tk).toNat)
 case atStart=>exact⟨0,none,0,0,Nat.zero_le _,Nat.le_refl _,rfl,rfl,rfl,fun _=>⟨rfl,rfl⟩,OwnV.nil _ _ _ _,kR⟩
 case round=>
  obtain⟨k,A,m,c,hk,hm,rfl,rfl,VM,VA,VO,VN⟩:=hrel;clear c1
  by_cases hlt:k < s.nb
  ·have HK:=jH hlt;have PR:=jH (HP.out.new VN.out);obtain⟨b,hb⟩:=HP.out.get hlt;have HB:=jH hb;have d0:wr.cell? ⟨gb,k*4,none⟩=some (.int .u8 (b.w:Nat)):=PR.out.bcell (j:=0) hb (by omega) rfl;have d1:wr.cell? ⟨gb,k*4+1,none⟩=some (.int .u8 (b.k:Nat)):=PR.out.bcell (j:=1) hb (by omega) rfl;have d2:wr.cell? ⟨gb,k*4+2,none⟩=some (.int .u32 (b.e:Nat)):=PR.out.bcell (j:=2) hb (by omega) rfl;have d3:wr.cell? ⟨gb,k*4+3,none⟩=some (.int .u64 (b.s:Nat)):=PR.out.bcell (j:=3) hb (by omega) rfl;have hbw:=(HP.out.okb b (List.mem_of_getElem? hb)).w;clear hb
   by_cases hw1:b.w=1
   ·have hw1:=jH hw1;have hw2:((b.w:Int) == 1)=true:=beq_iff_eq.2 (by have:=hw1.out;omega)
    have ET:Hid (tkUpto s p (k+1)=tkUpto s p k++[⟨k,b.k,b.e,b.s,badAt s k⟩]):=by
     show _=_
     simp only[tkUpto,HB.out];rw[if_pos hw1.out]
    obtain⟨wB,hwB⟩:∃wB,wB=wr.alloc (.cells #[.int .u8 1,.int .u8 (b.k:Nat),.int .u32 (b.e:Nat),.int .u64 (b.s:Nat)] 163):=⟨_,rfl⟩
    have BX:Hid (Blk wB wr.heap.size 163 [.int .u8 1,.int .u8 (b.k:Nat),.int .u32 (b.e:Nat),.int .u64 (b.s:Nat)]):=by rw[hwB];exact Blk.made wr _ _
    have NBX:Hid (New wr wB):=by rw[hwB];exact kR.alloc _
    have HWB:=jH hwB;clear hwB;go_wp2_with fail;rw[←HWB.out];clear HWB d0 d1 d2 d3 hw2;have PB:=jH (PR.out.new NBX.out);have VB:=jH (VO.out.new NBX.out);have VNB:Hid (New w wB):=VN.out.new NBX.out;have LO:Hid (w.heap.size≤wB.heap.size):=VNB.out.size
    have NB:Hid (m+1≤65):=by have:=H19.out;show _≤_;omega
    have e1:=BX.out.q1;have e2:=BX.out.q2;have e3:=BX.out.q3;have hbl:=BX.out.lt;cases hbad:badAt s k
    ·have IV:Hid (isV s p k=1):=by
      show _=_
      unfold isV;rw[hbad];rw[HB.out];exact hw1.out
     have EB:Hid (tRow (tkUpto s p k) []++[.int .i64 (k:Nat),.int .u8 (b.k:Nat),.int .u32 (b.e:Nat),.int .u64 (b.s:Nat),.bool false]=tRow (tkUpto s p (k+1)) []):=by
      show _=_
      rw[ET.out,tRow_snoc,hbad]
      rfl
     have MB:Hid (Blk ((wB.alloc (.cells #[.int .i64 (k:Nat),.int .u8 (b.k:Nat),.int .u32 (b.e:Nat),.int .u64 (b.s:Nat),.bool false] 90)).drew) wB.heap.size 90 [.int .i64 (k:Nat),.int .u8 (b.k:Nat),.int .u32 (b.e:Nat),.int .u64 (b.s:Nat),.bool false]):=Blk.made wB _ _;have KA:Hid (New wB ((wB.alloc (.cells #[.int .i64 (k:Nat),.int .u8 (b.k:Nat),.int .u32 (b.e:Nat),.int .u64 (b.s:Nat),.bool false] 90)).drew)):=(kR.alloc _).drew
     have ONE:Hid (∀u∈[Value.int .i64 (k:Nat),.int .u8 (b.k:Nat),.int .u32 (b.e:Nat),.int .u64 (b.s:Nat),.bool false],u.oneCell'=true):=by intro u hu;simp at hu;rcases hu with rfl|rfl|rfl|rfl|rfl<;>rfl
     clear hbad
     go_region_law (first
      | (with_reducible refine step_append_tk (wb:=wB) (o:=⟨some 31,_,_,_,_,_⟩) rfl (.tmp 21) (.tmp 30) rfl w.heap.size A m c (tRow (tkUpto s p k) []) ?_ VB.out KA.out wB.heap.size 1 [.int .i64 (k:Nat),.int .u8 (b.k:Nat),.int .u32 (b.e:Nat),.int .u64 (b.s:Nat),.bool false] ?_ MB.out rfl ONE.out NB.out LO.out ?_;(next=>go_simp);(next=>go_simp);intro A7 c7 w7 O7 K7)
      | (go_simp;go_at_call 86;refine (pIs_any _ _ _ _ _ _ k _ (by first|exact PB.out|exact PB.out.new (kR.drew)) HK.out).mono ?_;rintro e w' ⟨rfl,rfl⟩;rw[IV.out]))
     all_goals
      have E1:Hid (OwnV w7 90 5 w.heap.size A7 (m+1) c7 (tRow (tkUpto s p (k+1)) [])):=by rw[←EB.out];exact O7.out
      have N7:Hid (New w w7):=new_of_kept VNB.out K7.out fun b' hb'=>by
       obtain⟨a,ha,e⟩:=hb'
       have:=(VB.out.at_ a ha).2
       omega
      have VM2:Hid (m+1=(tkUpto s p (k+1)).length):=by
       show _=_
       rw[ET.out,List.length_append,←VM.out]
       rfl
      have VA2:Hid (m+1=0→A7=none∧c7=0):=fun h=>absurd h (by omega)
      clear e1 e2 e3 hbl PB VB VNB O7 K7 BX NBX MB KA ONE EB ET VO VN VM VA;go_wp2;go_roundw
      case rel=>exact⟨k+1,A7,m+1,c7,by omega,by omega,by go_num,by first|rfl|trivial,VM2,VA2,E1,N7⟩
      case measure=>simp[intOf];omega
    ·have IV:Hid (isV s p k=3):=by
      show _=_
      unfold isV;rw[hbad]
      rfl
     have EB:Hid (tRow (tkUpto s p k) []++[.int .i64 (k:Nat),.int .u8 (b.k:Nat),.int .u32 (b.e:Nat),.int .u64 (b.s:Nat),.bool true]=tRow (tkUpto s p (k+1)) []):=by
      show _=_
      rw[ET.out,tRow_snoc,hbad]
      rfl
     have MB:Hid (Blk ((wB.alloc (.cells #[.int .i64 (k:Nat),.int .u8 (b.k:Nat),.int .u32 (b.e:Nat),.int .u64 (b.s:Nat),.bool true] 90)).drew) wB.heap.size 90 [.int .i64 (k:Nat),.int .u8 (b.k:Nat),.int .u32 (b.e:Nat),.int .u64 (b.s:Nat),.bool true]):=Blk.made wB _ _;have KA:Hid (New wB ((wB.alloc (.cells #[.int .i64 (k:Nat),.int .u8 (b.k:Nat),.int .u32 (b.e:Nat),.int .u64 (b.s:Nat),.bool true] 90)).drew)):=(kR.alloc _).drew
     have ONE:Hid (∀u∈[Value.int .i64 (k:Nat),.int .u8 (b.k:Nat),.int .u32 (b.e:Nat),.int .u64 (b.s:Nat),.bool true],u.oneCell'=true):=by intro u hu;simp at hu;rcases hu with rfl|rfl|rfl|rfl|rfl<;>rfl
     clear hbad
     go_region_law (first
      | (with_reducible refine step_append_tk (wb:=wB) (o:=⟨some 31,_,_,_,_,_⟩) rfl (.tmp 21) (.tmp 30) rfl w.heap.size A m c (tRow (tkUpto s p k) []) ?_ VB.out KA.out wB.heap.size 1 [.int .i64 (k:Nat),.int .u8 (b.k:Nat),.int .u32 (b.e:Nat),.int .u64 (b.s:Nat),.bool true] ?_ MB.out rfl ONE.out NB.out LO.out ?_;(next=>go_simp);(next=>go_simp);intro A7 c7 w7 O7 K7)
      | (go_simp;go_at_call 86;refine (pIs_any _ _ _ _ _ _ k _ (by first|exact PB.out|exact PB.out.new (kR.drew)) HK.out).mono ?_;rintro e w' ⟨rfl,rfl⟩;rw[IV.out]))
     all_goals
      have E1:Hid (OwnV w7 90 5 w.heap.size A7 (m+1) c7 (tRow (tkUpto s p (k+1)) [])):=by rw[←EB.out];exact O7.out
      have N7:Hid (New w w7):=new_of_kept VNB.out K7.out fun b' hb'=>by
       obtain⟨a,ha,e⟩:=hb'
       have:=(VB.out.at_ a ha).2
       omega
      have VM2:Hid (m+1=(tkUpto s p (k+1)).length):=by
       show _=_
       rw[ET.out,List.length_append,←VM.out]
       rfl
      have VA2:Hid (m+1=0→A7=none∧c7=0):=fun h=>absurd h (by omega)
      clear e1 e2 e3 hbl PB VB VNB O7 K7 BX NBX MB KA ONE EB ET VO VN VM VA;go_wp2;go_roundw
      case rel=>exact⟨k+1,A7,m+1,c7,by omega,by omega,by go_num,by first|rfl|trivial,VM2,VA2,E1,N7⟩
      case measure=>simp[intOf];omega
   ·have E:Hid (tkUpto s p (k+1)=tkUpto s p k):=by
     show _=_
     simp only[tkUpto,HB.out];rw[if_neg hw1,List.append_nil]
    have hw2:((b.w:Int) == 1)=false:=beq_eq_false_iff_ne.2 (by omega);have hw3:(b.w == 1)=false:=beq_eq_false_iff_ne.2 hw1
    have VO2:Hid (OwnV (wr.alloc (.cells #[.int .u8 (b.w:Nat),.int .u8 (b.k:Nat),.int .u32 (b.e:Nat),.int .u64 (b.s:Nat)] 163)) 90 5 w.heap.size A m c (tRow (tkUpto s p (k+1)) [])):=by
     rw[E.out];exact VO.out.new (kR.alloc _)
    have VN2:Hid (New w (wr.alloc (.cells #[.int .u8 (b.w:Nat),.int .u8 (b.k:Nat),.int .u32 (b.e:Nat),.int .u64 (b.s:Nat)] 163))):=VN.out.alloc _
    have VM2:Hid (m=(tkUpto s p (k+1)).length):=by show _=_;rw[E.out];exact VM.out
    clear VO VN VM E hw1;go_wp2;go_roundw
    case rel=>exact⟨k+1,A,m,c,by omega,by omega,by go_num,rfl,VM2,VA,VO2,VN2⟩
    case measure=>simp[intOf];omega
  ·obtain rfl:k=s.nb:=by omega
   rcases Nat.eq_zero_or_pos m with h0|h0
   ·obtain⟨hA,hc0⟩:=VA.out h0;subst hA hc0 h0
    have EL:Hid (tknL s p=[]):=by
     show _=_
     unfold tknL;rw[List.eq_nil_of_length_eq_zero VM.out.symm]
     rfl
    have R:Hid (TknP w (tknL s p) (.returned (.slice none 0 0)) wr):=by
     rw[EL.out];exact⟨none,0,rfl,OwnV.nil _ _ _ _,VN.out⟩
    clear VA VM VO;go_wp2_with fail;refine (sortStable_nil _).mono ?_;rintro e w' ⟨rfl,rfl⟩;go_wp2;go_ret;exact R.out
   ·obtain⟨q1,q2,q3,q4⟩:=VO.out
    rcases q4 with ⟨rfl,rfl⟩|⟨gt,junk,rfl,q5,q6,q7⟩
    ·omega
    ·have HBK:Hid (Blk wr gt 90 (tRow (tkUpto s p s.nb) junk)):=by rw[tRow_junk];exact q6
     have HLE:Hid (m≤19∧m≤c):=⟨by have:=H19.out;omega,q2⟩;have HQ:=jH q5;have HJ:Hid ((tRow (tkUpto s p s.nb) []).length+junk.length=c*5∧c≤maxLen):=⟨q7,q3⟩;clear q1 q2 q3 q5 q6 q7 VA VO;go_wp2_with fail;refine (sortStable_any gt m c _ junk _ HBK.out VM.out.symm HLE.out.1 HLE.out.2).mono ?_;rintro e w2 ⟨rfl,h1,h2⟩;have ELN:Hid ((tknL s p).length=m):=(insG_len _ _).trans VM.out.symm
     have R:Hid (TknP w (tknL s p) (.returned (.slice (some ⟨gt,0,none⟩) m c)) w2):=by
      refine⟨some ⟨gt,0,none⟩,c,by rw[ELN.out],?_,new_of_kept VN.out h2 fun b hb=>by subst hb;exact HQ.out⟩
      have e0:tknL s p=insG (tkUpto s p s.nb) (m - 1):=by unfold tknL;rw[←VM.out]
      rw[←e0,tRow_junk] at h1;refine⟨by rw[tRow_len],by rw[ELN.out];exact HLE.out.2,HJ.out.2,.inr ⟨gt,junk,rfl,HQ.out,h1,?_⟩⟩;have h3:=HJ.out.1;rw[tRow_len,←VM.out] at h3;rw[tRow_len,ELN.out];exact h3
     clear h1 h2;go_wp2;go_ret;exact R.out
end
end Go.Proofs.YtbiihjdjbknibaaGreat
