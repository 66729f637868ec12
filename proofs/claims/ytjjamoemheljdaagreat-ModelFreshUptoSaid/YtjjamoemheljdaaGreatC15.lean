/-
  Layer 7: contracts (Ya Yb).
-/
import Derived.Test.YtjjamoemheljdaaGreatC12
import Derived.Laws.IdiomCopy
import Derived.Laws.MakeOwn
import Derived.Lib.AppendZerosOnto
import Derived.Lib.SliceRun
namespace Go.Proofs.YtjjamoemheljdaaGreat
set_option maxRecDepth 100000
set_option maxHeartbeats 8000000
set_option linter.unusedSimpArgs false
set_option linter.unusedVariables false
section
open Go.RowKit
theorem Blk.sets {g:Nat} {t:TypeId}:∀(b' a b c:List Value) (w:World) (o:Nat),Blk w g t (a++b++c)→b'.length=b.length→o=a.length→Blk (w.setCells g o b') g t (a++b'++c)
 | [],a,b,c,w,o,h,hl,_=>by
  obtain rfl:b=[]:=List.eq_nil_of_length_eq_zero (by simpa using hl.symm);exact h
 | v::r,a,[],c,w,o,h,hl,_=>by simp at hl
 | v::r,a,x::b,c,w,o,h,hl,ho=>by
  subst ho;have h1:=h.put a.length v
  have e:(a++x::b++c).set a.length v=(a++[v])++b++c:=by
   rw[List.append_assoc,List.set_append_right _ _ (Nat.le_refl _),Nat.sub_self];simp
  rw[e] at h1;have h2:=Blk.sets r (a++[v]) b c _ (a.length+1) h1 (by simpa using hl) (by simp);rw[World.setCells];simpa using h2
theorem Kept.sets {S:Nat→Prop} {a:World} {g:Nat}:∀(vs:List Value) (o:Nat) (w:World),Kept S a w→(g < a.heap.size→S g)→Kept S a (w.setCells g o vs)
 | [],_,_,h,_=>h
 | v::r,o,w,h,hg=>by
  rw[World.setCells];exact Kept.sets r (o+1) _ (h.setCell (p:=⟨g,o,none⟩) hg v) hg
theorem drew_sets (b:Nat):∀(vs:List Value) (o:Nat) (w:World),(w.setCells b o vs).drew=w.drew.setCells b o vs
 | [],_,_=>rfl
 | v::r,o,w=>by rw[World.setCells,World.setCells,drew_sets b r];rfl
section
variable {P:Program}
theorem zax (w:World) (dT sT ty t:TypeId) (sz b o dLen dCap:Nat) (a:Addr) (sLen sCap:Nat) (cs:List Value)
  (hu:P.underlying dT=some (.slice t)) (hs:(P.info? t).map (·.size)=some sz) (hn:cs.length=Nat.min sLen dLen*sz)
  (hsrc:∀j v,cs[j]?=some v→w.cell? (a.add j)=some v) (hc:∀j,j < cs.length→(w.cell? ⟨b,o+j,none⟩).isSome=true) (hf:∀j,j < cs.length→w.frozen? ⟨b,o+j,none⟩=false) (h1:∀v∈cs,v.oneCell'=true):
  (Builtin.copy_ #[dT,sT] ty #[.slice (some ⟨b,o,none⟩) dLen dCap,.slice (some a) sLen sCap]).run P w=.ok (goInt (Nat.min sLen dLen)) (w.setCells b o cs):=by
 have hl:=run_loadCells_list (P:=P) w a cs hsrc;have hst:=run_storeCells_cells (P:=P) b o cs 0 w (by simpa using hc) (by simpa using hf) h1
 cases hq:P.info? t with
 | none=>simp[hq] at hs
 | some i=>
  have hi:i.size=sz:=by simpa [hq] using hs
  subst hi;rw[hn] at hl;simp[Builtin.copy_,run_underlying hu,Builtin.lenOf,Builtin.firstCells,sizeOf,typeInfo,hq,hl,hst]
theorem zck (w:World) (dT sT ty t:TypeId) (sz:Nat) (d a:Option Addr) (dLen dCap sLen sCap:Nat) (hu:P.underlying dT=some (.slice t)) (hs:(P.info? t).map (·.size)=some sz) (hn:Nat.min sLen dLen=0):
  (Builtin.copy_ #[dT,sT] ty #[.slice d dLen dCap,.slice a sLen sCap]).run P w=.ok (goInt 0) w:=by
 cases hq:P.info? t with
 | none=>simp[hq] at hs
 | some i=>
  have hl:∀(x:Addr),(loadCells x 0).run P w=.ok #[] w:=fun x=>by simpa using run_loadCells_list (P:=P) w x [] (by simp)
  cases d<;>cases a<;>simp[Builtin.copy_,run_underlying hu,Builtin.lenOf,Builtin.firstCells,sizeOf,typeInfo,hq,hn,storeCells,hl]
theorem zbb {w:World} {ops:Array Oper} {rest:List Oper} {o:Oper} {a:Act} {Q:Exit→Act→World→Prop} (hgd:o.guard=none) (d s:Operand) (t t':TypeId)
  (ho:o.op=.call { callee:=.builtin .copy,args:=#[d,s],argTypes:=#[t,t'] }) (v u:Value) (hd:a.eval d=v) (hs:a.eval s=u) {v':Value} {w':World}
  (hr:(Builtin.copy_ #[t,t'] o.type #[v,u]).run P w=.ok v' w') (h:wpList P ops Q rest (a.put o.dst v') w'):wpList P ops Q (o::rest) a w:=by
 refine wpList_plain hgd fun _ hK=>?_
 unfold Oper.wp execOp;simp only[ho,resolve,invoke,builtin,Sem.run_bind,Sem.run_pure,Result.andThen_ok,List.map_toArray,List.map_cons,List.map_nil,hd,hs,hr];exact hK _ _ h
theorem zcn {ops:Array Oper} {o:Oper} {a:Act} {w:World} {K:Act→World→Prop} {Q:Exit→Act→World→Prop} {E:Prop}
  (hg:o.guard=none) (d x:Operand) (dT sT:TypeId) (hop:o.op=Op.call { callee:=Callee.builtin Builtin.copy,args:=#[d,x],argTypes:=#[dT,sT] })
  (v u:Value) (hd:a.eval d=v) (hx:a.eval x=u) {v':Value} {w':World} (hr:(Builtin.copy_ #[dT,sT] o.type #[v,u]).run P w=.ok v' w') (hK:K (a.put o.dst v') w'):
  if Region.wanted o (yielded ops a.tmps)=true then Oper.wp P o a w K Q else E:=by
 have hw:Region.wanted o (yielded ops a.tmps)=true:=by simp[Region.wanted,hg]
 rw[if_pos hw];unfold Oper.wp;simp[execOp,hop,resolve,invoke,builtin,hd,hx,hr,Result.andThen];exact hK
theorem run_clear_el (w:World) (t e ty:TypeId) (z:Value) (ht:P.underlying t=some (.slice e)) (hv:∀w,(zeroValue e).run P w=.ok z w) (b o n c:Nat) (hn:0 < n) (cs:List Value)
  (hz:(Builtin.zeroCells z.cells n).toList=cs) (h1:∀v∈cs,v.oneCell'=true)
  (hc:∀j,j < cs.length→(w.cell? ⟨b,o+j,none⟩).isSome=true) (hf:∀j,j < cs.length→w.frozen? ⟨b,o+j,none⟩=false):
  (Builtin.clear_ #[t] ty #[.slice (some ⟨b,o,none⟩) n c]).run P w=.ok (.tuple #[]) (w.setCells b o cs):=by
 have hst:=run_storeCells_cells (P:=P) b o cs 0 w (by simpa using hc) (by simpa using hf) h1;simp only[Nat.add_zero] at hst;obtain⟨m,rfl⟩:∃m,n=m+1:=⟨n - 1,by omega⟩;simp[Builtin.clear_,run_underlying ht,hv,hz,hst]
end
def zer (z:List Value):Nat→List Value
 | 0=>[]
 | n+1=>z++zer z n
theorem zbl (z:List Value):∀n,(zer z n).length=n*z.length
 | 0=>by simp[zer]
 | n+1=>by rw[zer,List.length_append,zbl z n,Nat.add_mul,Nat.one_mul,Nat.add_comm]
theorem zer_at (z:List Value) (hz:0 < z.length):∀n j,j < n*z.length→(zer z n)[j]?=z[j % z.length]?
 | 0,j,h=>by omega
 | n+1,j,h=>by
  rw[zer]
  by_cases hj:j < z.length
  ·rw[List.getElem?_append_left hj,Nat.mod_eq_of_lt hj]
  ·rw[List.getElem?_append_right (by omega),zer_at z hz n (j - z.length) (by rw[Nat.add_mul] at h;omega),←Nat.mod_eq_sub_mod (by omega)]
theorem zer_app (z:List Value):∀a b,zer z (a+b)=zer z a++zer z b
 | 0,b=>by rw[Nat.zero_add];rfl
 | a+1,b=>by rw[show a+1+b=(a+b)+1 by omega,zer,zer_app z a b,zer,List.append_assoc]
theorem made_zer (z:Array Value) (n:Nat) (hz:0 < z.size):(madeCells z (n*z.size)).toList=zer z.toList n:=by
 apply List.ext_getElem?
 intro j
 by_cases hj:j < n*z.size
 ·rw[zer_at _ (by simpa using hz) n j (by simpa using hj)];simp only[madeCells,Array.length_toList,Array.getElem?_toList,Array.getElem?_map,Array.getElem?_range,hj,if_true,Option.map_some];rw[Array.getElem?_eq_getElem (Nat.mod_lt _ hz),getElem!_pos z _ (Nat.mod_lt _ hz)]
 ·rw[List.getElem?_eq_none (by simp[size_madeCells];omega),List.getElem?_eq_none (by rw[zbl];simp;omega)]
theorem zbo (z:Array Value) (n:Nat) (hz:0 < z.size):(Builtin.zeroCells z n).toList=zer z.toList n:=by
 apply List.ext_getElem?
 intro j
 by_cases hj:j < n*z.size
 ·rw[zer_at _ (by simpa using hz) n j (by simpa using hj)];simp only[Builtin.zeroCells,Array.length_toList,Array.getElem?_toList,Array.getElem?_map,Array.getElem?_range,hj,if_true,Option.map_some];rw[Array.getElem?_eq_getElem (Nat.mod_lt _ hz),getElem!_pos z _ (Nat.mod_lt _ hz)]
 ·rw[List.getElem?_eq_none (by simp[size_zeroCells];omega),List.getElem?_eq_none (by rw[zbl];simp;omega)]
end
section
open Go.RowKit
def MdP (w:World) (t:TypeId) (m:Nat) (cs:List Value) (e:Ending) (w':World):Prop:=
 e=.returned (.slice (some ⟨w.heap.size,0,none⟩) m m)∧Blk w' w.heap.size t cs∧New w w'
theorem MdP.own {w w':World} {t:TypeId} {m sz:Nat} {cs:List Value} {e:Ending} (h:MdP w t m cs e w') (hl:cs.length=m*sz) (hm:m≤maxLen):OwnV w' t sz w.heap.size (some ⟨w.heap.size,0,none⟩) m m cs:=
 ⟨hl,Nat.le_refl _,hm,.inr ⟨w.heap.size,[],rfl,Nat.le_refl _,by rw[List.append_nil];exact h.2.1,by simp[hl]⟩⟩
theorem MdP.ownB {w w':World} {m:Nat} {l:List Nat} {e:Ending} (h:MdP w 5 m (l.map byt) e w') (hl:l.length=m) (hb:∀x∈l,x < 256) (hm:m≤maxLen):OwnB w' 5 w.heap.size (some ⟨w.heap.size,0,none⟩) m l:=
 ⟨hb,.inr ⟨w.heap.size,[],rfl,Nat.le_refl _,by rw[List.append_nil];exact h.2.1,by simp,by simp[hl],hm⟩⟩
theorem zer_byt:∀n,zer [.int .u8 0] n=(List.replicate n 0).map byt
 | 0=>rfl
 | n+1=>by rw[zer,zer_byt n];rfl
theorem mkNe (m:Nat) (hm:m≤1099511627776) (u:World):(Instr.makeSlice 23 (.int .i64 (m:Int)) (.int .i64 (m:Int))).run Tryz.prog u=.ok (.slice (some ⟨u.heap.size,0,none⟩) m m) (u.alloc (.cells (zer [.int .i64 0,.int .u8 0,.int .i64 0,.slice none 0 0,.slice none 0 0] m).toArray 53)):=by
 obtain⟨i0,hi,hz0,hz1,hz2⟩:=info_parts zch;have h:=run_make (P:=Tryz.prog) u 23 53 i0 _ Tryz.underlying23 hi hz0 .i64 .i64 m m (by omega) (by omega) (by rw[hz2];omega) (by omega);simp only[Int.toNat_natCast] at h;rw[h,hz1,←made_zer _ m (by simp[Value.cells])]
 rfl
theorem cpNe (A:Option Addr) (n c m:Nat) (vs:List Value) (w:World) (h:RowV w A n 5 vs) (h1:∀u∈vs,u.oneCell'=true) (W:World) (hW:W=w.alloc (.cells (zer [.int .i64 0,.int .u8 0,.int .i64 0,.slice none 0 0,.slice none 0 0] m).toArray 53)) (ty:TypeId):
  (Builtin.copy_ #[23,23] ty #[.slice (some ⟨w.heap.size,0,none⟩) m m,.slice A n c]).run Tryz.prog W=.ok (goInt (Nat.min n m)) (W.setCells w.heap.size 0 (vs.take (Nat.min n m*5))):=by
 have hs:(Tryz.prog.info? 53).map (·.size)=some 5:=by
  obtain⟨i0,hi,_,hz1,_⟩:=info_parts zch;rw[hi];simp[hz1]
 have BM:Blk W w.heap.size 53 (zer [.int .i64 0,.int .u8 0,.int .i64 0,.slice none 0 0,.slice none 0 0] m):=by rw[hW];exact Blk.made w 53 _
 by_cases h0:Nat.min n m=0
 ·rw[h0];simp only[Nat.zero_mul,List.take_zero];exact zck W _ _ ty 53 5 _ _ _ _ _ _ Tryz.underlying23 hs h0
 ·have hn0:0 < n∧0 < m:=by have:=Nat.min_le_left n m;have:=Nat.min_le_right n m;constructor<;>(show 0 < _;have:Nat.min n m≤n:=Nat.min_le_left n m;have:Nat.min n m≤m:=Nat.min_le_right n m;omega)
  obtain⟨g,o,rfl,hc⟩:=h.2 hn0.1;have hle:Nat.min n m*5≤n*5:=Nat.mul_le_mul_right _ (Nat.min_le_left n m);have hle2:Nat.min n m*5≤m*5:=Nat.mul_le_mul_right _ (Nat.min_le_right n m)
  have hlt:(vs.take (Nat.min n m*5)).length=Nat.min n m*5:=by rw[List.length_take,h.1];omega
  have hK:New w W:=by rw[hW];exact kR.alloc _
  refine zax W _ _ ty 53 5 w.heap.size 0 m m ⟨g,o,none⟩ n c _ Tryz.underlying23 hs hlt ?_ ?_ ?_ fun u hu=>h1 u (List.mem_of_mem_take hu)
  ·intro j v hj;rw[List.getElem?_take] at hj
   split at hj
   ·rw[Addr.add_lit];exact hK.cell (hc j v hj) id
   ·cases hj
  ·intro j hj;rw[hlt] at hj;rw[BM.cell,List.getElem?_eq_getElem (by rw[zbl];simp;omega)]
   rfl
  ·intro j _;exact BM.free _
theorem sizedNe_any (A:Option Addr) (n c m:Nat) (vs:List Value) (w:World) (h:RowV w A n 5 vs) (h1:∀u∈vs,u.oneCell'=true) (hm:m≤1099511627776):
  Calls Tryz.prog 77 #[.slice A n c,.int .i64 (m:Int)] w (MdP w 53 m (vs.take (Nat.min n m*5)++zer [.int .i64 0,.int .u8 0,.int .i64 0,.slice none 0 0,.slice none 0 0] (m - Nat.min n m))):=by
 have hmk:=mkNe m hm;obtain⟨W,hW⟩:∃W,W=w.alloc (.cells (zer [.int .i64 0,.int .u8 0,.int .i64 0,.slice none 0 0,.slice none 0 0] m).toArray 53):=⟨_,rfl⟩;have hcp:=cpNe A n c m vs w h h1 W hW
 have hlen:(vs.take (Nat.min n m*5)).length=Nat.min n m*5:=by
  have hle:Nat.min n m*5≤n*5:=Nat.mul_le_mul_right _ (Nat.min_le_left n m);rw[List.length_take,h.1];omega
 have hR:Hid (Blk (W.setCells w.heap.size 0 (vs.take (Nat.min n m*5))) w.heap.size 53 (vs.take (Nat.min n m*5)++zer [.int .i64 0,.int .u8 0,.int .i64 0,.slice none 0 0,.slice none 0 0] (m - Nat.min n m))):=by
  have BM:Blk W w.heap.size 53 ([]++zer [.int .i64 0,.int .u8 0,.int .i64 0,.slice none 0 0,.slice none 0 0] (Nat.min n m)++zer [.int .i64 0,.int .u8 0,.int .i64 0,.slice none 0 0,.slice none 0 0] (m - Nat.min n m)):=by
   rw[List.nil_append,←zer_app,show Nat.min n m+(m - Nat.min n m)=m by have:Nat.min n m≤m:=Nat.min_le_right n m;omega,hW];exact Blk.made w 53 _
  have:=Blk.sets (vs.take (Nat.min n m*5)) [] _ _ W 0 BM (by rw[zbl,hlen];rfl) rfl
  rwa [List.nil_append] at this
 have hK:Hid (New w (W.setCells w.heap.size 0 (vs.take (Nat.min n m*5)))):=by
  refine Kept.sets _ _ _ ?_ fun hh=>absurd hh (Nat.lt_irrefl _)
  rw[hW];exact kR.alloc _
 generalize vs.take (Nat.min n m*5)=us at *;subst hW;clear h h1 hlen;go_enter Tryz.func77,Tryz.ntmps77
 go_wp2_with (at_builtin;refine zbb rfl _ _ 23 23 rfl _ _ rfl rfl (hcp _) ?_)
 go_ret;exact⟨rfl,hR.out,hK.out⟩
theorem ownNe_any (A:Option Addr) (n c:Nat) (vs:List Value) (w:World) (h:RowV w A n 5 vs) (h1:∀u∈vs,u.oneCell'=true) (hm:n≤1099511627776):
  Calls Tryz.prog 49 #[.slice A n c] w (MdP w 53 n vs):=by
 have C:=jH (sizedNe_any A n c n vs w h h1 hm);have hl:vs.length=n*5:=h.1
 have e:vs.take (Nat.min n n*5)++zer [.int .i64 0,.int .u8 0,.int .i64 0,.slice none 0 0,.slice none 0 0] (n - Nat.min n n)=vs:=by
  rw[show Nat.min n n=n from Nat.min_self n,Nat.sub_self,←hl,List.take_length];exact List.append_nil _
 rw[e] at C;clear h h1 hl e;go_enter Tryz.func49,Tryz.ntmps49;go_wp2_with fail;refine C.out.mono ?_;rintro e w' ⟨rfl,hB,hK⟩;have hB:=jH hB;have hK:=jH hK;go_wp2_with fail;go_ret;exact⟨rfl,hB.out,hK.out⟩
theorem mkNm (m:Nat) (hm:m≤1099511627776) (u:World):(Instr.makeSlice 51 (.int .i64 (m:Int)) (.int .i64 (m:Int))).run Tryz.prog u=.ok (.slice (some ⟨u.heap.size,0,none⟩) m m) (u.alloc (.cells (zer [.string ⟨#[]⟩,.int .i64 0] m).toArray 65)):=by
 obtain⟨i0,hi,hz0,hz1,hz2⟩:=info_parts zcf;have h:=run_make (P:=Tryz.prog) u 51 65 i0 _ Tryz.underlying51 hi hz0 .i64 .i64 m m (by omega) (by omega) (by rw[hz2];omega) (by omega);simp only[Int.toNat_natCast] at h;rw[h,hz1,←made_zer _ m (by simp[Value.cells])]
 rfl
theorem cpNm (A:Option Addr) (n c m:Nat) (vs:List Value) (w:World) (h:RowV w A n 2 vs) (h1:∀u∈vs,u.oneCell'=true) (W:World) (hW:W=w.alloc (.cells (zer [.string ⟨#[]⟩,.int .i64 0] m).toArray 65)) (ty:TypeId):
  (Builtin.copy_ #[51,51] ty #[.slice (some ⟨w.heap.size,0,none⟩) m m,.slice A n c]).run Tryz.prog W=.ok (goInt (Nat.min n m)) (W.setCells w.heap.size 0 (vs.take (Nat.min n m*2))):=by
 have hs:(Tryz.prog.info? 65).map (·.size)=some 2:=by
  obtain⟨i0,hi,_,hz1,_⟩:=info_parts zcf;rw[hi];simp[hz1]
 have BM:Blk W w.heap.size 65 (zer [.string ⟨#[]⟩,.int .i64 0] m):=by rw[hW];exact Blk.made w 65 _
 by_cases h0:Nat.min n m=0
 ·rw[h0];simp only[Nat.zero_mul,List.take_zero];exact zck W _ _ ty 65 2 _ _ _ _ _ _ Tryz.underlying51 hs h0
 ·have hn0:0 < n∧0 < m:=by have:=Nat.min_le_left n m;have:=Nat.min_le_right n m;constructor<;>(show 0 < _;have:Nat.min n m≤n:=Nat.min_le_left n m;have:Nat.min n m≤m:=Nat.min_le_right n m;omega)
  obtain⟨g,o,rfl,hc⟩:=h.2 hn0.1;have hle:Nat.min n m*2≤n*2:=Nat.mul_le_mul_right _ (Nat.min_le_left n m);have hle2:Nat.min n m*2≤m*2:=Nat.mul_le_mul_right _ (Nat.min_le_right n m)
  have hlt:(vs.take (Nat.min n m*2)).length=Nat.min n m*2:=by rw[List.length_take,h.1];omega
  have hK:New w W:=by rw[hW];exact kR.alloc _
  refine zax W _ _ ty 65 2 w.heap.size 0 m m ⟨g,o,none⟩ n c _ Tryz.underlying51 hs hlt ?_ ?_ ?_ fun u hu=>h1 u (List.mem_of_mem_take hu)
  ·intro j v hj;rw[List.getElem?_take] at hj
   split at hj
   ·rw[Addr.add_lit];exact hK.cell (hc j v hj) id
   ·cases hj
  ·intro j hj;rw[hlt] at hj;rw[BM.cell,List.getElem?_eq_getElem (by rw[zbl];simp;omega)]
   rfl
  ·intro j _;exact BM.free _
theorem sizedNm_any (A:Option Addr) (n c m:Nat) (vs:List Value) (w:World) (h:RowV w A n 2 vs) (h1:∀u∈vs,u.oneCell'=true) (hm:m≤1099511627776):
  Calls Tryz.prog 78 #[.slice A n c,.int .i64 (m:Int)] w (MdP w 65 m (vs.take (Nat.min n m*2)++zer [.string ⟨#[]⟩,.int .i64 0] (m - Nat.min n m))):=by
 have hmk:=mkNm m hm;obtain⟨W,hW⟩:∃W,W=w.alloc (.cells (zer [.string ⟨#[]⟩,.int .i64 0] m).toArray 65):=⟨_,rfl⟩;have hcp:=cpNm A n c m vs w h h1 W hW
 have hlen:(vs.take (Nat.min n m*2)).length=Nat.min n m*2:=by
  have hle:Nat.min n m*2≤n*2:=Nat.mul_le_mul_right _ (Nat.min_le_left n m);rw[List.length_take,h.1];omega
 have hR:Hid (Blk (W.setCells w.heap.size 0 (vs.take (Nat.min n m*2))) w.heap.size 65 (vs.take (Nat.min n m*2)++zer [.string ⟨#[]⟩,.int .i64 0] (m - Nat.min n m))):=by
  have BM:Blk W w.heap.size 65 ([]++zer [.string ⟨#[]⟩,.int .i64 0] (Nat.min n m)++zer [.string ⟨#[]⟩,.int .i64 0] (m - Nat.min n m)):=by
   rw[List.nil_append,←zer_app,show Nat.min n m+(m - Nat.min n m)=m by have:Nat.min n m≤m:=Nat.min_le_right n m;omega,hW];exact Blk.made w 65 _
  have:=Blk.sets (vs.take (Nat.min n m*2)) [] _ _ W 0 BM (by rw[zbl,hlen];rfl) rfl
  rwa [List.nil_append] at this
 have hK:Hid (New w (W.setCells w.heap.size 0 (vs.take (Nat.min n m*2)))):=by
  refine Kept.sets _ _ _ ?_ fun hh=>absurd hh (Nat.lt_irrefl _)
  rw[hW];exact kR.alloc _
 generalize vs.take (Nat.min n m*2)=us at *;subst hW;clear h h1 hlen;go_enter Tryz.func78,Tryz.ntmps78
 go_wp2_with (at_builtin;refine zbb rfl _ _ 51 51 rfl _ _ rfl rfl (hcp _) ?_)
 go_ret;exact⟨rfl,hR.out,hK.out⟩
theorem ownNm_any (A:Option Addr) (n c:Nat) (vs:List Value) (w:World) (h:RowV w A n 2 vs) (h1:∀u∈vs,u.oneCell'=true) (hm:n≤1099511627776):
  Calls Tryz.prog 50 #[.slice A n c] w (MdP w 65 n vs):=by
 have C:=jH (sizedNm_any A n c n vs w h h1 hm);have hl:vs.length=n*2:=h.1
 have e:vs.take (Nat.min n n*2)++zer [.string ⟨#[]⟩,.int .i64 0] (n - Nat.min n n)=vs:=by
  rw[show Nat.min n n=n from Nat.min_self n,Nat.sub_self,←hl,List.take_length];exact List.append_nil _
 rw[e] at C;clear h h1 hl e;go_enter Tryz.func50,Tryz.ntmps50;go_wp2_with fail;refine C.out.mono ?_;rintro e w' ⟨rfl,hB,hK⟩;have hB:=jH hB;have hK:=jH hK;go_wp2_with fail;go_ret;exact⟨rfl,hB.out,hK.out⟩
theorem mkBy (m:Nat) (hm:m≤1099511627776) (u:World):(Instr.makeSlice 32 (.int .i64 (m:Int)) (.int .i64 (m:Int))).run Tryz.prog u=.ok (.slice (some ⟨u.heap.size,0,none⟩) m m) (u.alloc (.cells (zer [.int .u8 0] m).toArray 5)):=by
 obtain⟨i0,hi,hz0,hz1,hz2⟩:=info_parts zcg;have h:=run_make (P:=Tryz.prog) u 32 5 i0 _ Tryz.underlying32 hi hz0 .i64 .i64 m m (by omega) (by omega) (by rw[hz2];omega) (by omega);simp only[Int.toNat_natCast] at h;rw[h,hz1,←made_zer _ m (by simp[Value.cells])]
 rfl
theorem cpBy (A:Option Addr) (n c m:Nat) (vs:List Value) (w:World) (h:RowV w A n 1 vs) (h1:∀u∈vs,u.oneCell'=true) (W:World) (hW:W=w.alloc (.cells (zer [.int .u8 0] m).toArray 5)) (ty:TypeId):
  (Builtin.copy_ #[32,32] ty #[.slice (some ⟨w.heap.size,0,none⟩) m m,.slice A n c]).run Tryz.prog W=.ok (goInt (Nat.min n m)) (W.setCells w.heap.size 0 (vs.take (Nat.min n m*1))):=by
 have hs:(Tryz.prog.info? 5).map (·.size)=some 1:=by
  obtain⟨i0,hi,_,hz1,_⟩:=info_parts zcg;rw[hi];simp[hz1]
 have BM:Blk W w.heap.size 5 (zer [.int .u8 0] m):=by rw[hW];exact Blk.made w 5 _
 by_cases h0:Nat.min n m=0
 ·rw[h0];simp only[Nat.zero_mul,List.take_zero];exact zck W _ _ ty 5 1 _ _ _ _ _ _ Tryz.underlying32 hs h0
 ·have hn0:0 < n∧0 < m:=by have:=Nat.min_le_left n m;have:=Nat.min_le_right n m;constructor<;>(show 0 < _;have:Nat.min n m≤n:=Nat.min_le_left n m;have:Nat.min n m≤m:=Nat.min_le_right n m;omega)
  obtain⟨g,o,rfl,hc⟩:=h.2 hn0.1;have hle:Nat.min n m*1≤n*1:=Nat.mul_le_mul_right _ (Nat.min_le_left n m);have hle2:Nat.min n m*1≤m*1:=Nat.mul_le_mul_right _ (Nat.min_le_right n m)
  have hlt:(vs.take (Nat.min n m*1)).length=Nat.min n m*1:=by rw[List.length_take,h.1];omega
  have hK:New w W:=by rw[hW];exact kR.alloc _
  refine zax W _ _ ty 5 1 w.heap.size 0 m m ⟨g,o,none⟩ n c _ Tryz.underlying32 hs hlt ?_ ?_ ?_ fun u hu=>h1 u (List.mem_of_mem_take hu)
  ·intro j v hj;rw[List.getElem?_take] at hj
   split at hj
   ·rw[Addr.add_lit];exact hK.cell (hc j v hj) id
   ·cases hj
  ·intro j hj;rw[hlt] at hj;rw[BM.cell,List.getElem?_eq_getElem (by rw[zbl];simp;omega)]
   rfl
  ·intro j _;exact BM.free _
theorem sizedBy_any (A:Option Addr) (n c m:Nat) (vs:List Value) (w:World) (h:RowV w A n 1 vs) (h1:∀u∈vs,u.oneCell'=true) (hm:m≤1099511627776):
  Calls Tryz.prog 79 #[.slice A n c,.int .i64 (m:Int)] w (MdP w 5 m (vs.take (Nat.min n m*1)++zer [.int .u8 0] (m - Nat.min n m))):=by
 have hmk:=mkBy m hm;obtain⟨W,hW⟩:∃W,W=w.alloc (.cells (zer [.int .u8 0] m).toArray 5):=⟨_,rfl⟩;have hcp:=cpBy A n c m vs w h h1 W hW
 have hlen:(vs.take (Nat.min n m*1)).length=Nat.min n m*1:=by
  have hle:Nat.min n m*1≤n*1:=Nat.mul_le_mul_right _ (Nat.min_le_left n m);rw[List.length_take,h.1];omega
 have hR:Hid (Blk (W.setCells w.heap.size 0 (vs.take (Nat.min n m*1))) w.heap.size 5 (vs.take (Nat.min n m*1)++zer [.int .u8 0] (m - Nat.min n m))):=by
  have BM:Blk W w.heap.size 5 ([]++zer [.int .u8 0] (Nat.min n m)++zer [.int .u8 0] (m - Nat.min n m)):=by
   rw[List.nil_append,←zer_app,show Nat.min n m+(m - Nat.min n m)=m by have:Nat.min n m≤m:=Nat.min_le_right n m;omega,hW];exact Blk.made w 5 _
  have:=Blk.sets (vs.take (Nat.min n m*1)) [] _ _ W 0 BM (by rw[zbl,hlen];rfl) rfl
  rwa [List.nil_append] at this
 have hK:Hid (New w (W.setCells w.heap.size 0 (vs.take (Nat.min n m*1)))):=by
  refine Kept.sets _ _ _ ?_ fun hh=>absurd hh (Nat.lt_irrefl _)
  rw[hW];exact kR.alloc _
 generalize vs.take (Nat.min n m*1)=us at *;subst hW;clear h h1 hlen;go_enter Tryz.func79,Tryz.ntmps79
 go_wp2_with (at_builtin;refine zbb rfl _ _ 32 32 rfl _ _ rfl rfl (hcp _) ?_)
 go_ret;exact⟨rfl,hR.out,hK.out⟩
theorem ownBy_any (A:Option Addr) (n c:Nat) (vs:List Value) (w:World) (h:RowV w A n 1 vs) (h1:∀u∈vs,u.oneCell'=true) (hm:n≤1099511627776):
  Calls Tryz.prog 51 #[.slice A n c] w (MdP w 5 n vs):=by
 have C:=jH (sizedBy_any A n c n vs w h h1 hm);have hl:vs.length=n*1:=h.1
 have e:vs.take (Nat.min n n*1)++zer [.int .u8 0] (n - Nat.min n n)=vs:=by
  rw[show Nat.min n n=n from Nat.min_self n,Nat.sub_self,←hl,List.take_length];exact List.append_nil _
 rw[e] at C;clear h h1 hl e;go_enter Tryz.func51,Tryz.ntmps51;go_wp2_with fail;refine C.out.mono ?_;rintro e w' ⟨rfl,hB,hK⟩;have hB:=jH hB;have hK:=jH hK;go_wp2_with fail;go_ret;exact⟨rfl,hB.out,hK.out⟩
end
end Go.Proofs.YtjjamoemheljdaaGreat
