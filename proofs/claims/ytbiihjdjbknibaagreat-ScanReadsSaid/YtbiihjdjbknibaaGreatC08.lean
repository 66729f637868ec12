/-
  Layer 7: contracts (Nm Na).
-/
import Derived.Test.YtbiihjdjbknibaaGreatC02
import Derived.Test.YtbiihjdjbknibaaGreatC07
namespace Go.Proofs.YtbiihjdjbknibaaGreat
set_option maxRecDepth 100000
set_option maxHeartbeats 8000000
set_option linter.unusedSimpArgs false
set_option linter.unusedVariables false
section
set_option maxRecDepth 100000
def mixB (c g m : Nat) : Nat := (c &&& (255 - m)) ||| (g &&& m)
def mixF (m : Nat → Nat) (c g : List Nat) : List Nat := (List.range c.length).map fun i => mixB (c.getD i 0) (g.getD i 0) (m i)
def maskF (l : List Nat) (i : Nat) : Nat := l.getD (i % l.length) 0
theorem mixB_lt (c g m : Nat) (hg : g < 256) : mixB c g m < 256 :=
  Nat.or_lt_two_pow (n := 8) (Nat.and_lt_two_pow _ (show 255 - m < 2 ^ 8 by omega)) (Nat.lt_of_le_of_lt Nat.and_le_left hg)
theorem mixB_zero (c g : Nat) (hc : c < 256) : mixB c g 0 = c := by
  unfold mixB
  rw [Nat.and_zero, Nat.or_zero]
  have := Nat.and_two_pow_sub_one_eq_mod c 8
  simp only [Nat.reducePow, Nat.reduceSub] at this
  rw [show 255 - 0 = 255 from rfl, this]
  omega
theorem mixF_length (m : Nat → Nat) (c g : List Nat) : (mixF m c g).length = c.length := by simp [mixF]
theorem mixF_bytes (m : Nat → Nat) (c g : List Nat) (hg : IsBytes g) : IsBytes (mixF m c g) := by
  intro x hx
  obtain ⟨i, _, rfl⟩ := List.mem_map.1 hx
  refine mixB_lt _ _ _ ?_
  rw [List.getD_eq_getElem?_getD]
  cases h : g[i]? with
  | none => simp
  | some y => exact hg y (List.mem_of_getElem? h)
theorem mixF_get (m : Nat → Nat) (c g : List Nat) (i : Nat) (hi : i < c.length) : (mixF m c g)[i]? = some (mixB (c.getD i 0) (g.getD i 0) (m i)) := by
  simp [mixF, hi]
theorem mixF_none (c g : List Nat) (hc : IsBytes c) : mixF (maskF []) c g = c := by
  apply List.ext_getElem?
  intro i
  rcases Nat.lt_or_ge i c.length with hi | hi
  · rw [mixF_get _ _ _ _ hi, List.getD_eq_getElem?_getD, List.getElem?_eq_getElem hi]
    simp only [Option.getD_some]
    rw [show maskF [] i = 0 from rfl, mixB_zero _ _ (hc _ (List.getElem_mem _))]
  · rw [List.getElem?_eq_none (by rw [mixF_length]; exact hi), List.getElem?_eq_none hi]
structure Hit where
  after : Nat
  fails : Bool
  mask : List Nat
structure CSt where
  nb : Nat
  np : Nat
  nz : Nat
  ns : Nat
  by_ : List Nat
  bad : List Bool
  hits : List Hit
  since : Nat
  dead : Bool
  deeds : Nat
def geoOk (a b c d : Int) : Prop := (8 ≤ a ∧ a ≤ 64) ∧ (4 ≤ b ∧ b ≤ 32) ∧ (128 ≤ c ∧ c ≤ 256) ∧ 0 ≤ d ∧ d ≤ 4
instance (a b c d : Int) : Decidable (geoOk a b c d) := by unfold geoOk; infer_instance
structure HitOk (h : Hit) : Prop where
  after : h.after ≤ 9223372036854775807
  bytes : IsBytes h.mask
  len : h.mask.length ≤ 140737488351232
structure CSt.Ok (s : CSt) : Prop where
  nb1 : 8 ≤ s.nb
  nb2 : s.nb ≤ 64
  np1 : 4 ≤ s.np
  np2 : s.np ≤ 32
  nz1 : 128 ≤ s.nz
  nz2 : s.nz ≤ 256
  ns : s.ns ≤ 4
  len : s.by_.length = s.nb * s.np * s.nz
  bytes : IsBytes s.by_
  badl : s.bad.length = s.nb
  hits : ∀ h ∈ s.hits, HitOk h
  since : s.since ≤ 9223372036854775807
  deeds : s.deeds ≤ 4611686018427387904
theorem prod_le {a b c : Nat} (ha : a ≤ 64) (hb : b ≤ 32) (hc : c ≤ 256) : a * b * c ≤ 524288 := by
  have h1 : a * b ≤ 64 * 32 := Nat.mul_le_mul ha hb
  have h2 := Nat.mul_le_mul h1 hc
  omega
theorem CSt.Ok.size {s : CSt} (h : s.Ok) : s.by_.length ≤ 524288 := by rw [h.len]; exact prod_le h.nb2 h.np2 h.nz2
def there (s : CSt) (b p : Int) : Prop := (0 ≤ b ∧ b < s.nb) ∧ 0 ≤ p ∧ p < s.np
instance (s : CSt) (b p : Int) : Decidable (there s b p) := by unfold there; infer_instance
def refE (s : CSt) (b p : Int) : Int := if s.dead = true then 10 else if there s b p then 0 else 2
def offP (s : CSt) (b p : Int) : Nat := (b.toNat * s.np + p.toNat) * s.nz
def pgL (s : CSt) (b p : Int) : List Nat := (s.by_.drop (offP s b p)).take s.nz
def tailL (s : CSt) (b p : Int) : List Nat := (s.by_.drop (offP s b p)).take ((s.np - p.toNat) * s.nz)
def deedE (s : CSt) : Int := match s.hits with | [] => 0 | h :: _ => if s.since < h.after then 0 else if h.fails = true then 9 else 10
def deedS (s : CSt) (block off : Nat) (goal : List Nat) : CSt :=
  match s.hits with
  | [] => { s with deeds := s.deeds + 1, by_ := lay s.by_ off goal }
  | h :: t =>
    if s.since < h.after then { s with deeds := s.deeds + 1, since := s.since + 1, by_ := lay s.by_ off goal }
    else { s with deeds := s.deeds + 1, hits := t, since := 0, by_ := lay s.by_ off (mixF (maskF h.mask) ((s.by_.drop off).take goal.length) goal), bad := if h.fails = true then s.bad.set block true else s.bad, dead := !h.fails }
def badAt (s : CSt) (b : Nat) : Bool := s.bad.getD b false
def readE (s : CSt) (b p : Int) : Int := refE s b p
def readL (s : CSt) (b p : Int) : List Nat := if refE s b p = 0 then pgL s b p else []
def progR (s : CSt) (b p : Int) (n : Nat) : Int :=
  if refE s b p ≠ 0 then refE s b p else if n ≠ s.nz then 2 else if badAt s b.toNat = true then 9 else if blank (tailL s b p) = true then 0 else 8
def progE (s : CSt) (b p : Int) (l : List Nat) : Int := if progR s b p l.length = 0 then deedE s else progR s b p l.length
def progS (s : CSt) (b p : Int) (l : List Nat) : CSt := if progR s b p l.length = 0 then deedS s b.toNat (offP s b p) l else s
def erasR (s : CSt) (b : Int) : Int := if refE s b 0 ≠ 0 then refE s b 0 else if badAt s b.toNat = true then 9 else 0
def ones (s : CSt) : List Nat := List.replicate (s.np * s.nz) 255
def erasE (s : CSt) (b : Int) : Int := if erasR s b = 0 then deedE s else erasR s b
def erasS (s : CSt) (b : Int) : CSt := if erasR s b = 0 then deedS s b.toNat (offP s b 0) (ones s) else s
structure HitI where
  after : Int
  fails : Bool
  mask : List Nat
def HitI.hit (h : HitI) : Hit := ⟨h.after.toNat, h.fails, h.mask⟩
def hitsE (l : List HitI) : Int := if ∀ h ∈ l, 0 ≤ h.after then 0 else 2
def hitsS (s : CSt) (l : List HitI) : CSt := if ∀ h ∈ l, 0 ≤ h.after then { s with hits := l.map HitI.hit, since := 0 } else s
def newS (a b c d : Nat) : CSt := { nb := a, np := b, nz := c, ns := d, by_ := List.replicate (a * b * c) 255, bad := List.replicate a false, hits := [], since := 0, dead := false, deeds := 0 }
theorem lay_bytes (c : List Nat) (off : Nat) (k : List Nat) (hc : IsBytes c) (hk : IsBytes k) : IsBytes (lay c off k) := by
  intro x hx
  unfold lay at hx
  rcases List.mem_append.1 hx with h | h
  · exact hc x (List.mem_of_mem_take h)
  · rcases List.mem_append.1 h with h | h
    · exact hk x h
    · exact hc x (List.mem_of_mem_drop h)
theorem rep_bytes (n : Nat) : IsBytes (List.replicate n 255) := fun x hx => by have := List.eq_of_mem_replicate hx; omega
theorem off_fit (s : CSt) (h : s.Ok) (b p : Int) (ht : there s b p) : offP s b p + (s.np - p.toNat) * s.nz ≤ s.by_.length ∧ s.nz ≤ (s.np - p.toNat) * s.nz ∧ offP s b p + s.nz ≤ s.by_.length := by
  unfold there at ht
  rw [h.len]
  unfold offP
  obtain ⟨b', rfl⟩ : ∃ b' : Nat, b = b' := ⟨b.toNat, by omega⟩
  obtain ⟨p', rfl⟩ : ∃ p' : Nat, p = p' := ⟨p.toNat, by omega⟩
  simp only [Int.toNat_natCast]
  have hb : b' + 1 ≤ s.nb := by omega
  have hp : p' < s.np := by omega
  have e1 : b' * s.np + p' + (s.np - p') = (b' + 1) * s.np := by rw [Nat.add_mul]; omega
  have h1 : (b' * s.np + p') * s.nz + (s.np - p') * s.nz = (b' + 1) * s.np * s.nz := by rw [← Nat.add_mul, e1]
  have h2 : (b' + 1) * s.np * s.nz ≤ s.nb * s.np * s.nz := Nat.mul_le_mul_right _ (Nat.mul_le_mul_right _ hb)
  have h3 : 1 * s.nz ≤ (s.np - p') * s.nz := Nat.mul_le_mul_right _ (by omega)
  omega
theorem pg_len (s : CSt) (h : s.Ok) (b p : Int) (ht : there s b p) : (pgL s b p).length = s.nz := by
  have := off_fit s h b p ht
  simp [pgL]; omega
theorem pg_bytes (s : CSt) (h : s.Ok) (b p : Int) : IsBytes (pgL s b p) := fun x hx => h.bytes x (List.mem_of_mem_drop (List.mem_of_mem_take hx))
theorem refE_ok {s : CSt} {b p : Int} (h : refE s b p = 0) : s.dead = false ∧ there s b p := by
  unfold refE at h
  split at h
  · cases h
  · rename_i h1
    split at h
    · rename_i h2
      exact ⟨by simpa using h1, h2⟩
    · cases h
theorem newS_ok (a b c d : Nat) (h : geoOk a b c d) : (newS a b c d).Ok := by
  unfold geoOk at h
  exact { nb1 := by show 8 ≤ a; omega, nb2 := by show a ≤ 64; omega, np1 := by show 4 ≤ b; omega, np2 := by show b ≤ 32; omega, nz1 := by show 128 ≤ c; omega, nz2 := by show c ≤ 256; omega, ns := by show d ≤ 4; omega,
          len := by simp [newS], bytes := rep_bytes _, badl := by simp [newS], hits := by simp [newS], since := by simp [newS], deeds := by simp [newS] }
structure HitIOk (h : HitI) : Prop where
  after : h.after ≤ 9223372036854775807
  low : -9223372036854775808 ≤ h.after
  bytes : IsBytes h.mask
  len : h.mask.length ≤ 140737488351232
end
section
set_option maxRecDepth 100000
open Go.ChangeShapes Go.WideShapes Go.ChangeAt Go.RowKit
theorem info_bool:(Tryz.prog.info? 4).map (fun i=>(i.zero,i.size,i.bytes))=some (some (.bool false),1,1):=by kernel_rfl
theorem info_hit:(Tryz.prog.info? 59).map (fun i=>(i.zero,i.size,i.bytes))=some (some (.agg #[.int .i64 0,.bool false,.slice none 0 0]),3,40):=by kernel_rfl
def inB (n a b:Int):Bool:=decide (a≤n) && decide (n≤b)
theorem inB_yes {n a b:Int} (h:a≤n∧n≤b):inB n a b=true:=by unfold inB;simp;omega
theorem inB_no {n a b:Int} (h:¬(a≤n∧n≤b)):inB n a b=false:=by unfold inB;rw[Bool.eq_false_iff];simp;omega
theorem within_any (n a b:Int) (w:World):
  Calls Tryz.prog 53 #[.int .i64 n,.int .i64 a,.int .i64 b] w fun e w'=>e=.returned (.bool (inB n a b))∧w=w':=by
 by_cases h:a≤n
 ·have e:inB n a b=decide (n≤b):=by unfold inB;simp[h]
  rw[e]
  by_cases h2:n≤b
  ·rw[decide_eq_true h2];go_enter Tryz.func53,Tryz.ntmps53;go_wp2;go_ret;exact⟨rfl,rfl⟩
  ·rw[decide_eq_false h2];go_enter Tryz.func53,Tryz.ntmps53;go_wp2;go_ret;exact⟨rfl,rfl⟩
 ·have e:inB n a b=false:=inB_no (fun x=>h x.1);rw[e];have h':decide (a≤n)=false:=decide_eq_false h;go_enter Tryz.func53,Tryz.ntmps53;go_wp2;go_ret;exact⟨rfl,rfl⟩
def BoolN (w:World) (b:Bool) (e:Ending) (w':World):Prop:=e=.returned (.bool b)∧New w w'
def IntN (w:World) (n:Int) (e:Ending) (w':World):Prop:=e=.returned (.int .i64 n)∧New w w'
theorem isGeo_any (a b c d:Int) (w:World):
  Calls Tryz.prog 51 #[.agg #[.int .i64 a,.int .i64 b,.int .i64 c,.int .i64 d]] w (BoolN w (decide (geoOk a b c d))):=by
 by_cases h1:8≤a∧a≤64
 ·have e1:=inB_yes h1
  by_cases h2:4≤b∧b≤32
  ·have e2:=inB_yes h2
   by_cases h3:128≤c∧c≤256
   ·have e3:=inB_yes h3
    have e4:decide (geoOk a b c d)=inB d 0 4:=by
     by_cases h4:0≤d∧d≤4
     ·rw[inB_yes h4,decide_eq_true_iff];exact⟨h1,h2,h3,h4⟩
     ·rw[inB_no h4,decide_eq_false_iff_not];exact fun x=>h4 x.2.2.2
    rw[e4];clear e4 h1 h2 h3;go_enter Tryz.func51,Tryz.ntmps51
    go_wp2_with (go_at_call 53;refine (within_any _ _ _ _).mono ?_;rintro e w' ⟨rfl,rfl⟩;(first|rw[e1]|rw[e2]|rw[e3]|skip))
    go_ret;exact⟨rfl,kR.alloc _⟩
   ·have e3:=inB_no h3
    have e4:decide (geoOk a b c d)=false:=decide_eq_false fun x=>h3 x.2.2.1
    rw[e4];clear e4 h1 h2 h3;go_enter Tryz.func51,Tryz.ntmps51
    go_wp2_with (go_at_call 53;refine (within_any _ _ _ _).mono ?_;rintro e w' ⟨rfl,rfl⟩;(first|rw[e1]|rw[e2]|rw[e3]|skip))
    go_ret;exact⟨rfl,kR.alloc _⟩
  ·have e2:=inB_no h2
   have e4:decide (geoOk a b c d)=false:=decide_eq_false fun x=>h2 x.2.1
   rw[e4];clear e4 h1 h2;go_enter Tryz.func51,Tryz.ntmps51
   go_wp2_with (go_at_call 53;refine (within_any _ _ _ _).mono ?_;rintro e w' ⟨rfl,rfl⟩;(first|rw[e1]|rw[e2]|skip))
   go_ret;exact⟨rfl,kR.alloc _⟩
 ·have e1:=inB_no h1
  have e4:decide (geoOk a b c d)=false:=decide_eq_false fun x=>h1 x.1
  rw[e4];clear e4 h1;go_enter Tryz.func51,Tryz.ntmps51
  go_wp2_with (go_at_call 53;refine (within_any _ _ _ _).mono ?_;rintro e w' ⟨rfl,rfl⟩;(first|rw[e1]|skip))
  go_ret;exact⟨rfl,kR.alloc _⟩
theorem prod_int (a b:Nat):((a:Int)*(b:Int))=((a*b:Nat):Int):=by simp
theorem wrap_nat {n:Nat} (h:n≤9223372036854775807):IntKind.i64.wrap (n:Int)=(n:Int):=by
 rw[IntKind.wrap_i64];omega
theorem bytesOf_any (a b c:Nat) (d:Int) (w:World) (ha:a≤64) (hb:b≤32) (hc:c≤256):
  Calls Tryz.prog 52 #[.agg #[.int .i64 a,.int .i64 b,.int .i64 c,.int .i64 d]] w (IntN w ((a*b*c:Nat):Int)):=by
 have h1:a*b≤64*32:=Nat.mul_le_mul ha hb;have h2:=prod_le ha hb hc
 have e1:IntKind.i64.wrap ((a:Int)*(b:Int))=((a*b:Nat):Int):=by rw[prod_int];exact wrap_nat (by omega)
 have e2:IntKind.i64.wrap (((a*b:Nat):Int)*(c:Int))=((a*b*c:Nat):Int):=by rw[prod_int];exact wrap_nat (by omega)
 have m1:wrap64 ((a:Int)*(b:Int))=((a*b:Nat):Int):=by rw[prod_int];exact wrap64_of (by omega) (by omega)
 have m2:wrap64 (((a*b:Nat):Int)*(c:Int))=((a*b*c:Nat):Int):=by rw[prod_int];exact wrap64_of (by omega) (by omega)
 generalize a*b=ab at *;generalize ab*c=abc at *;clear h1 h2 ha hb hc;go_enter Tryz.func52,Tryz.ntmps52;go_wp2;go_ret;exact⟨rfl,kR.alloc _⟩
theorem mul64_big (n:Nat) (w:World) (hn:n < 4294967296):
  Calls Tryz.prog 131 #[.int .u64 1,.int .u64 n] w fun e w'=>e=.returned (.tuple #[.int .u64 0,.int .u64 n])∧w=w':=by
 have m1:bits .and .u64 1 4294967295=1:=by decide
 have m2:bits .and .u64 (n:Int) 4294967295=(n:Int):=by
  have h1:=bits_and_u64_nat n 4294967295 (by omega) (by omega);have e:n &&& 4294967295=n % 4294967296:=Nat.and_two_pow_sub_one_eq_mod n 32;rw[e,Nat.mod_eq_of_lt hn] at h1;exact h1
 have m3:(n:Int) / 4294967296=0:=by omega
 have m4:bits .and .u64 0 4294967295=0:=by decide
 go_enter Tryz.func131,Tryz.ntmps131;go_wp2;go_ret2;exact⟨rfl,rfl⟩
theorem mul_big (n:Nat) (w:World) (hn:n < 4294967296):
  Calls Tryz.prog 104 #[.int .u64 1,.int .u64 n] w fun e w'=>e=.returned (.tuple #[.int .u64 0,.int .u64 n])∧w=w':=by
 go_enter Tryz.func104,Tryz.ntmps104
 go_wp2_with (go_at_call 131;refine (mul64_big n _ hn).mono ?_;rintro e w' ⟨rfl,rfl⟩)
 go_ret2;exact⟨rfl,rfl⟩
def OnesP (w:World) (n:Nat) (e:Ending) (w':World):Prop:=
 ∃g junk,e=.returned (.slice (some ⟨g,0,none⟩) n n)∧Blk w' g 5 ((List.replicate n 255).map byt++junk)∧w.heap.size≤g∧New w w'
end
end Go.Proofs.YtbiihjdjbknibaaGreat
