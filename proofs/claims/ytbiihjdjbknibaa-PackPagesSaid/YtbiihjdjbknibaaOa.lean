/-
  The reference's changes, one behind the other: mathematics, rows of facts whose values lie elsewhere.
-/
import Derived.Test.YtbiihjdjbknibaaMm
namespace Go.Proofs.Ytbiihjdjbknibaa
set_option maxRecDepth 100000
open Go.RowKit

theorem updF_nil (c : CT) : updF [] c = if c.g then [] else [⟨c.k, c.v⟩] := by
  unfold updF
  simp
theorem upd_all {l : List FT} {c : CT} (h : ∀ f ∈ l, befK f.k c.k = true) (hg : c.g = false) : updF l c = l ++ [⟨c.k, c.v⟩] := by
  unfold updF
  rw [List.filter_eq_self.2 h, List.filter_eq_nil_iff.2 fun f hf he => (by rw [befK_anti (h f hf)] at he; cases he), hg]
  simp
theorem upd_eq {l : List FT} {c : CT} {x : FT} (h : x.k = c.k) : updF (l ++ [x]) c = updF l c := by
  unfold updF
  have h1 : befK x.k c.k = false := by rw [h]; exact befK_irr _
  have h2 : befK c.k x.k = false := by rw [h]; exact befK_irr _
  simp [List.filter_append, h1, h2]
theorem upd_gt {l : List FT} {c : CT} {x : FT} (h : befK c.k x.k = true) : updF (l ++ [x]) c = updF l c ++ [x] := by
  unfold updF
  have h1 : befK x.k c.k = false := befK_anti h
  simp [List.filter_append, h1, h]
theorem upd_lt {l : List FT} {c : CT} {x : FT} (h : befK x.k c.k = true) (hl : ∀ f ∈ l, befK f.k x.k = true) (hg : c.g = true) : updF (l ++ [x]) c = updF l c ++ [x] := by
  unfold updF
  have h1 : befK c.k x.k = false := befK_anti h
  have h2 : l.filter (fun f => befK c.k f.k) = [] := List.filter_eq_nil_iff.2 fun f hf he => by
    rw [befK_anti (befK_trans (hl f hf) h)] at he; cases he
  simp [List.filter_append, h1, h, h2, hg]
theorem upd_len (l : List FT) (c : CT) : (updF l c).length ≤ l.length + 1 := by
  induction l with
  | nil => rw [updF_nil]; split <;> simp
  | cons f r ih =>
    unfold updF at *
    simp only [List.length_append, List.filter_cons, List.length_cons] at *
    have hd : ¬ (befK f.k c.k = true ∧ befK c.k f.k = true) := fun ⟨h1, h2⟩ => by rw [befK_anti h1] at h2; cases h2
    by_cases h1 : befK f.k c.k = true <;> by_cases h2 : befK c.k f.k = true
    · exact absurd ⟨h1, h2⟩ hd
    all_goals
      simp only [h1, h2, if_true, List.length_cons, Bool.false_eq_true, if_false]
      omega

/-- Where the walk over the facts stands: i of them are gone over. -/
def OneI (l : List FT) (c : CT) (i : Nat) (o : List FT) (d : Bool) : Prop :=
  (d = false ∧ c.g = false ∧ o = l.take i ∧ ∀ f ∈ l.take i, befK f.k c.k = true) ∨ (d = true ∧ o = updF (l.take i) c ∧ (c.g = true ∨ ∃ y ∈ l.take i, befK y.k c.k = false))
theorem OneI.start (l : List FT) (c : CT) : OneI l c 0 [] c.g := by
  cases h : c.g
  · exact .inl ⟨rfl, h, rfl, by simp⟩
  · exact .inr ⟨rfl, by rw [List.take_zero, updF_nil, h]; rfl, .inl h⟩
theorem OneI.len0 {l : List FT} {c : CT} {i : Nat} {o : List FT} (h : OneI l c i o false) : o.length ≤ i := by
  rcases h with ⟨_, _, rfl, _⟩ | ⟨h, _⟩
  · rw [List.length_take]; omega
  · cases h
theorem OneI.len {l : List FT} {c : CT} {i : Nat} {o : List FT} {d : Bool} (h : OneI l c i o d) : o.length ≤ i + 1 := by
  rcases h with ⟨_, _, rfl, _⟩ | ⟨_, rfl, _⟩
  · rw [List.length_take]; omega
  · have := upd_len (l.take i) c
    rw [List.length_take] at this
    omega
section
variable {l : List FT} {c : CT} {i : Nat} {o : List FT} {x : FT}
theorem OneI.eq0 (h : OneI l c i o false) (hx : l[i]? = some x) (he : x.k = c.k) : OneI l c (i + 1) (o ++ [⟨c.k, c.v⟩]) true := by
  rcases h with ⟨_, hg, rfl, h⟩ | ⟨h, _⟩
  · have ht : l.take (i + 1) = l.take i ++ [x] := by rw [List.take_add_one, hx]; rfl
    refine .inr ⟨rfl, ?_, .inr ⟨x, ?_, ?_⟩⟩
    · rw [ht, upd_eq he, upd_all h hg]
    · rw [ht]; simp
    · rw [he]; exact befK_irr _
  · cases h
theorem OneI.eq1 (h : OneI l c i o true) (hx : l[i]? = some x) (he : x.k = c.k) : OneI l c (i + 1) o true := by
  rcases h with ⟨h, _⟩ | ⟨_, rfl, h⟩
  · cases h
  · have ht : l.take (i + 1) = l.take i ++ [x] := by rw [List.take_add_one, hx]; rfl
    refine .inr ⟨rfl, by rw [ht, upd_eq he], ?_⟩
    rcases h with h | ⟨y, h1, h2⟩
    · exact .inl h
    · exact .inr ⟨y, by rw [ht]; exact List.mem_append_left _ h1, h2⟩
theorem OneI.put (h : OneI l c i o false) (hx : l[i]? = some x) (he : befK c.k x.k = true) : OneI l c (i + 1) ((o ++ [⟨c.k, c.v⟩]) ++ [x]) true := by
  rcases h with ⟨_, hg, rfl, h⟩ | ⟨h, _⟩
  · have ht : l.take (i + 1) = l.take i ++ [x] := by rw [List.take_add_one, hx]; rfl
    refine .inr ⟨rfl, ?_, .inr ⟨x, ?_, befK_anti he⟩⟩
    · rw [ht, upd_gt he, upd_all h hg]
    · rw [ht]; simp
  · cases h
theorem OneI.on0 (h : OneI l c i o false) (hx : l[i]? = some x) (he : befK c.k x.k = false) (hn : ¬ x.k = c.k) : OneI l c (i + 1) (o ++ [x]) false := by
  rcases h with ⟨_, hg, rfl, h⟩ | ⟨h, _⟩
  · have ht : l.take (i + 1) = l.take i ++ [x] := by rw [List.take_add_one, hx]; rfl
    have hb : befK x.k c.k = true := by
      rcases befK_tri x.k c.k with h1 | h1 | h1
      · exact h1
      · exact absurd h1 hn
      · rw [he] at h1; cases h1
    refine .inl ⟨rfl, hg, ht.symm, fun f hf => ?_⟩
    rw [ht] at hf
    rcases List.mem_append.1 hf with hf | hf
    · exact h f hf
    · simp only [List.mem_cons, List.not_mem_nil, or_false] at hf
      rw [hf]; exact hb
  · cases h
theorem OneI.on1 (ho : ordF l = true) (h : OneI l c i o true) (hx : l[i]? = some x) (hn : ¬ x.k = c.k) : OneI l c (i + 1) (o ++ [x]) true := by
  rcases h with ⟨h, _⟩ | ⟨_, rfl, h⟩
  · cases h
  · have ht : l.take (i + 1) = l.take i ++ [x] := by rw [List.take_add_one, hx]; rfl
    have hall : ∀ f ∈ l.take i, befK f.k x.k = true := fun f hf => by
      obtain ⟨j, hj⟩ := List.mem_iff_getElem?.1 hf
      rw [List.getElem?_take] at hj
      split at hj
      · exact ord_at ho hj hx (by assumption)
      · cases hj
    refine .inr ⟨rfl, ?_, ?_⟩
    · rcases befK_tri c.k x.k with h1 | h1 | h1
      · rw [ht, upd_gt h1]
      · exact absurd h1.symm hn
      · rcases h with h | ⟨y, h2, h3⟩
        · rw [ht, upd_lt h1 hall h]
        · rw [befK_trans (hall y h2) h1] at h3
          cases h3
    · rcases h with h | ⟨y, h1, h2⟩
      · exact .inl h
      · exact .inr ⟨y, by rw [ht]; exact List.mem_append_left _ h1, h2⟩
theorem OneI.fin0 (h : OneI l c l.length o false) : o ++ [⟨c.k, c.v⟩] = updF l c := by
  rcases h with ⟨_, hg, rfl, h⟩ | ⟨h, _⟩
  · rw [List.take_length] at h ⊢
    exact (upd_all h hg).symm
  · cases h
theorem OneI.fin1 (h : OneI l c l.length o true) : o = updF l c := by
  rcases h with ⟨h, _⟩ | ⟨_, h, _⟩
  · cases h
  · rw [List.take_length] at h
    exact h
end

/-- A row of facts of the call's own; the values lie elsewhere. -/
def Mix (w : World) (B : Nat) (A : Option Addr) (c : Nat) (es : List FE) : Prop := OwnV w 27 5 B A es.length c (fes es) ∧ ∀ e ∈ es, ∀ u, Kept (InRow A) w u → EOk u e
section
variable {w w' w5 w7 : World} {B k c c2 : Nat} {A A2 : Option Addr} {es : List FE}
theorem Mix.nil (w : World) (B : Nat) : Mix w B none 0 [] := ⟨OwnV.nil _ _ _ _, by simp⟩
theorem Mix.new (h : Mix w B A c es) (hk : New w w') : Mix w' B A c es := ⟨h.1.new hk, fun e he u hu => h.2 e he u ((hk.mono (S' := InRow A) fun _ _ f => f.elim).trans hu fun _ _ h => h)⟩
theorem Mix.in_ (h : Mix w B A c es) : FIn w A es.length es := ⟨h.1.row, fun e he => h.2 e he w (Kept.refl _ _)⟩
theorem Mix.more {e : FE} (h : Mix w5 B A c es) (hk : es.length = k) (O7 : OwnV w7 27 5 B A2 (k + 1) c2 (fes es ++ e.cells)) (K7 : Kept (InRow A) w5 w7) (D7 : A2 = A ∨ ∃ y, A2 = some y ∧ w5.heap.size ≤ y.block)
    (he : ∀ u, Kept (InRow A2) w7 u → EOk u e) : Mix w7 B A2 c2 (es ++ [e]) := by
  refine ⟨?_, fun x hx u hu => ?_⟩
  · rw [fes_append, List.length_append, hk]
    simpa [fes] using O7
  · rcases List.mem_append.1 hx with hx | hx
    · refine h.2 x hx u (K7.trans hu fun i hi ⟨b, hb, e2⟩ => ?_)
      rcases D7 with rfl | ⟨y, rfl, hy⟩
      · exact ⟨b, hb, e2⟩
      · injection hb with hb
        subst hb
        omega
    · simp only [List.mem_cons, List.not_mem_nil, or_false] at hx
      subst hx
      exact he u hu
/-- Behind a row's growing nothing that was there ahead of it has turned. -/
theorem new_row {t : TypeId} {sz n : Nat} {vs : List Value} (k : New w w5) (h : OwnV w5 t sz w.heap.size A n c vs) (K7 : Kept (InRow A) w5 w7) : New w w7 :=
  k.trans K7 fun i hi ⟨b, hb, e⟩ => by
    have := (h.at_ b hb).2
    omega
/-- A value that the call made, beside a row. -/
theorem own_beside {u : World} {B' : Nat} {A4 : Option Addr} {c4 n : Nat} {x : FT} {vs : List Value} (o4 : OwnB w7 5 B' A4 c4 x.v) (h : OwnV w7 27 5 B A2 n c2 vs) (hx : x.v.length ≤ 140737488351232 ∧ x.k.n.size ≤ maxLen) (hu : Kept (InRow A2) w7 u) : EOk u ⟨x, A4, c4⟩ := by
  have o5 : OwnB u 5 B' A4 c4 x.v := o4.kept hu fun a ha ⟨b, hb, e2⟩ => (o4.at_ a ha).1.ne_of (e2 ▸ (h.at_ b hb).1) (by decide) rfl
  refine ⟨o5.bts, fun hA => ?_, hx⟩
  rcases o5.2 with ⟨_, e1, e2⟩ | ⟨g, sp, e1, _⟩
  · exact ⟨e1, by show x.v.length = 0; rw [e2]; rfl⟩
  · rw [show A4 = none from hA] at e1; cases e1
end

/-- One fact more behind a row of the call's own. -/
theorem wpList_append_fact {w wb : World} {ops : Array Oper} {rest : List Oper} {o : Oper} {a : Act} {Q : Exit → Act → World → Prop} (hgd : o.guard = none) (s x : Operand)
    (ho : o.op = .call { callee := .builtin .append, args := #[s, x], argTypes := #[22, 22] })
    (B : Nat) (A : Option Addr) (k ch : Nat) (vs : List Value) (hsv : a.eval s = .slice A k ch) (hown : OwnV wb 27 5 B A k ch vs) (hk : New wb w)
    (g c' : Nat) (us : List Value) (hx : a.eval x = .slice (some ⟨g, 0, none⟩) 1 c') (hb : Blk w g 27 us) (hul : us.length = 5) (h1 : ∀ u ∈ us, u.oneCell' = true) (hn : (k + 1) * 64 ≤ 140737488355328) (hbase : B ≤ wb.heap.size)
    (h : ∀ A2 c2 w', Hid (OwnV w' 27 5 B A2 (k + 1) c2 (vs ++ us)) → Hid (Kept (InRow A) wb w') → Hid (A2 = A ∨ ∃ y, A2 = some y ∧ wb.heap.size ≤ y.block) → wpList Try.prog ops Q rest (a.put o.dst (.slice A2 (k + 1) c2)) w') :
    wpList Try.prog ops Q (o :: rest) a w := by
  obtain ⟨i0, hi, hz0, hz1, hz2⟩ := info_parts info_fact
  have hr : RowV w (some ⟨g, 0, none⟩) 1 i0.size us := by
    rw [hz1]
    exact ⟨by rw [hul], fun _ => ⟨g, 0, rfl, fun j v hj => by rw [Nat.zero_add, hb.cell]; exact hj⟩⟩
  have ho' : OwnV w 27 i0.size B A k ch vs := by rw [hz1]; exact hown.new hk
  refine wpList_append_rowV w hgd s x 22 ho 27 i0 (.agg #[.int .i64 0, .int .u8 0, .string ⟨#[]⟩, .int .i64 0, .slice none 0 0]) Try.underlying22 hi hz0 (by rw [hz1]; rfl) (by rw [hz1]; omega) B A k ch vs hsv ho' (some ⟨g, 0, none⟩) 1 c' us hx hr h1 (by rw [hz2]; omega) (by omega) (Nat.le_trans hbase hk.size) ?_
  intro A2 c2 w' h3 h4 h5
  refine h A2 c2 w' (by have := h3.out; rw [hz1] at this; exact this) ?_ ?_
  · refine (hk.mono (S' := InRow A) fun _ _ f => f.elim).grown h4.out fun q _ hA => ?_
    obtain ⟨a, ha, e⟩ := Option.map_eq_some_iff.1 hA
    exact ⟨a, ha, e⟩
  · rcases h5.out with e | e
    · exact .inl e
    · exact .inr ⟨_, e, hk.size⟩
end Go.Proofs.Ytbiihjdjbknibaa
