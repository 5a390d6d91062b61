/- A plan for a region that appends to a row of one's own, and whose last operation stores what came of it. -/
import Derived.Test.YtgkfhaahcedbpaaGRW3
import Derived.Test.YtgkfhaahcedbpaaGM8
namespace Go.Proofs.Ytgkfhaahcedbpaa
open Go Go.RowKit
set_option linter.unusedVariables false
section
variable {P : Program} {ops : Array Oper} {a0 : Act} {F : Nat → Value → Prop} {F2 : Nat → World → Value → Prop} {w0 : World} {m n : Nat} {A : Value → World → Prop} {E : World → Prop}
/-- Facts: until the append they may speak of the world; of what the append gave one knows A until it is stored. -/
abbrev GAr (F : Nat → Value → Prop) (F2 : Nat → World → Value → Prop) (m n : Nat) (A : Value → World → Prop) : Array Bool → Nat → World → Value → Prop := fun l k w v => F k v ∧ (l.getD m false = false → F2 k w v) ∧ (k = m → l.getD n false = false → A v w)
abbrev JAr (w0 : World) (m n : Nat) (A : Value → World → Prop) (E : World → Prop) : Array Bool → World → Prop := fun l w => (l.getD m false = false → Below w0.heap.size w0 w) ∧ (l.getD n false = true → E w) ∧ (l.getD n false = true → l.getD m false = true)
theorem JAr.start {w0 w : World} {m n q : Nat} {A : Value → World → Prop} {E : World → Prop} (h : Below w0.heap.size w0 w) : JAr w0 m n A E (Array.replicate q false) w := by
  have e : (Array.replicate q false).getD n false = false := by
    by_cases hm : n < q
    · simp [Array.getD, hm]
    · simp [Array.getD, hm]
  exact ⟨fun _ => h, fun h => (by rw [e] at h; cases h), fun h => (by rw [e] at h; cases h)⟩
theorem und {G : Array Bool → Nat → World → Value → Prop} {J : Array Bool → World → Prop} {l : Array Bool} {a : Act} {w : World} (hp : PA ops G J a0 l a w) {k j : Nat} (hn : (ops[j]?).any (fun o => onB o.after k) = true) (hu : l.getD k false = false) : l.getD j false = false := by
  cases e : l.getD j false with
  | false => rfl
  | true =>
    exfalso
    cases ho : ops[j]? with
    | none => rw [ho] at hn; simp at hn
    | some o =>
      rw [ho] at hn
      have hd := onB_spec (by simpa using hn) (hp.down j o ho e)
      rw [hu] at hd
      cases hd
theorem set_oth {l : Array Bool} {k j : Nat} (hu : l.getD k true = false) (h : j ≠ k) : (l.setIfInBounds k true).getD j false = l.getD j false := by
  rw [set_ite (lt_of_undone hu), if_neg h]
theorem set_own {l : Array Bool} {k : Nat} (hu : l.getD k true = false) : (l.setIfInBounds k true).getD k false = true := by
  rw [set_ite (lt_of_undone hu), if_pos rfl]
/-- An operation ahead of the append: it reads. -/
theorem sar_val {k : Nat} {o : Oper} (hkm : k ≠ m) (hkn : k ≠ n) (hm : ∀ l a w, PA ops (GAr F F2 m n A) (JAr w0 m n A E) a0 l a w → l.getD k false = false → l.getD m false = false ∧ l.getD n false = false) (hg : o.guard = none) (h : ∀ l a w, PA ops (GAr F F2 m n A) (JAr w0 m n A E) a0 l a w → l.getD m false = false → Below w0.heap.size w0 w → (∀ e ∈ o.after, Region.binds .any e = true → l.getD e.on false = true) → ∃ x, (execOp a.eval o).run P w = .ok (.value x) w ∧ F k x ∧ F2 k w x) : Stp P ops (GAr F F2 m n A) (JAr w0 m n A E) a0 k o := by
  intro l a w hp hu ha
  obtain ⟨h1, h2⟩ := hm l a w hp (notDoneB hu)
  have hb := hp.j.1 h1
  obtain ⟨x, hr, hf, hf2⟩ := h l a w hp h1 hb ha
  unfold opW
  rw [if_pos (wanted_none hg)]
  refine .inl ⟨x, w, hr, x, rfl, ⟨fun _ => hb, fun e => ?_, fun e => ?_⟩, ⟨hf, fun _ => hf2, fun e => absurd e hkm⟩, fun j d hd hj hG => ⟨hG.1, fun _ => hG.2.1 h1, fun e _ => hG.2.2 e h2⟩⟩
  · rw [set_oth hu (Ne.symm hkn), h2] at e; cases e
  · rw [set_oth hu (Ne.symm hkn), h2] at e; cases e
theorem sar_new {k : Nat} {o : Oper} (hL : Lasts F2) (hkm : k ≠ m) (hkn : k ≠ n) (hm : ∀ l a w, PA ops (GAr F F2 m n A) (JAr w0 m n A E) a0 l a w → l.getD k false = false → l.getD m false = false ∧ l.getD n false = false) (hg : o.guard = none) (h : ∀ l a w, PA ops (GAr F F2 m n A) (JAr w0 m n A E) a0 l a w → l.getD m false = false → Below w0.heap.size w0 w → (∀ e ∈ o.after, Region.binds .any e = true → l.getD e.on false = true) → ∃ x ob, (execOp a.eval o).run P w = .ok (.value x) (w.alloc ob) ∧ F k x ∧ F2 k (w.alloc ob) x) : Stp P ops (GAr F F2 m n A) (JAr w0 m n A E) a0 k o := by
  intro l a w hp hu ha
  obtain ⟨h1, h2⟩ := hm l a w hp (notDoneB hu)
  have hb := hp.j.1 h1
  obtain ⟨x, ob, hr, hf, hf2⟩ := h l a w hp h1 hb ha
  unfold opW
  rw [if_pos (wanted_none hg)]
  refine .inl ⟨x, _, hr, x, rfl, ⟨fun _ => bal hb ob, fun e => ?_, fun e => ?_⟩, ⟨hf, fun _ => hf2, fun e => absurd e hkm⟩, fun j d hd hj hG => ⟨hG.1, fun _ => hL _ _ _ _ (bal (brf w) ob) (hG.2.1 h1), fun e _ => ?_⟩⟩
  · rw [set_oth hu (Ne.symm hkn), h2] at e; cases e
  · rw [set_oth hu (Ne.symm hkn), h2] at e; cases e
  · subst e; rw [h1] at hj; cases hj
theorem sar_call {k : Nat} {o : Oper} {f : FuncId} (hL : Lasts F2) (hkm : k ≠ m) (hkn : k ≠ n) (hm : ∀ l a w, PA ops (GAr F F2 m n A) (JAr w0 m n A E) a0 l a w → l.getD k false = false → l.getD m false = false ∧ l.getD n false = false) (hg : o.guard = none) (h : ∀ l a w, PA ops (GAr F F2 m n A) (JAr w0 m n A E) a0 l a w → l.getD m false = false → Below w0.heap.size w0 w → (∀ e ∈ o.after, Region.binds .any e = true → l.getD e.on false = true) → ∃ args, (execOp a.eval o).run P w = .ok (.enter f args) w ∧ Calls P f args w fun e w' => ∃ x, e = .returned x ∧ F k x ∧ F2 k w' x ∧ Below w.heap.size w w') : Stp P ops (GAr F F2 m n A) (JAr w0 m n A E) a0 k o := by
  intro l a w hp hu ha
  obtain ⟨h1, h2⟩ := hm l a w hp (notDoneB hu)
  have hb := hp.j.1 h1
  obtain ⟨args, hr, hc⟩ := h l a w hp h1 hb ha
  unfold opW
  rw [if_pos (wanted_none hg)]
  refine .inr (.inr ⟨f, args, w, hr, Calls.mono hc ?_⟩)
  rintro e w' ⟨x, rfl, hf, hf2, hb'⟩
  refine ⟨x, rfl, x, rfl, ⟨fun _ => btr hb hb', fun e => ?_, fun e => ?_⟩, ⟨hf, fun _ => hf2, fun e => absurd e hkm⟩, fun j d hd hj hG => ⟨hG.1, fun _ => hL _ _ _ _ hb' (hG.2.1 h1), fun e _ => ?_⟩⟩
  · rw [set_oth hu (Ne.symm hkn), h2] at e; cases e
  · rw [set_oth hu (Ne.symm hkn), h2] at e; cases e
  · subst e; rw [h1] at hj; cases hj
/-- An operation that looks at no memory, whenever it is done. -/
theorem sar_float {k : Nat} {o : Oper} (hkm : k ≠ m) (hkn : k ≠ n) (hn : ∀ l a w, PA ops (GAr F F2 m n A) (JAr w0 m n A E) a0 l a w → l.getD k false = false → l.getD n false = false) (hg : o.guard = none) (h : ∀ l a w, PA ops (GAr F F2 m n A) (JAr w0 m n A E) a0 l a w → (∀ e ∈ o.after, Region.binds .any e = true → l.getD e.on false = true) → ∃ x, (execOp a.eval o).run P w = .ok (.value x) w ∧ F k x ∧ F2 k w x) : Stp P ops (GAr F F2 m n A) (JAr w0 m n A E) a0 k o := by
  intro l a w hp hu ha
  have h2 := hn l a w hp (notDoneB hu)
  obtain ⟨x, hr, hf, hf2⟩ := h l a w hp ha
  unfold opW
  rw [if_pos (wanted_none hg)]
  refine .inl ⟨x, w, hr, x, rfl, ⟨fun e => ?_, fun e => ?_, fun e => ?_⟩, ⟨hf, fun _ => hf2, fun e => absurd e hkm⟩, fun j d hd hj hG => ⟨hG.1, fun e => ?_, fun e _ => hG.2.2 e h2⟩⟩
  · rw [set_oth hu (Ne.symm hkm)] at e; exact hp.j.1 e
  · rw [set_oth hu (Ne.symm hkn), h2] at e; cases e
  · rw [set_oth hu (Ne.symm hkn), h2] at e; cases e
  · rw [set_oth hu (Ne.symm hkm)] at e; exact hG.2.1 e
theorem sar_app {o : Oper} (hmn : m ≠ n) (hn : ∀ l a w, PA ops (GAr F F2 m n A) (JAr w0 m n A E) a0 l a w → l.getD m false = false → l.getD n false = false) (hg : o.guard = none) (h : ∀ l a w, PA ops (GAr F F2 m n A) (JAr w0 m n A E) a0 l a w → l.getD m false = false → Below w0.heap.size w0 w → (∀ e ∈ o.after, Region.binds .any e = true → l.getD e.on false = true) → ∃ x w', (execOp a.eval o).run P w = .ok (.value x) w' ∧ A x w' ∧ F m x) : Stp P ops (GAr F F2 m n A) (JAr w0 m n A E) a0 m o := by
  intro l a w hp hu ha
  have h1 := notDoneB hu
  have h2 := hn l a w hp h1
  obtain ⟨x, w', hr, hA, hf⟩ := h l a w hp h1 (hp.j.1 h1) ha
  unfold opW
  rw [if_pos (wanted_none hg)]
  refine .inl ⟨x, w', hr, x, rfl, ⟨fun e => ?_, fun e => ?_, fun e => ?_⟩, ⟨hf, fun e => ?_, fun _ _ => hA⟩, fun j d hd hj hG => ⟨hG.1, fun e => ?_, fun e _ => ?_⟩⟩
  · rw [set_own hu] at e; cases e
  · rw [set_oth hu (Ne.symm hmn), h2] at e; cases e
  · rw [set_oth hu (Ne.symm hmn), h2] at e; cases e
  · rw [set_own hu] at e; cases e
  · rw [set_own hu] at e; cases e
  · subst e; rw [h1] at hj; cases hj
theorem sar_last {o : Oper} {t : Tmp} (hmn : m ≠ n) (hg : o.guard = none) (hd : (ops[m]?).bind (·.dst) = some t) (hon : onB o.after m = true) (h : ∀ l a w, PA ops (GAr F F2 m n A) (JAr w0 m n A E) a0 l a w → A (a.eval (.tmp t)) w → (∀ e ∈ o.after, Region.binds .any e = true → l.getD e.on false = true) → ∃ w', (execOp a.eval o).run P w = .ok .skip w' ∧ E w') (hfn : F n undef) : Stp P ops (GAr F F2 m n A) (JAr w0 m n A E) a0 n o := by
  intro l a w hp hu ha
  have h2 := notDoneB hu
  have h1 : l.getD m false = true := onB_spec hon ha
  obtain ⟨om, hom, hdm⟩ := Option.bind_eq_some_iff.1 hd
  have hA := (hp.good m om t hom hdm h1).2.2 rfl h2
  obtain ⟨w', hr, hE⟩ := h l a w hp hA ha
  unfold opW
  rw [if_pos (wanted_none hg)]
  have e1 : (l.setIfInBounds n true).getD m false = true := by rw [set_oth hu hmn, h1]
  have e2 := set_own hu
  refine .inr (.inl ⟨w', hr, undef, rfl, ⟨fun e => ?_, fun _ => hE, fun _ => e1⟩, ⟨hfn, fun e => ?_, fun e => absurd e.symm hmn⟩, fun j d hd hj hG => ⟨hG.1, fun e => ?_, fun _ e => ?_⟩⟩)
  · rw [e1] at e; cases e
  · rw [e1] at e; cases e
  · rw [e1] at e; cases e
  · rw [e2] at e; cases e
end
end Go.Proofs.Ytgkfhaahcedbpaa
namespace Go.Proofs.Ytgkfhaahcedbpaa
open Go Go.RowKit Gs
set_option linter.unusedVariables false
section
variable {P : Program} {ops : Array Oper} {a0 : Act} {F F3 : Nat → World → Value → Prop} {w0 : World} {n : Nat} {E : World → Prop}
/-- Facts: some until the last operation is done, others behind it. -/
abbrev GZ (F F3 : Nat → World → Value → Prop) (n : Nat) : Array Bool → Nat → World → Value → Prop := fun l k w v => (l.getD n false = false → F k w v) ∧ (l.getD n false = true → F3 k w v)
theorem sz_val {k : Nat} {o : Oper} (hne : k ≠ n) (hn : (ops[n]?).any (fun o => onB o.after k) = true) (hg : o.guard = none) (h : ∀ l a w, PA ops (GZ F F3 n) (JE w0 n E) a0 l a w → l.getD n false = false → Below w0.heap.size w0 w → (∀ e ∈ o.after, Region.binds .any e = true → l.getD e.on false = true) → ∃ x, (execOp a.eval o).run P w = .ok (.value x) w ∧ F k w x) : Stp P ops (GZ F F3 n) (JE w0 n E) a0 k o := by
  intro l a w hp hu ha
  have hl := und hp hn (notDoneB hu)
  have hb := hp.j.1 hl
  obtain ⟨x, hr, hf⟩ := h l a w hp hl hb ha
  unfold opW
  rw [if_pos (wanted_none hg)]
  refine .inl ⟨x, w, hr, x, rfl, JE.step hne hu hl hb, ⟨fun _ => hf, fun e => ?_⟩, fun j d hd hj hG => ⟨fun _ => hG.1 hl, fun e => ?_⟩⟩
  · rw [set_oth hu (Ne.symm hne), hl] at e; cases e
  · rw [set_oth hu (Ne.symm hne), hl] at e; cases e
theorem sz_new {k : Nat} {o : Oper} (hL : Lasts F) (hne : k ≠ n) (hn : (ops[n]?).any (fun o => onB o.after k) = true) (hg : o.guard = none) (h : ∀ l a w, PA ops (GZ F F3 n) (JE w0 n E) a0 l a w → l.getD n false = false → Below w0.heap.size w0 w → (∀ e ∈ o.after, Region.binds .any e = true → l.getD e.on false = true) → ∃ x ob, (execOp a.eval o).run P w = .ok (.value x) (w.alloc ob) ∧ F k (w.alloc ob) x) : Stp P ops (GZ F F3 n) (JE w0 n E) a0 k o := by
  intro l a w hp hu ha
  have hl := und hp hn (notDoneB hu)
  have hb := hp.j.1 hl
  obtain ⟨x, ob, hr, hf⟩ := h l a w hp hl hb ha
  unfold opW
  rw [if_pos (wanted_none hg)]
  refine .inl ⟨x, _, hr, x, rfl, JE.step hne hu hl (bal hb ob), ⟨fun _ => hf, fun e => ?_⟩, fun j d hd hj hG => ⟨fun _ => hL _ _ _ _ (bal (brf w) ob) (hG.1 hl), fun e => ?_⟩⟩
  · rw [set_oth hu (Ne.symm hne), hl] at e; cases e
  · rw [set_oth hu (Ne.symm hne), hl] at e; cases e
theorem sz_call {k : Nat} {o : Oper} {f : FuncId} (hL : Lasts F) (hne : k ≠ n) (hn : (ops[n]?).any (fun o => onB o.after k) = true) (hg : o.guard = none) (h : ∀ l a w, PA ops (GZ F F3 n) (JE w0 n E) a0 l a w → l.getD n false = false → Below w0.heap.size w0 w → (∀ e ∈ o.after, Region.binds .any e = true → l.getD e.on false = true) → ∃ args, (execOp a.eval o).run P w = .ok (.enter f args) w ∧ Calls P f args w fun e w' => ∃ x, e = .returned x ∧ F k w' x ∧ Below w.heap.size w w') : Stp P ops (GZ F F3 n) (JE w0 n E) a0 k o := by
  intro l a w hp hu ha
  have hl := und hp hn (notDoneB hu)
  have hb := hp.j.1 hl
  obtain ⟨args, hr, hc⟩ := h l a w hp hl hb ha
  unfold opW
  rw [if_pos (wanted_none hg)]
  refine .inr (.inr ⟨f, args, w, hr, Calls.mono hc ?_⟩)
  rintro e w' ⟨x, rfl, hf, hb'⟩
  refine ⟨x, rfl, x, rfl, JE.step hne hu hl (btr hb hb'), ⟨fun _ => hf, fun e => ?_⟩, fun j d hd hj hG => ⟨fun _ => hL _ _ _ _ hb' (hG.1 hl), fun e => ?_⟩⟩
  · rw [set_oth hu (Ne.symm hne), hl] at e; cases e
  · rw [set_oth hu (Ne.symm hne), hl] at e; cases e
theorem sz_last {o : Oper} (hg : o.guard = none) (h : ∀ l a w, PA ops (GZ F F3 n) (JE w0 n E) a0 l a w → l.getD n false = false → Below w0.heap.size w0 w → (∀ e ∈ o.after, Region.binds .any e = true → l.getD e.on false = true) → ∃ w', (execOp a.eval o).run P w = .ok .skip w' ∧ E w' ∧ F3 n w' undef ∧ ∀ j d, (ops[j]?).bind (·.dst) = some d → F j w (a.eval (.tmp d)) → F3 j w' (a.eval (.tmp d))) : Stp P ops (GZ F F3 n) (JE w0 n E) a0 n o := by
  intro l a w hp hu ha
  have hl := notDoneB hu
  have hb := hp.j.1 hl
  obtain ⟨w', hr, hE, h3, hall⟩ := h l a w hp hl hb ha
  have e1 := set_own hu
  unfold opW
  rw [if_pos (wanted_none hg)]
  refine .inr (.inl ⟨w', hr, undef, rfl, ⟨fun e => ?_, fun _ => hE⟩, ⟨fun e => ?_, fun _ => h3⟩, fun j d hd hj hG => ⟨fun e => ?_, fun _ => hall j d hd (hG.1 hl)⟩⟩)
  · rw [e1] at e; cases e
  · rw [e1] at e; cases e
  · rw [e1] at e; cases e
end
end Go.Proofs.Ytgkfhaahcedbpaa
namespace Go.Proofs.Ytgkfhaahcedbpaa
open Go Go.RowKit Gs
set_option linter.unusedVariables false
set_option maxRecDepth 100000
def FSg35 (pb sb so sl sc eb k : Nat) (g : Signal) (B0 : Nat) : Nat → World → Value → Prop
  | 0, V, v => v = .pointer (some ⟨pb, 0, none⟩)
  | 1, V, v => v = .pointer (some ⟨pb, 0, none⟩)
  | 2, V, v => v = .pointer (some ⟨pb, 0, none⟩)
  | 3, V, v => v = .pointer (some ⟨pb, 0, none⟩)
  | 4, V, v => v = .slice (some ⟨sb, so, none⟩) sl sc
  | 5, V, v => v = .pointer (some ⟨eb, 2, none⟩)
  | 6, V, v => v = .int .i64 (k : Int)
  | 7, V, v => v = .pointer (some ⟨sb, so + k * 6, none⟩)
  | 8, V, v => v = .agg #[.string g.name, .int .i64 g.kind, .int .i64 g.width, .int .i64 g.depth, .bool g.signed, .string g.init]
  | 9, V, v => ∃ M, v = .pointer (some ⟨M, 0, none⟩) ∧ M < V.heap.size ∧ B0 ≤ M ∧ ∀ i, i < 6 → (∃ y, V.cell? ⟨M, i, none⟩ = some y) ∧ V.frozen? ⟨M, i, none⟩ = false
  | _, _, _ => True
theorem FSg35.lasts (pb sb so sl sc eb k : Nat) (g : Signal) (B0 : Nat) : Lasts (FSg35 pb sb so sl sc eb k g B0) := by
  intro k w w' v hbl h
  match k, h with
  | 0, h => exact h
  | 1, h => exact h
  | 2, h => exact h
  | 3, h => exact h
  | 4, h => exact h
  | 5, h => exact h
  | 6, h => exact h
  | 7, h => exact h
  | 8, h => exact h
  | 9, ⟨M, h1, h2, h3, h4⟩ => exact ⟨M, h1, Nat.lt_of_lt_of_le h2 hbl.size, h3, fun i hi => by
      obtain ⟨⟨y, hy⟩, hf⟩ := h4 i hi
      exact ⟨⟨y, cell_later hbl hy⟩, frozen_later hbl hy hf⟩⟩
  | _ + 10, _ => trivial
def FSg35b (g : Signal) (B0 : Nat) : Nat → World → Value → Prop
  | 9, V, v => ∃ M, v = .pointer (some ⟨M, 0, none⟩) ∧ B0 ≤ M ∧ At V M 0 [.string g.name, .int .i64 g.kind, .int .i64 g.width, .int .i64 g.depth, .bool g.signed, .string g.init]
  | _, _, _ => True
end Go.Proofs.Ytgkfhaahcedbpaa
