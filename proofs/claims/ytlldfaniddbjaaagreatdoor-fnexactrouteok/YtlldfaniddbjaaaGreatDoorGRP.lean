/- A plan for a region that appends to a row of one's own, and whose last operation stores what came of it. -/
import Derived.Test.YtlldfaniddbjaaaGreatDoorGRS4
import Derived.Test.YtlldfaniddbjaaaGreatDoorGFB
import Derived.Test.YtlldfaniddbjaaaGreatDoorGMX
import Derived.Test.YtlldfaniddbjaaaGreatDoorGRS3
namespace Go.Proofs.YtlldfaniddbjaaaGreatDoor
open Go Go.RowKit
set_option linter.unusedVariables false
section
variable {P : Program} {ops : Array Oper} {a0 : Act} {F : Nat → Value → Prop} {F2 : Nat → World → Value → Prop} {w0 : World} {m n : Nat} {A : Value → World → Prop} {E : World → Prop}
/-- Facts: until the append they may speak of the world; of what the append gave one knows A until it is stored. -/
abbrev GAr (F : Nat → Value → Prop) (F2 : Nat → World → Value → Prop) (m n : Nat) (A : Value → World → Prop) : Array Bool → Nat → World → Value → Prop := fun l k w v => F k v ∧ (l.getD m false = false → F2 k w v) ∧ (k = m → l.getD n false = false → A v w)
abbrev JAr (w0 : World) (m n : Nat) (A : Value → World → Prop) (E : World → Prop) : Array Bool → World → Prop := fun l w => (l.getD m false = false → Below w0.heap.size w0 w) ∧ (l.getD n false = true → E w) ∧ (l.getD n false = true → l.getD m false = true)
theorem JAr.start {w0 w : World} {m n q : Nat} {A : Value → World → Prop} {E : World → Prop} (h : Below w0.heap.size w0 w) : JAr w0 m n A E (Array.replicate q false) w := by
  have e : (Array.replicate q false).getD n false = false := by
    by_cases hm : n < q
    · simp [Array.getD, hm]
    · simp [Array.getD, hm]
  exact ⟨fun _ => h, fun h => (by rw [e] at h; cases h), fun h => (by rw [e] at h; cases h)⟩
theorem und {G : Array Bool → Nat → World → Value → Prop} {J : Array Bool → World → Prop} {l : Array Bool} {a : Act} {w : World} (hp : PA ops G J a0 l a w) {k j : Nat} (hn : (ops[j]?).any (fun o => onB o.after k) = true) (hu : l.getD k false = false) : l.getD j false = false := by
  cases e : l.getD j false with
  | false => rfl
  | true =>
    exfalso
    cases ho : ops[j]? with
    | none => rw [ho] at hn; simp at hn
    | some o =>
      rw [ho] at hn
      have hd := onB_spec (by simpa using hn) (hp.down j o ho e)
      rw [hu] at hd
      cases hd
theorem set_oth {l : Array Bool} {k j : Nat} (hu : l.getD k true = false) (h : j ≠ k) : (l.setIfInBounds k true).getD j false = l.getD j false := by
  rw [set_ite (lt_of_undone hu), if_neg h]
theorem set_own {l : Array Bool} {k : Nat} (hu : l.getD k true = false) : (l.setIfInBounds k true).getD k false = true := by
  rw [set_ite (lt_of_undone hu), if_pos rfl]
/-- An operation ahead of the append: it reads. -/
theorem sar_val {k : Nat} {o : Oper} (hkm : k ≠ m) (hkn : k ≠ n) (hm : ∀ l a w, PA ops (GAr F F2 m n A) (JAr w0 m n A E) a0 l a w → l.getD k false = false → l.getD m false = false ∧ l.getD n false = false) (hg : o.guard = none) (h : ∀ l a w, PA ops (GAr F F2 m n A) (JAr w0 m n A E) a0 l a w → l.getD m false = false → Below w0.heap.size w0 w → (∀ e ∈ o.after, Region.binds .any e = true → l.getD e.on false = true) → ∃ x, (execOp a.eval o).run P w = .ok (.value x) w ∧ F k x ∧ F2 k w x) : Stp P ops (GAr F F2 m n A) (JAr w0 m n A E) a0 k o := by
  intro l a w hp hu ha
  obtain ⟨h1, h2⟩ := hm l a w hp (notDoneB hu)
  have hb := hp.j.1 h1
  obtain ⟨x, hr, hf, hf2⟩ := h l a w hp h1 hb ha
  unfold opW
  rw [if_pos (wanted_none hg)]
  refine .inl ⟨x, w, hr, x, rfl, ⟨fun _ => hb, fun e => ?_, fun e => ?_⟩, ⟨hf, fun _ => hf2, fun e => absurd e hkm⟩, fun j d hd hj hG => ⟨hG.1, fun _ => hG.2.1 h1, fun e _ => hG.2.2 e h2⟩⟩
  · rw [set_oth hu (Ne.symm hkn), h2] at e; cases e
  · rw [set_oth hu (Ne.symm hkn), h2] at e; cases e
theorem sar_new {k : Nat} {o : Oper} (hL : Lasts F2) (hkm : k ≠ m) (hkn : k ≠ n) (hm : ∀ l a w, PA ops (GAr F F2 m n A) (JAr w0 m n A E) a0 l a w → l.getD k false = false → l.getD m false = false ∧ l.getD n false = false) (hg : o.guard = none) (h : ∀ l a w, PA ops (GAr F F2 m n A) (JAr w0 m n A E) a0 l a w → l.getD m false = false → Below w0.heap.size w0 w → (∀ e ∈ o.after, Region.binds .any e = true → l.getD e.on false = true) → ∃ x ob, (execOp a.eval o).run P w = .ok (.value x) (w.alloc ob) ∧ F k x ∧ F2 k (w.alloc ob) x) : Stp P ops (GAr F F2 m n A) (JAr w0 m n A E) a0 k o := by
  intro l a w hp hu ha
  obtain ⟨h1, h2⟩ := hm l a w hp (notDoneB hu)
  have hb := hp.j.1 h1
  obtain ⟨x, ob, hr, hf, hf2⟩ := h l a w hp h1 hb ha
  unfold opW
  rw [if_pos (wanted_none hg)]
  refine .inl ⟨x, _, hr, x, rfl, ⟨fun _ => bal hb ob, fun e => ?_, fun e => ?_⟩, ⟨hf, fun _ => hf2, fun e => absurd e hkm⟩, fun j d hd hj hG => ⟨hG.1, fun _ => hL _ _ _ _ (bal (brf w) ob) (hG.2.1 h1), fun e _ => ?_⟩⟩
  · rw [set_oth hu (Ne.symm hkn), h2] at e; cases e
  · rw [set_oth hu (Ne.symm hkn), h2] at e; cases e
  · subst e; rw [h1] at hj; cases hj
theorem sar_call {k : Nat} {o : Oper} {f : FuncId} (hL : Lasts F2) (hkm : k ≠ m) (hkn : k ≠ n) (hm : ∀ l a w, PA ops (GAr F F2 m n A) (JAr w0 m n A E) a0 l a w → l.getD k false = false → l.getD m false = false ∧ l.getD n false = false) (hg : o.guard = none) (h : ∀ l a w, PA ops (GAr F F2 m n A) (JAr w0 m n A E) a0 l a w → l.getD m false = false → Below w0.heap.size w0 w → (∀ e ∈ o.after, Region.binds .any e = true → l.getD e.on false = true) → ∃ args, (execOp a.eval o).run P w = .ok (.enter f args) w ∧ Calls P f args w fun e w' => ∃ x, e = .returned x ∧ F k x ∧ F2 k w' x ∧ Below w.heap.size w w') : Stp P ops (GAr F F2 m n A) (JAr w0 m n A E) a0 k o := by
  intro l a w hp hu ha
  obtain ⟨h1, h2⟩ := hm l a w hp (notDoneB hu)
  have hb := hp.j.1 h1
  obtain ⟨args, hr, hc⟩ := h l a w hp h1 hb ha
  unfold opW
  rw [if_pos (wanted_none hg)]
  refine .inr (.inr ⟨f, args, w, hr, Calls.mono hc ?_⟩)
  rintro e w' ⟨x, rfl, hf, hf2, hb'⟩
  refine ⟨x, rfl, x, rfl, ⟨fun _ => btr hb hb', fun e => ?_, fun e => ?_⟩, ⟨hf, fun _ => hf2, fun e => absurd e hkm⟩, fun j d hd hj hG => ⟨hG.1, fun _ => hL _ _ _ _ hb' (hG.2.1 h1), fun e _ => ?_⟩⟩
  · rw [set_oth hu (Ne.symm hkn), h2] at e; cases e
  · rw [set_oth hu (Ne.symm hkn), h2] at e; cases e
  · subst e; rw [h1] at hj; cases hj
/-- An operation that looks at no memory, whenever it is done. -/
theorem sar_float {k : Nat} {o : Oper} (hkm : k ≠ m) (hkn : k ≠ n) (hn : ∀ l a w, PA ops (GAr F F2 m n A) (JAr w0 m n A E) a0 l a w → l.getD k false = false → l.getD n false = false) (hg : o.guard = none) (h : ∀ l a w, PA ops (GAr F F2 m n A) (JAr w0 m n A E) a0 l a w → (∀ e ∈ o.after, Region.binds .any e = true → l.getD e.on false = true) → ∃ x, (execOp a.eval o).run P w = .ok (.value x) w ∧ F k x ∧ F2 k w x) : Stp P ops (GAr F F2 m n A) (JAr w0 m n A E) a0 k o := by
  intro l a w hp hu ha
  have h2 := hn l a w hp (notDoneB hu)
  obtain ⟨x, hr, hf, hf2⟩ := h l a w hp ha
  unfold opW
  rw [if_pos (wanted_none hg)]
  refine .inl ⟨x, w, hr, x, rfl, ⟨fun e => ?_, fun e => ?_, fun e => ?_⟩, ⟨hf, fun _ => hf2, fun e => absurd e hkm⟩, fun j d hd hj hG => ⟨hG.1, fun e => ?_, fun e _ => hG.2.2 e h2⟩⟩
  · rw [set_oth hu (Ne.symm hkm)] at e; exact hp.j.1 e
  · rw [set_oth hu (Ne.symm hkn), h2] at e; cases e
  · rw [set_oth hu (Ne.symm hkn), h2] at e; cases e
  · rw [set_oth hu (Ne.symm hkm)] at e; exact hG.2.1 e
theorem sar_app {o : Oper} (hmn : m ≠ n) (hn : ∀ l a w, PA ops (GAr F F2 m n A) (JAr w0 m n A E) a0 l a w → l.getD m false = false → l.getD n false = false) (hg : o.guard = none) (h : ∀ l a w, PA ops (GAr F F2 m n A) (JAr w0 m n A E) a0 l a w → l.getD m false = false → Below w0.heap.size w0 w → (∀ e ∈ o.after, Region.binds .any e = true → l.getD e.on false = true) → ∃ x w', (execOp a.eval o).run P w = .ok (.value x) w' ∧ A x w' ∧ F m x) : Stp P ops (GAr F F2 m n A) (JAr w0 m n A E) a0 m o := by
  intro l a w hp hu ha
  have h1 := notDoneB hu
  have h2 := hn l a w hp h1
  obtain ⟨x, w', hr, hA, hf⟩ := h l a w hp h1 (hp.j.1 h1) ha
  unfold opW
  rw [if_pos (wanted_none hg)]
  refine .inl ⟨x, w', hr, x, rfl, ⟨fun e => ?_, fun e => ?_, fun e => ?_⟩, ⟨hf, fun e => ?_, fun _ _ => hA⟩, fun j d hd hj hG => ⟨hG.1, fun e => ?_, fun e _ => ?_⟩⟩
  · rw [set_own hu] at e; cases e
  · rw [set_oth hu (Ne.symm hmn), h2] at e; cases e
  · rw [set_oth hu (Ne.symm hmn), h2] at e; cases e
  · rw [set_own hu] at e; cases e
  · rw [set_own hu] at e; cases e
  · subst e; rw [h1] at hj; cases hj
theorem sar_last {o : Oper} {t : Tmp} (hmn : m ≠ n) (hg : o.guard = none) (hd : (ops[m]?).bind (·.dst) = some t) (hon : onB o.after m = true) (h : ∀ l a w, PA ops (GAr F F2 m n A) (JAr w0 m n A E) a0 l a w → A (a.eval (.tmp t)) w → (∀ e ∈ o.after, Region.binds .any e = true → l.getD e.on false = true) → ∃ w', (execOp a.eval o).run P w = .ok .skip w' ∧ E w') (hfn : F n undef) : Stp P ops (GAr F F2 m n A) (JAr w0 m n A E) a0 n o := by
  intro l a w hp hu ha
  have h2 := notDoneB hu
  have h1 : l.getD m false = true := onB_spec hon ha
  obtain ⟨om, hom, hdm⟩ := Option.bind_eq_some_iff.1 hd
  have hA := (hp.good m om t hom hdm h1).2.2 rfl h2
  obtain ⟨w', hr, hE⟩ := h l a w hp hA ha
  unfold opW
  rw [if_pos (wanted_none hg)]
  have e1 : (l.setIfInBounds n true).getD m false = true := by rw [set_oth hu hmn, h1]
  have e2 := set_own hu
  refine .inr (.inl ⟨w', hr, undef, rfl, ⟨fun e => ?_, fun _ => hE, fun _ => e1⟩, ⟨hfn, fun e => ?_, fun e => absurd e.symm hmn⟩, fun j d hd hj hG => ⟨hG.1, fun e => ?_, fun _ e => ?_⟩⟩)
  · rw [e1] at e; cases e
  · rw [e1] at e; cases e
  · rw [e1] at e; cases e
  · rw [e2] at e; cases e
end
end Go.Proofs.YtlldfaniddbjaaaGreatDoor
namespace Go.Proofs.YtlldfaniddbjaaaGreatDoor
open Go Go.RowKit
set_option linter.unusedVariables false
section
variable {P : Program} {ops : Array Oper} {a0 : Act} {F : Nat → Value → Prop} {F2 : Nat → World → Value → Prop} {w0 : World} {m : Nat} {A : Value → World → Prop}
abbrev GB (F : Nat → Value → Prop) (F2 : Nat → World → Value → Prop) (m : Nat) (A : Value → World → Prop) : Array Bool → Nat → World → Value → Prop := fun l k w v => F k v ∧ (l.getD m false = false → F2 k w v) ∧ ((k = m ∨ k = m + 1) → A v w)
abbrev JC (w0 : World) (m : Nat) : Array Bool → World → Prop := fun l w => (l.getD m false = false → Below w0.heap.size w0 w)
theorem sb_val {k : Nat} {o : Oper} (hkm : k ≠ m) (hkn : k ≠ m + 1) (hd1 : ∀ l a w, PA ops (GB F F2 m A) (JC w0 m) a0 l a w → l.getD k false = false → l.getD m false = false ∧ l.getD (m + 1) false = false) (hg : o.guard = none) (h : ∀ l a w, PA ops (GB F F2 m A) (JC w0 m) a0 l a w → l.getD (m + 1) false = false → Below w0.heap.size w0 w → (∀ e ∈ o.after, Region.binds .any e = true → l.getD e.on false = true) → ∃ x, (execOp a.eval o).run P w = .ok (.value x) w ∧ F k x ∧ F2 k w x) : Stp P ops (GB F F2 m A) (JC w0 m) a0 k o := by
  intro l a w hp hu ha
  obtain ⟨h1, h2⟩ := hd1 l a w hp (notDoneB hu)
  have hb := hp.j h1
  obtain ⟨x, hr, hf, hf2⟩ := h l a w hp h2 hb ha
  unfold opW
  rw [if_pos (wanted_none hg)]
  exact .inl ⟨x, w, hr, x, rfl, fun _ => hb, ⟨hf, fun _ => hf2, fun e => e.elim (absurd · hkm) (absurd · hkn)⟩, fun j d hd hj hG => ⟨hG.1, fun _ => hG.2.1 h1, hG.2.2⟩⟩
theorem sb_new {k : Nat} {o : Oper} (hL : Lasts F2) (hkm : k ≠ m) (hkn : k ≠ m + 1) (hd1 : ∀ l a w, PA ops (GB F F2 m A) (JC w0 m) a0 l a w → l.getD k false = false → l.getD m false = false ∧ l.getD (m + 1) false = false) (hg : o.guard = none) (h : ∀ l a w, PA ops (GB F F2 m A) (JC w0 m) a0 l a w → l.getD m false = false → Below w0.heap.size w0 w → (∀ e ∈ o.after, Region.binds .any e = true → l.getD e.on false = true) → ∃ x ob, (execOp a.eval o).run P w = .ok (.value x) (w.alloc ob) ∧ F k x ∧ F2 k (w.alloc ob) x) : Stp P ops (GB F F2 m A) (JC w0 m) a0 k o := by
  intro l a w hp hu ha
  obtain ⟨h1, h2⟩ := hd1 l a w hp (notDoneB hu)
  have hb := hp.j h1
  obtain ⟨x, ob, hr, hf, hf2⟩ := h l a w hp h1 hb ha
  unfold opW
  rw [if_pos (wanted_none hg)]
  refine .inl ⟨x, _, hr, x, rfl, fun _ => bal hb ob, ⟨hf, fun _ => hf2, fun e => e.elim (absurd · hkm) (absurd · hkn)⟩, fun j d hd hj hG => ⟨hG.1, fun _ => hL _ _ _ _ (bal (brf w) ob) (hG.2.1 h1), fun e => ?_⟩⟩
  rcases e with e | e
  · subst e; rw [h1] at hj; cases hj
  · subst e; rw [h2] at hj; cases hj
theorem sb_call {k : Nat} {o : Oper} {f : FuncId} (hL : Lasts F2) (hkm : k ≠ m) (hkn : k ≠ m + 1) (hd1 : ∀ l a w, PA ops (GB F F2 m A) (JC w0 m) a0 l a w → l.getD k false = false → l.getD m false = false ∧ l.getD (m + 1) false = false) (hg : o.guard = none) (h : ∀ l a w, PA ops (GB F F2 m A) (JC w0 m) a0 l a w → l.getD m false = false → Below w0.heap.size w0 w → (∀ e ∈ o.after, Region.binds .any e = true → l.getD e.on false = true) → ∃ args, (execOp a.eval o).run P w = .ok (.enter f args) w ∧ Calls P f args w fun e w' => ∃ x, e = .returned x ∧ F k x ∧ F2 k w' x ∧ Below w.heap.size w w') : Stp P ops (GB F F2 m A) (JC w0 m) a0 k o := by
  intro l a w hp hu ha
  obtain ⟨h1, h2⟩ := hd1 l a w hp (notDoneB hu)
  have hb := hp.j h1
  obtain ⟨args, hr, hc⟩ := h l a w hp h1 hb ha
  unfold opW
  rw [if_pos (wanted_none hg)]
  refine .inr (.inr ⟨f, args, w, hr, Calls.mono hc ?_⟩)
  rintro e w' ⟨x, rfl, hf, hf2, hb'⟩
  refine ⟨x, rfl, x, rfl, fun _ => btr hb hb', ⟨hf, fun _ => hf2, fun e => e.elim (absurd · hkm) (absurd · hkn)⟩, fun j d hd hj hG => ⟨hG.1, fun _ => hL _ _ _ _ hb' (hG.2.1 h1), fun e => ?_⟩⟩
  rcases e with e | e
  · subst e; rw [h1] at hj; cases hj
  · subst e; rw [h2] at hj; cases hj
theorem sb_app {o : Oper} (hn : ∀ l a w, PA ops (GB F F2 m A) (JC w0 m) a0 l a w → l.getD m false = false → l.getD (m + 1) false = false) (hg : o.guard = none) (h : ∀ l a w, PA ops (GB F F2 m A) (JC w0 m) a0 l a w → l.getD m false = false → Below w0.heap.size w0 w → (∀ e ∈ o.after, Region.binds .any e = true → l.getD e.on false = true) → ∃ x w', (execOp a.eval o).run P w = .ok (.value x) w' ∧ A x w' ∧ F m x) : Stp P ops (GB F F2 m A) (JC w0 m) a0 m o := by
  intro l a w hp hu ha
  have h1 := notDoneB hu
  have h2 := hn l a w hp h1
  obtain ⟨x, w', hr, hA, hf⟩ := h l a w hp h1 (hp.j h1) ha
  unfold opW
  rw [if_pos (wanted_none hg)]
  refine .inl ⟨x, w', hr, x, rfl, fun e => ?_, ⟨hf, fun e => ?_, fun _ => hA⟩, fun j d hd hj hG => ⟨hG.1, fun e => ?_, fun e => ?_⟩⟩
  · rw [set_own hu] at e; cases e
  · rw [set_own hu] at e; cases e
  · rw [set_own hu] at e; cases e
  · rcases e with e | e
    · subst e; rw [h1] at hj; cases hj
    · subst e; rw [h2] at hj; cases hj
theorem sb_last {o : Oper} {t : Tmp} (hg : o.guard = none) (hd : (ops[m]?).bind (·.dst) = some t) (hon : onB o.after m = true) (h : ∀ l a w, PA ops (GB F F2 m A) (JC w0 m) a0 l a w → (execOp a.eval o).run P w = .ok (.value (a.eval (.tmp t))) w) (hF : ∀ v, F (m + 1) v) : Stp P ops (GB F F2 m A) (JC w0 m) a0 (m + 1) o := by
  intro l a w hp hu ha
  have h1 : l.getD m false = true := onB_spec hon ha
  obtain ⟨om, hom, hdm⟩ := Option.bind_eq_some_iff.1 hd
  have hA := (hp.good m om t hom hdm h1).2.2 (.inl rfl)
  have hr := h l a w hp
  unfold opW
  rw [if_pos (wanted_none hg)]
  have e1 : (l.setIfInBounds (m + 1) true).getD m false = true := by rw [set_oth hu (by omega), h1]
  refine .inl ⟨_, w, hr, _, rfl, fun e => ?_, ⟨hF _, fun e => ?_, fun _ => hA⟩, fun j d hd hj hG => ⟨hG.1, fun e => ?_, hG.2.2⟩⟩
  · rw [e1] at e; cases e
  · rw [e1] at e; cases e
  · rw [e1] at e; cases e
end
end Go.Proofs.YtlldfaniddbjaaaGreatDoor
namespace Go.Proofs.YtlldfaniddbjaaaGreatDoor
open Go Go.RowKit Gs
set_option linter.unusedVariables false
set_option maxRecDepth 100000
def spC (s : Int × Int) : List Value := [.int .i64 s.1, .int .i64 s.2]
theorem spC_len (s : Int × Int) : (spC s).length = 2 := rfl
theorem spC_one (s : Int × Int) : ∀ u ∈ spC s, u.oneCell' = true := by
  intro u hu
  simp [spC] at hu
  rcases hu with rfl | rfl <;> rfl
def spZ : Value := .agg #[.int .i64 0, .int .i64 0]
theorem info57 : (Tryz.prog.info? 57).map (fun i => (i.zero, i.size, i.bytes)) = some (some spZ, 2, 16) := by kernel_rfl
theorem info87 : (Tryz.prog.info? 87).map (fun i => (i.zero, i.size, i.bytes)) = some (some spZ, 2, 16) := by kernel_rfl
/-- What is known of the slice that is appended: where it lies, and its cells. -/
def F2B (K : Nat) (cs : List Value) : Nat → World → Value → Prop := fun k w v => k = K → ∃ M1, v = .slice (some ⟨M1, 0, none⟩) 1 1 ∧ At w M1 0 cs
theorem F2B.lasts (K : Nat) (cs : List Value) : Lasts (F2B K cs) := by
  intro k w w' v hb h e
  obtain ⟨M1, hv, hc⟩ := h e
  exact ⟨M1, hv, fun j y hj => cell_later hb (hc j y hj)⟩
/-- What came of the append. -/
def AP {α : Type} (t k : Nat) (f : α → List Value) (B : Nat) (W0 : World) (vl : Value) (xs : List α) (v : Value) (V : World) : Prop := OW t k f B V v xs ∧ ∃ V0, Below W0.heap.size W0 V0 ∧ V0.grownBy V vl.ownBlock
theorem new_at (V : World) (cs : List Value) (t : TypeId) : At (V.alloc (.cells cs.toArray t)) V.heap.size 0 cs := fun j y hj => by
  rw [Nat.zero_add, World.cell?_alloc_new]
  simpa using hj
theorem run_app_one {α : Type} {t ts k by_ : Nat} {f : α → List Value} {z : Value} (hu : Tryz.prog.underlying ts = some (.slice t)) (hinf : (Tryz.prog.info? t).map (fun i => (i.zero, i.size, i.bytes)) = some (some z, k, by_)) (hzs : z.cells.size = k) (hk : 0 < k) (hbl : by_ ≤ 256)
    (hf : ∀ x, (f x).length = k) (h1 : ∀ x, ∀ u ∈ f x, u.oneCell' = true) {V : World} {B : Nat} {vl : Value} {xs : List α} {x : α} {M1 : Nat} (hown : OW t k f B V vl xs) (hat : At V M1 0 (f x)) (hl : xs.length ≤ 4194303) (hB : B ≤ V.heap.size) :
    ∃ v' w', (Builtin.append_ #[ts, ts] ts #[vl, .slice (some ⟨M1, 0, none⟩) 1 1]).run Tryz.prog V = .ok v' w' ∧ OW t k f B w' v' (xs ++ [x]) ∧ V.grownBy w' vl.ownBlock := by
  obtain ⟨i0, hi, hz0, hz1, hz2⟩ := info_parts hinf
  obtain ⟨v', w', hr, h2, h3, _⟩ := run_append_own (P := Tryz.prog) V B ts ts t i0 z k by_ hu hi hz0 hz1 hz2 hzs hk vl xs.length (xs.flatMap f) hown ⟨M1, 0, none⟩ 1 1 (f x) (by rw [hf]; omega) (fun j u hj => by
    have := hat j u hj
    rw [Addr.add_lit]; exact this) (h1 x) (by unfold maxLen; omega) (by
      have : (xs.length + 1) * by_ ≤ 4194304 * 256 := Nat.mul_le_mul (by omega) hbl
      omega) hB
  refine ⟨v', w', hr, ?_, h3⟩
  unfold OW
  rw [List.length_append, List.flatMap_append]
  simpa using h2
theorem AP.below {α : Type} {t k B : Nat} {f : α → List Value} {W0 V : World} {vl v : Value} {xs ys : List α} (h : AP t k f B W0 vl xs v V) (ho : OW t k f B W0 vl ys) (hB : W0.heap.size = B ∨ B ≤ W0.heap.size) : OW t k f B V v xs ∧ Below B W0 V := by
  obtain ⟨h1, V0, hb, hg⟩ := h
  have hB' : B ≤ W0.heap.size := by omega
  exact ⟨h1, below_grown (hb.mono hB') hg (Nat.le_trans hB' hb.size) ho.row⟩
end Go.Proofs.YtlldfaniddbjaaaGreatDoor
