/- A plan for a region that appends to a row of one's own, and whose last operation takes what came of it into a slot. -/
import Derived.Test.YtpkgcccbhfdaiabRW5
namespace Go.Proofs.Ytpkgcccbhfdaiab
open Go Go.RowKit
set_option linter.unusedVariables false
section
variable {P : Program} {ops : Array Oper} {a0 : Act} {F : Nat → Value → Prop} {F2 : Nat → World → Value → Prop} {w0 : World} {m : Nat} {A : Value → World → Prop}
abbrev GB (F : Nat → Value → Prop) (F2 : Nat → World → Value → Prop) (m : Nat) (A : Value → World → Prop) : Array Bool → Nat → World → Value → Prop := fun l k w v => F k v ∧ (l.getD m false = false → F2 k w v) ∧ ((k = m ∨ k = m + 1) → A v w)
abbrev JC (w0 : World) (m : Nat) : Array Bool → World → Prop := fun l w => (l.getD m false = false → Below w0.heap.size w0 w)
theorem sb_val {k : Nat} {o : Oper} (hkm : k ≠ m) (hkn : k ≠ m + 1) (hd1 : ∀ l a w, PA ops (GB F F2 m A) (JC w0 m) a0 l a w → l.getD k false = false → l.getD m false = false ∧ l.getD (m + 1) false = false) (hg : o.guard = none) (h : ∀ l a w, PA ops (GB F F2 m A) (JC w0 m) a0 l a w → l.getD (m + 1) false = false → Below w0.heap.size w0 w → (∀ e ∈ o.after, Region.binds .any e = true → l.getD e.on false = true) → ∃ x, (execOp a.eval o).run P w = .ok (.value x) w ∧ F k x ∧ F2 k w x) : Stp P ops (GB F F2 m A) (JC w0 m) a0 k o := by
  intro l a w hp hu ha
  obtain ⟨h1, h2⟩ := hd1 l a w hp (notDoneB hu)
  have hb := hp.j h1
  obtain ⟨x, hr, hf, hf2⟩ := h l a w hp h2 hb ha
  unfold opW
  rw [if_pos (wanted_none hg)]
  exact .inl ⟨x, w, hr, x, rfl, fun _ => hb, ⟨hf, fun _ => hf2, fun e => e.elim (absurd · hkm) (absurd · hkn)⟩, fun j d hd hj hG => ⟨hG.1, fun _ => hG.2.1 h1, hG.2.2⟩⟩
theorem sb_new {k : Nat} {o : Oper} (hL : Lasts F2) (hkm : k ≠ m) (hkn : k ≠ m + 1) (hd1 : ∀ l a w, PA ops (GB F F2 m A) (JC w0 m) a0 l a w → l.getD k false = false → l.getD m false = false ∧ l.getD (m + 1) false = false) (hg : o.guard = none) (h : ∀ l a w, PA ops (GB F F2 m A) (JC w0 m) a0 l a w → l.getD m false = false → Below w0.heap.size w0 w → (∀ e ∈ o.after, Region.binds .any e = true → l.getD e.on false = true) → ∃ x ob, (execOp a.eval o).run P w = .ok (.value x) (w.alloc ob) ∧ F k x ∧ F2 k (w.alloc ob) x) : Stp P ops (GB F F2 m A) (JC w0 m) a0 k o := by
  intro l a w hp hu ha
  obtain ⟨h1, h2⟩ := hd1 l a w hp (notDoneB hu)
  have hb := hp.j h1
  obtain ⟨x, ob, hr, hf, hf2⟩ := h l a w hp h1 hb ha
  unfold opW
  rw [if_pos (wanted_none hg)]
  refine .inl ⟨x, _, hr, x, rfl, fun _ => bal hb ob, ⟨hf, fun _ => hf2, fun e => e.elim (absurd · hkm) (absurd · hkn)⟩, fun j d hd hj hG => ⟨hG.1, fun _ => hL _ _ _ _ (bal (brf w) ob) (hG.2.1 h1), fun e => ?_⟩⟩
  rcases e with e | e
  · subst e; rw [h1] at hj; cases hj
  · subst e; rw [h2] at hj; cases hj
theorem sb_call {k : Nat} {o : Oper} {f : FuncId} (hL : Lasts F2) (hkm : k ≠ m) (hkn : k ≠ m + 1) (hd1 : ∀ l a w, PA ops (GB F F2 m A) (JC w0 m) a0 l a w → l.getD k false = false → l.getD m false = false ∧ l.getD (m + 1) false = false) (hg : o.guard = none) (h : ∀ l a w, PA ops (GB F F2 m A) (JC w0 m) a0 l a w → l.getD m false = false → Below w0.heap.size w0 w → (∀ e ∈ o.after, Region.binds .any e = true → l.getD e.on false = true) → ∃ args, (execOp a.eval o).run P w = .ok (.enter f args) w ∧ Calls P f args w fun e w' => ∃ x, e = .returned x ∧ F k x ∧ F2 k w' x ∧ Below w.heap.size w w') : Stp P ops (GB F F2 m A) (JC w0 m) a0 k o := by
  intro l a w hp hu ha
  obtain ⟨h1, h2⟩ := hd1 l a w hp (notDoneB hu)
  have hb := hp.j h1
  obtain ⟨args, hr, hc⟩ := h l a w hp h1 hb ha
  unfold opW
  rw [if_pos (wanted_none hg)]
  refine .inr (.inr ⟨f, args, w, hr, Calls.mono hc ?_⟩)
  rintro e w' ⟨x, rfl, hf, hf2, hb'⟩
  refine ⟨x, rfl, x, rfl, fun _ => btr hb hb', ⟨hf, fun _ => hf2, fun e => e.elim (absurd · hkm) (absurd · hkn)⟩, fun j d hd hj hG => ⟨hG.1, fun _ => hL _ _ _ _ hb' (hG.2.1 h1), fun e => ?_⟩⟩
  rcases e with e | e
  · subst e; rw [h1] at hj; cases hj
  · subst e; rw [h2] at hj; cases hj
theorem sb_app {o : Oper} (hn : ∀ l a w, PA ops (GB F F2 m A) (JC w0 m) a0 l a w → l.getD m false = false → l.getD (m + 1) false = false) (hg : o.guard = none) (h : ∀ l a w, PA ops (GB F F2 m A) (JC w0 m) a0 l a w → l.getD m false = false → Below w0.heap.size w0 w → (∀ e ∈ o.after, Region.binds .any e = true → l.getD e.on false = true) → ∃ x w', (execOp a.eval o).run P w = .ok (.value x) w' ∧ A x w' ∧ F m x) : Stp P ops (GB F F2 m A) (JC w0 m) a0 m o := by
  intro l a w hp hu ha
  have h1 := notDoneB hu
  have h2 := hn l a w hp h1
  obtain ⟨x, w', hr, hA, hf⟩ := h l a w hp h1 (hp.j h1) ha
  unfold opW
  rw [if_pos (wanted_none hg)]
  refine .inl ⟨x, w', hr, x, rfl, fun e => ?_, ⟨hf, fun e => ?_, fun _ => hA⟩, fun j d hd hj hG => ⟨hG.1, fun e => ?_, fun e => ?_⟩⟩
  · rw [set_own hu] at e; cases e
  · rw [set_own hu] at e; cases e
  · rw [set_own hu] at e; cases e
  · rcases e with e | e
    · subst e; rw [h1] at hj; cases hj
    · subst e; rw [h2] at hj; cases hj
theorem sb_last {o : Oper} {t : Tmp} (hg : o.guard = none) (hd : (ops[m]?).bind (·.dst) = some t) (hon : onB o.after m = true) (h : ∀ l a w, PA ops (GB F F2 m A) (JC w0 m) a0 l a w → (execOp a.eval o).run P w = .ok (.value (a.eval (.tmp t))) w) (hF : ∀ v, F (m + 1) v) : Stp P ops (GB F F2 m A) (JC w0 m) a0 (m + 1) o := by
  intro l a w hp hu ha
  have h1 : l.getD m false = true := onB_spec hon ha
  obtain ⟨om, hom, hdm⟩ := Option.bind_eq_some_iff.1 hd
  have hA := (hp.good m om t hom hdm h1).2.2 (.inl rfl)
  have hr := h l a w hp
  unfold opW
  rw [if_pos (wanted_none hg)]
  have e1 : (l.setIfInBounds (m + 1) true).getD m false = true := by rw [set_oth hu (by omega), h1]
  refine .inl ⟨_, w, hr, _, rfl, fun e => ?_, ⟨hF _, fun e => ?_, fun _ => hA⟩, fun j d hd hj hG => ⟨hG.1, fun e => ?_, hG.2.2⟩⟩
  · rw [e1] at e; cases e
  · rw [e1] at e; cases e
  · rw [e1] at e; cases e
end
end Go.Proofs.Ytpkgcccbhfdaiab
