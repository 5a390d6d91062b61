/- A region's plan whose facts speak of the world and last; slices that are built. -/
import Derived.Test.YtdmmbhemmbgcpadRW2
import Derived.Test.YtdmmbhemmbgcpadGS2
namespace Go.Proofs.Ytdmmbhemmbgcpad
open Go Go.RowKit Gs
set_option linter.unusedVariables false
section
variable {P : Program} {ops : Array Oper} {a0 : Act} {F : Nat → World → Value → Prop} {w0 : World}
abbrev GW (F : Nat → World → Value → Prop) : Array Bool → Nat → World → Value → Prop := fun _ k w v => F k w v
def Lasts (F : Nat → World → Value → Prop) : Prop := ∀ k w w' v, Below w.heap.size w w' → F k w v → F k w' v
theorem sl_val {k : Nat} {o : Oper} (hg : o.guard = none) (h : ∀ l a w, PA ops (GW F) (JB w0) a0 l a w → (∀ e ∈ o.after, Region.binds .any e = true → l.getD e.on false = true) → ∃ x, (execOp a.eval o).run P w = .ok (.value x) w ∧ F k w x) : Stp P ops (GW F) (JB w0) a0 k o := by
  intro l a w hp hu ha
  obtain ⟨x, hr, hf⟩ := h l a w hp ha
  unfold opW
  rw [if_pos (wanted_none hg)]
  exact .inl ⟨x, w, hr, x, rfl, hp.j, hf, fun _ _ _ _ h => h⟩
theorem sl_new {k : Nat} {o : Oper} (hm : Lasts F) (hg : o.guard = none) (h : ∀ l a w, PA ops (GW F) (JB w0) a0 l a w → (∀ e ∈ o.after, Region.binds .any e = true → l.getD e.on false = true) → ∃ x ob, (execOp a.eval o).run P w = .ok (.value x) (w.alloc ob) ∧ F k (w.alloc ob) x) : Stp P ops (GW F) (JB w0) a0 k o := by
  intro l a w hp hu ha
  obtain ⟨x, ob, hr, hf⟩ := h l a w hp ha
  unfold opW
  rw [if_pos (wanted_none hg)]
  exact .inl ⟨x, _, hr, x, rfl, bal hp.j ob, hf, fun j _ _ _ h => hm j _ _ _ (bal (brf w) ob) h⟩
theorem sl_call {k : Nat} {o : Oper} {f : FuncId} (hm : Lasts F) (hg : o.guard = none) (h : ∀ l a w, PA ops (GW F) (JB w0) a0 l a w → (∀ e ∈ o.after, Region.binds .any e = true → l.getD e.on false = true) → ∃ args, (execOp a.eval o).run P w = .ok (.enter f args) w ∧ Calls P f args w fun e w' => ∃ x, e = .returned x ∧ F k w' x ∧ Below w.heap.size w w') : Stp P ops (GW F) (JB w0) a0 k o := by
  intro l a w hp hu ha
  obtain ⟨args, hr, hc⟩ := h l a w hp ha
  unfold opW
  rw [if_pos (wanted_none hg)]
  refine .inr (.inr ⟨f, args, w, hr, Calls.mono hc ?_⟩)
  rintro e w' ⟨x, rfl, hf, hb⟩
  exact ⟨x, rfl, x, rfl, btr hp.j hb, hf, fun j _ _ _ h => hm j _ _ _ hb h⟩
end
/-- A slice of slices that was built. -/
theorem RL_built {α : Type} {R : Rd α} (hR : Keeps R) (V : World) (t : TypeId) (xss : List (List α)) (vs : List Value) (hl : vs.length = xss.length) (hn : xss.length ≤ maxLen) (h : ∀ (i : Nat) x v, xss[i]? = some x → vs[i]? = some v → RS 1 R V 0 x v) :
    RS 1 (RL 1 R) (V.alloc (.cells vs.toArray t)) 0 xss (.slice (some ⟨V.heap.size, 0, none⟩) xss.length xss.length) := by
  refine ⟨_, _, rfl, Nat.le_refl _, hn, fun _ => ⟨V.heap.size, 0, rfl, Nat.zero_le _, fun i x hx => ?_⟩⟩
  have hi : i < vs.length := by rw [hl]; exact (List.getElem?_eq_some_iff.1 hx).1
  refine ⟨[vs[i]], rfl, fun j y hj => ?_, vs[i], rfl, (h i x vs[i] hx (List.getElem?_eq_getElem hi)).later hR (bal (brf V) _)⟩
  have hj0 : j = 0 := by
    cases j with
    | zero => rfl
    | succ j => simp at hj
  subst hj0
  simp at hj
  subst hj
  rw [World.cell?_alloc_new]
  simp [hi]
end Go.Proofs.Ytdmmbhemmbgcpad
