/- A region that draws, in which a row of bytes goes from call to call. -/
import Derived.Test.YtaamibonpmijaabAB2
import Derived.Test.YtaamibonpmijaabRW3
import Derived.Test.YtaamibonpmijaabSA0
namespace Go.Proofs.Ytaamibonpmijaab
open Go Go.RowKit Gs
set_option linter.unusedVariables false
set_option linter.unusedSimpArgs false
/-- What an operation gives: a value, the row until the next call, or the row at the end. -/
inductive Ck
  | pure (v : Value)
  | chain (next : Nat) (xs : List UInt8)
  | last (xs : List UInt8)
def GC (B : Nat) (ck : Nat → Ck) (l : Array Bool) (k : Nat) (W : World) (v : Value) : Prop := match ck k with
  | .pure y => v = y
  | .chain j xs => l.getD j false = false → OB B W v xs
  | .last xs => OB B W v xs
def JC (B : Nat) (W0 : World) (vo : Value) (pre : List UInt8) (c1 : Nat) (l : Array Bool) (W : World) : Prop := Below B W0 W ∧ KP [] W0 W ∧ (l.getD c1 false = false → OB B W vo pre)
section
variable {ops : Array Oper} {a0 : Act} {B c1 : Nat} {ck : Nat → Ck} {W0 : World} {vo : Value} {pre : List UInt8}
theorem GC.keep {l : Array Bool} {k i : Nat} {W : World} {v : Value} (h : GC B ck l k W v) : GC B ck (l.setIfInBounds i true) k W v := by
  unfold GC at *
  split at h
  · exact h
  · exact fun e => h (get_un e)
  · exact h
theorem JC.keep {l : Array Bool} {i : Nat} {W : World} (h : JC B W0 vo pre c1 l W) : JC B W0 vo pre c1 (l.setIfInBounds i true) W := ⟨h.1, h.2.1, fun e => h.2.2 (get_un e)⟩
theorem sc_val {k : Nat} {y : Value} {o : Oper} (hk : ck k = .pure y) (hg : o.guard = none) (h : ∀ l a w, PA ops (GC B ck) (JC B W0 vo pre c1) a0 l a w → l.getD k true = false → (∀ e ∈ o.after, Region.binds .any e = true → l.getD e.on false = true) → (execOp a.eval o).run Try.prog w = .ok (.value y) w) : Stp Try.prog ops (GC B ck) (JC B W0 vo pre c1) a0 k o := by
  intro l a w hp hu ha
  unfold opW
  rw [if_pos (wanted_none hg)]
  exact .inl ⟨y, w, h l a w hp hu ha, y, rfl, hp.j.keep, by unfold GC; rw [hk], fun _ _ _ _ h => h.keep⟩
/-- What is known of a plain operand. -/
theorem knC {l : Array Bool} {a : Act} {w : World} {af : Array Edge} {y : Value} (hp : PA ops (GC B ck) (JC B W0 vo pre c1) a0 l a w) (ha : ∀ e ∈ af, Region.binds .any e = true → l.getD e.on false = true) (t : Tmp) (j : Nat) (hj : (ops[j]?).bind (·.dst) = some t) (he : onB af j = true) (hk : ck j = .pure y) : a.eval (.tmp t) = y := by
  have h := kn hp ha t j hj he
  unfold GC at h
  rw [hk] at h
  exact h
theorem sc_move {k : Nat} {o : Oper} (hk : ck k = .chain c1 pre) (hg : o.guard = none) (h : ∀ l a w, PA ops (GC B ck) (JC B W0 vo pre c1) a0 l a w → l.getD k true = false → (∀ e ∈ o.after, Region.binds .any e = true → l.getD e.on false = true) → (execOp a.eval o).run Try.prog w = .ok (.value vo) w) : Stp Try.prog ops (GC B ck) (JC B W0 vo pre c1) a0 k o := by
  intro l a w hp hu ha
  unfold opW
  rw [if_pos (wanted_none hg)]
  exact .inl ⟨vo, w, h l a w hp hu ha, vo, rfl, hp.j.keep, by unfold GC; rw [hk]; exact fun e => hp.j.2.2 (get_un e), fun _ _ _ _ h => h.keep⟩
/-- A call that takes the row and gives it back longer. -/
theorem sc_call {k p nx : Nat} {o : Oper} {f : FuncId} {xs ys : List UInt8} (t : Tmp) (hp0 : ck p = .chain k xs) (hk : ck k = .chain nx ys) (hg : o.guard = none) (htp : (ops[p]?).bind (·.dst) = some t) (hep : onB o.after p = true) (hBW : B ≤ W0.heap.size)
    (hord : ∀ l a w, PA ops (GC B ck) (JC B W0 vo pre c1) a0 l a w → l.getD k true = false → (∀ e ∈ o.after, Region.binds .any e = true → l.getD e.on false = true) → (k = c1 ∨ l.getD c1 false = true) ∧ ∀ j j' zs, ck j = .chain j' zs → j ≠ p → l.getD j false = true → l.getD j' false = true)
    (hlast : ∀ l a w, PA ops (GC B ck) (JC B W0 vo pre c1) a0 l a w → l.getD k true = false → ∀ j zs, ck j = .last zs → l.getD j false = false)
    (h : ∀ l a w v, PA ops (GC B ck) (JC B W0 vo pre c1) a0 l a w → (∀ e ∈ o.after, Region.binds .any e = true → l.getD e.on false = true) → a.eval (.tmp t) = v → OB B w v xs → ∃ args, (execOp a.eval o).run Try.prog w = .ok (.enter f args) w ∧ Calls Try.prog f args w fun e w' => (∃ v', e = .returned v' ∧ OB B w' v' ys) ∧ Below B w w' ∧ KP [] w w') : Stp Try.prog ops (GC B ck) (JC B W0 vo pre c1) a0 k o := by
  intro l a w hp hu ha
  have ho : OB B w (a.eval (.tmp t)) xs := by
    have h := kn hp ha t p htp hep
    unfold GC at h
    rw [hp0] at h
    exact h (notDoneB hu)
  obtain ⟨args, hr, hc⟩ := h l a w _ hp ha rfl ho
  obtain ⟨h1, h2⟩ := hord l a w hp hu ha
  have h3 := hlast l a w hp hu
  unfold opW
  rw [if_pos (wanted_none hg)]
  refine .inr (.inr ⟨f, args, w, hr, Calls.mono hc ?_⟩)
  rintro e w' ⟨⟨v', rfl, ho'⟩, hb, hkp⟩
  refine ⟨v', rfl, v', rfl, ⟨hp.j.1.trans hb, hp.j.2.1.trans hkp, fun e => ?_⟩, ?_, fun j d hd hj hG => ?_⟩
  · rcases h1 with rfl | h1
    · rw [now_done hu] at e; cases e
    · rw [get_mono h1] at e; cases e
  · unfold GC; rw [hk]; exact fun _ => ho'
  · unfold GC at *
    cases hj' : ck j with
    | pure y => rw [hj'] at hG; exact hG
    | chain j' zs =>
      rw [hj'] at hG
      intro e
      by_cases hjp : j = p
      · subst hjp
        rw [hp0] at hj'
        injection hj' with hj' _
        subst hj'
        rw [now_done hu] at e; cases e
      · have := h2 j j' zs hj' hjp hj
        rw [get_mono this] at e
        cases e
    | last zs => rw [h3 j zs hj'] at hj; cases hj
theorem sc_last {k p : Nat} {o : Oper} {xs : List UInt8} (t : Tmp) (hp0 : ck p = .chain k xs) (hk : ck k = .last xs) (hg : o.guard = none) (htp : (ops[p]?).bind (·.dst) = some t) (hep : onB o.after p = true)
    (h : ∀ l a w, PA ops (GC B ck) (JC B W0 vo pre c1) a0 l a w → l.getD k true = false → (∀ e ∈ o.after, Region.binds .any e = true → l.getD e.on false = true) → (∃ x n c, a.eval (.tmp t) = .slice x n c) → (execOp a.eval o).run Try.prog w = .ok (.value (a.eval (.tmp t))) w) : Stp Try.prog ops (GC B ck) (JC B W0 vo pre c1) a0 k o := by
  intro l a w hp hu ha
  have ho : OB B w (a.eval (.tmp t)) xs := by
    have h := kn hp ha t p htp hep
    unfold GC at h
    rw [hp0] at h
    exact h (notDoneB hu)
  unfold opW
  rw [if_pos (wanted_none hg)]
  refine .inl ⟨_, w, h l a w hp hu ha ?_, _, rfl, hp.j.keep, by unfold GC; rw [hk]; exact ho, fun _ _ _ _ h => h.keep⟩
  obtain ⟨x, c, e⟩ := ho.shape
  exact ⟨_, _, _, e⟩
end
end Go.Proofs.Ytaamibonpmijaab
