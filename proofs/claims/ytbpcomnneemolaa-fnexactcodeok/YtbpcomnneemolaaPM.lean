/- Regions that draw their order, whose operations read, call and make memory, and write none: by a plan whose facts last. -/
import Derived.Test.YtbpcomnneemolaaRQ
import Derived.Test.YtbpcomnneemolaaBase
namespace Go.Proofs.Ytbpcomnneemolaa
open Go.RowKit
set_option linter.unusedVariables false
def onB (af : Array Edge) (j : Nat) : Bool := af.toList.any fun e => Region.binds .any e && decide (e.on = j)
theorem onB_spec {af : Array Edge} {j : Nat} (h : onB af j = true) {l : Array Bool} (ha : ∀ e ∈ af, Region.binds .any e = true → l.getD e.on false = true) : l.getD j false = true := by
  unfold onB at h
  rw [List.any_eq_true] at h
  obtain ⟨e, hm, he⟩ := h
  rw [Bool.and_eq_true, decide_eq_true_eq] at he
  have := ha e (by simpa using hm) he.1
  rwa [he.2] at this
theorem ev_form (a : Act) (t : Tmp) : a.tmps[t]?.getD undef = a.eval (.tmp t) := by simp [Act.eval]
section
variable {P : Program} {ops : Array Oper} {Q : Exit → Act → World → Prop} {F : Nat → World → Value → Prop} {w0 : World} {a0 : Act}
abbrev PM (ops : Array Oper) (F : Nat → World → Value → Prop) (w0 : World) (a0 : Act) (l : Array Bool) (a : Act) (w : World) : Prop := PlanAt ops F (fun _ w => Below w0.heap.size w0 w) a0 l a w
def Lasts (F : Nat → World → Value → Prop) : Prop := ∀ k w w' v, Below w.heap.size w w' → F k w v → F k w' v
theorem pm_step {k : Nat} {o : Oper} (hm : Lasts F) (h : ∀ l a w, PM ops F w0 a0 l a w → (∀ e ∈ o.after, Region.binds .any e = true → l.getD e.on false = true) → o.wp P a w (fun a' w' => ∃ v, a' = a.put o.dst v ∧ Below w.heap.size w w' ∧ F k w' v) Q) :
    PlanStep P ops Q F (fun _ w => Below w0.heap.size w0 w) a0 k o := by
  intro l a w hp hu ha
  refine Oper.wp_mono ?_ (h l a w hp ha)
  rintro a' w' ⟨v, e, hb, hf⟩
  exact ⟨v, e, btr hp.j hb, hf, fun j u _ h => hm j w w' u hb h⟩
/-- An operation that reads. -/
theorem pm_val {k : Nat} {o : Oper} (hm : Lasts F) (h : ∀ l a w, PM ops F w0 a0 l a w → (∀ e ∈ o.after, Region.binds .any e = true → l.getD e.on false = true) → ∃ x, (execOp a.eval o).run P w = .ok (.value x) w ∧ F k w x) :
    PlanStep P ops Q F (fun _ w => Below w0.heap.size w0 w) a0 k o := by
  refine pm_step hm (fun l a w hp ha => ?_)
  obtain ⟨x, hr, hf⟩ := h l a w hp ha
  unfold Oper.wp
  rw [hr]
  exact ⟨x, rfl, brf w, hf⟩
/-- An operation that makes memory. -/
theorem pm_new {k : Nat} {o : Oper} (hm : Lasts F) (h : ∀ l a w, PM ops F w0 a0 l a w → (∀ e ∈ o.after, Region.binds .any e = true → l.getD e.on false = true) → ∃ x ob, (execOp a.eval o).run P w = .ok (.value x) (w.alloc ob) ∧ F k (w.alloc ob) x) :
    PlanStep P ops Q F (fun _ w => Below w0.heap.size w0 w) a0 k o := by
  refine pm_step hm (fun l a w hp ha => ?_)
  obtain ⟨x, ob, hr, hf⟩ := h l a w hp ha
  unfold Oper.wp
  rw [hr]
  exact ⟨x, rfl, bal (brf w) ob, hf⟩
/-- A call. -/
theorem pm_call {k : Nat} {o : Oper} {f : FuncId} (hm : Lasts F) (h : ∀ l a w, PM ops F w0 a0 l a w → (∀ e ∈ o.after, Region.binds .any e = true → l.getD e.on false = true) → ∃ args, (execOp a.eval o).run P w = .ok (.enter f args) w ∧ Calls P f args w fun e w' => ∃ x, e = .returned x ∧ F k w' x ∧ Below w.heap.size w w') :
    PlanStep P ops Q F (fun _ w => Below w0.heap.size w0 w) a0 k o := by
  refine pm_step hm (fun l a w hp ha => ?_)
  obtain ⟨args, hr, hc⟩ := h l a w hp ha
  unfold Oper.wp
  rw [hr]
  refine Calls.mono hc ?_
  rintro e w' ⟨x, rfl, hf, hb⟩
  exact ⟨x, rfl, hb, hf⟩
/-- What is known of an operand. -/
theorem pm_kn {l : Array Bool} {a : Act} {w : World} {af : Array Edge} (hp : PM ops F w0 a0 l a w) (ha : ∀ e ∈ af, Region.binds .any e = true → l.getD e.on false = true) (t : Tmp) (j : Nat) (hj : (ops[j]?).bind (·.dst) = some t) (he : onB af j = true) : F j w (a.eval (.tmp t)) := by
  obtain ⟨o, ho, hd⟩ := Option.bind_eq_some_iff.1 hj
  exact hp.good j o t ho hd (onB_spec he ha)
theorem pm_old {l : Array Bool} {a : Act} {w : World} (hp : PM ops F w0 a0 l a w) (t : Tmp) {v : Value} (hd : ops.all (fun o => o.dst != some t) = true) (hv : a0.eval (.tmp t) = v) : a.eval (.tmp t) = v := by
  rw [hp.keep t (fun i o ho e => ?_)]
  · exact hv
  · rw [Array.all_eq_true] at hd
    obtain ⟨h1, h2⟩ := Array.getElem?_eq_some_iff.1 ho
    have := hd i h1
    rw [h2, e] at this
    simp at this
end
theorem planDst {ops : Array Oper} {ts : List Tmp} (h : ops.all (fun o => match o.dst with | some d => ts.contains d | none => true) = true) {t : Tmp} (ht : t ∉ ts) : ∀ (i : Nat) o, ops[i]? = some o → o.dst ≠ some t := by
  intro i o ho e
  rw [Array.all_eq_true] at h
  obtain ⟨h1, h2⟩ := Array.getElem?_eq_some_iff.1 ho
  have := h i h1
  rw [h2, e] at this
  simp at this
  exact ht this
/-- A frame of which some slots were written. -/
def putAll (a0 : Act) (ts : List Tmp) (us : Tmp → Value) : Act := ts.foldl (fun a t => a.put (some t) (us t)) a0
theorem putAll_size (us : Tmp → Value) : ∀ (ts : List Tmp) (a0 : Act), (putAll a0 ts us).tmps.size = a0.tmps.size
  | [], _ => rfl
  | t :: ts, a0 => by
    show (putAll (a0.put (some t) (us t)) ts us).tmps.size = _
    rw [putAll_size us ts, put_tmps_size]
theorem putAll_defers (us : Tmp → Value) : ∀ (ts : List Tmp) (a0 : Act), (putAll a0 ts us).defers = a0.defers
  | [], _ => rfl
  | t :: ts, a0 => by
    show (putAll (a0.put (some t) (us t)) ts us).defers = _
    rw [putAll_defers us ts, put_defers_same]
theorem putAll_eval (us : Tmp → Value) (i : Tmp) : ∀ (ts : List Tmp) (a0 : Act), i < a0.tmps.size → (putAll a0 ts us).eval (.tmp i) = if i ∈ ts then us i else a0.eval (.tmp i)
  | [], _, _ => by simp [putAll]
  | t :: ts, a0, h => by
    show (putAll (a0.put (some t) (us t)) ts us).eval (.tmp i) = _
    rw [putAll_eval us i ts _ (by rw [put_tmps_size]; exact h)]
    by_cases e : i = t
    · subst e
      rw [eval_put_same h]
      simp
    · rw [eval_put_other (fun h => e (by injection h with h; exact h.symm))]
      simp [e]
theorem eval_at (a : Act) (i : Nat) (h : i < a.tmps.size) : a.eval (.tmp i) = a.tmps[i] := by simp [Act.eval, Array.getD, h]
theorem act_ext {a b : Act} (hs : a.tmps.size = b.tmps.size) (hd : a.defers = b.defers) (h : ∀ i, i < b.tmps.size → a.eval (.tmp i) = b.eval (.tmp i)) : a = b := by
  have h1 : a.tmps = b.tmps := Array.ext hs (fun i h1 h2 => by rw [← eval_at a i h1, ← eval_at b i h2]; exact h i h2)
  cases a; cases b
  simp at h1 hd
  rw [h1, hd]
theorem putAll_of {a a0 : Act} (ts : List Tmp) (hs : a.tmps.size = a0.tmps.size) (hd : a.defers = a0.defers) (hk : ∀ t, t ∉ ts → a.eval (.tmp t) = a0.eval (.tmp t)) : ∃ us, a = putAll a0 ts us ∧ ∀ t, us t = a.eval (.tmp t) := by
  refine ⟨fun t => a.eval (.tmp t), act_ext (by rw [putAll_size]; exact hs) (by rw [putAll_defers]; exact hd) (fun i hi => ?_), fun _ => rfl⟩
  rw [putAll_size] at hi
  rw [putAll_eval _ i ts a0 hi]
  by_cases h : i ∈ ts
  · rw [if_pos h]
  · rw [if_neg h]; exact hk i h
end Go.Proofs.Ytbpcomnneemolaa
