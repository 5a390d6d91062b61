/- Steps of a region's plan: operations that read, that call, guarded or not. -/
import Derived.Test.YtgkfhaahcedbpaaRW
namespace Go.Proofs.Ytgkfhaahcedbpaa
open Go Go.RowKit
set_option linter.unusedVariables false
def onB (af : Array Edge) (j : Nat) : Bool := af.toList.any fun e => Region.binds .any e && decide (e.on = j)
theorem onB_spec {af : Array Edge} {j : Nat} (h : onB af j = true) {l : Array Bool} (ha : ∀ e ∈ af, Region.binds .any e = true → l.getD e.on false = true) : l.getD j false = true := by
  unfold onB at h
  rw [List.any_eq_true] at h
  obtain ⟨e, hm, he⟩ := h
  rw [Bool.and_eq_true, decide_eq_true_eq] at he
  have := ha e (by simpa using hm) he.1
  rwa [he.2] at this
theorem ev_form (a : Act) (t : Tmp) : a.tmps[t]?.getD undef = a.eval (.tmp t) := by simp [Act.eval]
section
variable {P : Program} {ops : Array Oper} {G : Array Bool → Nat → World → Value → Prop} {J : Array Bool → World → Prop} {a0 : Act}
/-- What is known of an operand that an operation ahead has made. -/
theorem kn {l : Array Bool} {a : Act} {w : World} {af : Array Edge} (hp : PA ops G J a0 l a w) (ha : ∀ e ∈ af, Region.binds .any e = true → l.getD e.on false = true) (t : Tmp) (j : Nat) (hj : (ops[j]?).bind (·.dst) = some t) (he : onB af j = true) : G l j w (a.eval (.tmp t)) := by
  obtain ⟨o, ho, hd⟩ := Option.bind_eq_some_iff.1 hj
  exact hp.good j o t ho hd (onB_spec he ha)
/-- An operand that was there. -/
theorem old {l : Array Bool} {a : Act} {w : World} (hp : PA ops G J a0 l a w) (t : Tmp) {v : Value} (hd : ops.all (fun o => o.dst != some t) = true) (hv : a0.eval (.tmp t) = v) : a.eval (.tmp t) = v := by
  rw [hp.keep t (fun i o ho e => ?_)]
  · exact hv
  · rw [Array.all_eq_true] at hd
    obtain ⟨h1, h2⟩ := Array.getElem?_eq_some_iff.1 ho
    have := hd i h1
    rw [h2, e] at this
    simp at this
theorem notDoneB {l : Array Bool} {k : Nat} (h : l.getD k true = false) : l.getD k false = false := by
  unfold Array.getD at *
  split at h
  · rename_i hk; rw [dif_pos hk]; exact h
  · cases h
/-- A slot that an operation behind will write. -/
theorem old2 {l : Array Bool} {a : Act} {w : World} (hp : PA ops G J a0 l a w) {k : Nat} (hu : l.getD k true = false) (t : Tmp) (j : Nat) {v : Value} (hj : (ops[j]?).bind (·.dst) = some t) (he : (ops[j]?).any (fun o => onB o.after k) = true) (hv : a0.eval (.tmp t) = v) : a.eval (.tmp t) = v := by
  obtain ⟨o, ho, hd⟩ := Option.bind_eq_some_iff.1 hj
  rw [hp.fresh j o t ho hd ?_]
  · exact hv
  · cases h : l.getD j false with
    | false => rfl
    | true =>
      rw [ho] at he
      have := onB_spec (l := l) (by simpa using he) (hp.down j o ho h)
      rw [notDoneB hu] at this
      cases this
theorem wanted_none {o : Oper} {y : Nat → Option Bool} (h : o.guard = none) : Region.wanted o y = true := by simp [Region.wanted, h]
theorem wanted_some {o : Oper} {g : Nat} {want c : Bool} {d : Tmp} {a : Act} (h : o.guard = some (g, want)) (hd : (ops[g]?).bind (·.dst) = some d) (hn : d < a.tmps.size) (hv : a.eval (.tmp d) = .bool c) : Region.wanted o (yielded ops a.tmps) = (c == want) := by
  have e : a.tmps[d]? = some (.bool c) := by
    rw [Array.getElem?_eq_getElem hn]
    have : a.eval (.tmp d) = a.tmps[d] := by simp [Act.eval, Array.getD, hn]
    rw [← this, hv]
  simp [Region.wanted, h, yielded, hd, e]
/-- Facts of values alone, in a world that only grows. -/
abbrev GF (F : Nat → Value → Prop) : Array Bool → Nat → World → Value → Prop := fun _ k _ v => F k v
abbrev JB (w0 : World) : Array Bool → World → Prop := fun _ w => Below w0.heap.size w0 w
variable {F : Nat → Value → Prop} {w0 : World}
theorem st_val {k : Nat} {o : Oper} (hg : o.guard = none) (h : ∀ l a w, PA ops (GF F) (JB w0) a0 l a w → (∀ e ∈ o.after, Region.binds .any e = true → l.getD e.on false = true) → ∃ x, (execOp a.eval o).run P w = .ok (.value x) w ∧ F k x) : Stp P ops (GF F) (JB w0) a0 k o := by
  intro l a w hp hu ha
  obtain ⟨x, hr, hf⟩ := h l a w hp ha
  unfold opW
  rw [if_pos (wanted_none hg)]
  exact .inl ⟨x, w, hr, x, rfl, hp.j, hf, fun _ _ _ _ h => h⟩
theorem st_valu {k : Nat} {o : Oper} (hg : o.guard = none) (h : ∀ l a w, PA ops (GF F) (JB w0) a0 l a w → l.getD k true = false → (∀ e ∈ o.after, Region.binds .any e = true → l.getD e.on false = true) → ∃ x, (execOp a.eval o).run P w = .ok (.value x) w ∧ F k x) : Stp P ops (GF F) (JB w0) a0 k o := by
  intro l a w hp hu ha
  obtain ⟨x, hr, hf⟩ := h l a w hp hu ha
  unfold opW
  rw [if_pos (wanted_none hg)]
  exact .inl ⟨x, w, hr, x, rfl, hp.j, hf, fun _ _ _ _ h => h⟩
theorem st_valg {k : Nat} {o : Oper} {g : Nat} {want c : Bool} {d : Tmp} (hg : o.guard = some (g, want)) (hd : (ops[g]?).bind (·.dst) = some d) (hn : d < a0.tmps.size) (he : onB o.after g = true) (hc : ∀ v, F g v → v = .bool c) (hno : c ≠ want → F k undef)
    (h : ∀ l a w, PA ops (GF F) (JB w0) a0 l a w → (∀ e ∈ o.after, Region.binds .any e = true → l.getD e.on false = true) → c = want → ∃ x, (execOp a.eval o).run P w = .ok (.value x) w ∧ F k x) : Stp P ops (GF F) (JB w0) a0 k o := by
  intro l a w hp hu ha
  have hv := hc _ (kn hp ha d g hd he)
  have hw := wanted_some (ops := ops) hg hd (by rw [hp.nt]; exact hn) hv
  unfold opW
  by_cases e : c = want
  · obtain ⟨x, hr, hf⟩ := h l a w hp ha e
    rw [if_pos (by rw [hw, e]; simp)]
    exact .inl ⟨x, w, hr, x, rfl, hp.j, hf, fun _ _ _ _ h => h⟩
  · rw [if_neg (by rw [hw]; simpa using e)]
    exact ⟨undef, rfl, hp.j, hno e, fun _ _ _ _ h => h⟩
theorem st_call {k : Nat} {o : Oper} {f : FuncId} (hg : o.guard = none) (h : ∀ l a w, PA ops (GF F) (JB w0) a0 l a w → (∀ e ∈ o.after, Region.binds .any e = true → l.getD e.on false = true) → ∃ args, (execOp a.eval o).run P w = .ok (.enter f args) w ∧ Calls P f args w fun e w' => ∃ x, e = .returned x ∧ F k x ∧ Below w.heap.size w w') : Stp P ops (GF F) (JB w0) a0 k o := by
  intro l a w hp hu ha
  obtain ⟨args, hr, hc⟩ := h l a w hp ha
  unfold opW
  rw [if_pos (wanted_none hg)]
  refine .inr (.inr ⟨f, args, w, hr, Calls.mono hc ?_⟩)
  rintro e w' ⟨x, rfl, hf, hb⟩
  exact ⟨x, rfl, x, rfl, btr hp.j hb, hf, fun _ _ _ _ h => h⟩
theorem st_callg {k : Nat} {o : Oper} {f : FuncId} {g : Nat} {want c : Bool} {d : Tmp} (hg : o.guard = some (g, want)) (hd : (ops[g]?).bind (·.dst) = some d) (hn : d < a0.tmps.size) (he : onB o.after g = true) (hc : ∀ v, F g v → v = .bool c) (hno : c ≠ want → F k undef)
    (h : ∀ l a w, PA ops (GF F) (JB w0) a0 l a w → (∀ e ∈ o.after, Region.binds .any e = true → l.getD e.on false = true) → c = want → ∃ args, (execOp a.eval o).run P w = .ok (.enter f args) w ∧ Calls P f args w fun e w' => ∃ x, e = .returned x ∧ F k x ∧ Below w.heap.size w w') : Stp P ops (GF F) (JB w0) a0 k o := by
  intro l a w hp hu ha
  have hv := hc _ (kn hp ha d g hd he)
  have hw := wanted_some (ops := ops) hg hd (by rw [hp.nt]; exact hn) hv
  unfold opW
  by_cases e : c = want
  · obtain ⟨args, hr, hcl⟩ := h l a w hp ha e
    rw [if_pos (by rw [hw, e]; simp)]
    refine .inr (.inr ⟨f, args, w, hr, Calls.mono hcl ?_⟩)
    rintro e w' ⟨x, rfl, hf, hb⟩
    exact ⟨x, rfl, x, rfl, btr hp.j hb, hf, fun _ _ _ _ h => h⟩
  · rw [if_neg (by rw [hw]; simpa using e)]
    exact ⟨undef, rfl, hp.j, hno e, fun _ _ _ _ h => h⟩
end
theorem dstIn {ops : Array Oper} {ts : List Tmp} (h : ops.all (fun o => match o.dst with | some d => ts.contains d | none => true) = true) {t : Tmp} (ht : t ∉ ts) : ∀ (i : Nat) o, ops[i]? = some o → o.dst ≠ some t := by
  intro i o ho e
  rw [Array.all_eq_true] at h
  obtain ⟨h1, h2⟩ := Array.getElem?_eq_some_iff.1 ho
  have := h i h1
  rw [h2, e] at this
  simp at this
  exact ht this
/-- A frame of which some slots were written. -/
def putAll (a0 : Act) (ts : List Tmp) (us : Tmp → Value) : Act := ts.foldl (fun a t => a.put (some t) (us t)) a0
theorem putAll_size (us : Tmp → Value) : ∀ (ts : List Tmp) (a0 : Act), (putAll a0 ts us).tmps.size = a0.tmps.size
  | [], _ => rfl
  | t :: ts, a0 => by
    show (putAll (a0.put (some t) (us t)) ts us).tmps.size = _
    rw [putAll_size us ts, put_size]
theorem putAll_defers (us : Tmp → Value) : ∀ (ts : List Tmp) (a0 : Act), (putAll a0 ts us).defers = a0.defers
  | [], _ => rfl
  | t :: ts, a0 => by
    show (putAll (a0.put (some t) (us t)) ts us).defers = _
    rw [putAll_defers us ts, put_defers]
theorem putAll_eval (us : Tmp → Value) (i : Tmp) : ∀ (ts : List Tmp) (a0 : Act), i < a0.tmps.size → (putAll a0 ts us).eval (.tmp i) = if i ∈ ts then us i else a0.eval (.tmp i)
  | [], _, _ => by simp [putAll]
  | t :: ts, a0, h => by
    show (putAll (a0.put (some t) (us t)) ts us).eval (.tmp i) = _
    rw [putAll_eval us i ts _ (by rw [put_size]; exact h)]
    by_cases e : i = t
    · subst e
      rw [put_same h]
      simp
    · rw [put_other (fun h => e (by injection h with h; exact h.symm))]
      simp [e]
theorem eval_at (a : Act) (i : Nat) (h : i < a.tmps.size) : a.eval (.tmp i) = a.tmps[i] := by simp [Act.eval, Array.getD, h]
theorem act_ext {a b : Act} (hs : a.tmps.size = b.tmps.size) (hd : a.defers = b.defers) (h : ∀ i, i < b.tmps.size → a.eval (.tmp i) = b.eval (.tmp i)) : a = b := by
  have h1 : a.tmps = b.tmps := Array.ext hs (fun i h1 h2 => by rw [← eval_at a i h1, ← eval_at b i h2]; exact h i h2)
  cases a; cases b
  simp at h1 hd
  rw [h1, hd]
theorem putAll_of {a a0 : Act} (ts : List Tmp) (hs : a.tmps.size = a0.tmps.size) (hd : a.defers = a0.defers) (hk : ∀ t, t ∉ ts → a.eval (.tmp t) = a0.eval (.tmp t)) : ∃ us, a = putAll a0 ts us ∧ ∀ t, us t = a.eval (.tmp t) := by
  refine ⟨fun t => a.eval (.tmp t), act_ext (by rw [putAll_size]; exact hs) (by rw [putAll_defers]; exact hd) (fun i hi => ?_), fun _ => rfl⟩
  rw [putAll_size] at hi
  rw [putAll_eval _ i ts a0 hi]
  by_cases h : i ∈ ts
  · rw [if_pos h]
  · rw [if_neg h]; exact hk i h
end Go.Proofs.Ytgkfhaahcedbpaa
