/- Steps of a region's plan: operations that read, that call, guarded or not. -/
import Derived.Test.YtpkgcccbhfdaiaaDoorRW
import Derived.Test.YtpkgcccbhfdaiaaDoorGS2
namespace Go.Proofs.YtpkgcccbhfdaiaaDoor
open Go Go.RowKit
set_option linter.unusedVariables false
def onB (af : Array Edge) (j : Nat) : Bool := af.toList.any fun e => Region.binds .any e && decide (e.on = j)
theorem onB_spec {af : Array Edge} {j : Nat} (h : onB af j = true) {l : Array Bool} (ha : ∀ e ∈ af, Region.binds .any e = true → l.getD e.on false = true) : l.getD j false = true := by
  unfold onB at h
  rw [List.any_eq_true] at h
  obtain ⟨e, hm, he⟩ := h
  rw [Bool.and_eq_true, decide_eq_true_eq] at he
  have := ha e (by simpa using hm) he.1
  rwa [he.2] at this
theorem ev_form (a : Act) (t : Tmp) : a.tmps[t]?.getD undef = a.eval (.tmp t) := by simp [Act.eval]
section
variable {P : Program} {ops : Array Oper} {G : Array Bool → Nat → World → Value → Prop} {J : Array Bool → World → Prop} {a0 : Act}
/-- What is known of an operand that an operation ahead has made. -/
theorem kn {l : Array Bool} {a : Act} {w : World} {af : Array Edge} (hp : PA ops G J a0 l a w) (ha : ∀ e ∈ af, Region.binds .any e = true → l.getD e.on false = true) (t : Tmp) (j : Nat) (hj : (ops[j]?).bind (·.dst) = some t) (he : onB af j = true) : G l j w (a.eval (.tmp t)) := by
  obtain ⟨o, ho, hd⟩ := Option.bind_eq_some_iff.1 hj
  exact hp.good j o t ho hd (onB_spec he ha)
/-- An operand that was there. -/
theorem old {l : Array Bool} {a : Act} {w : World} (hp : PA ops G J a0 l a w) (t : Tmp) {v : Value} (hd : ops.all (fun o => o.dst != some t) = true) (hv : a0.eval (.tmp t) = v) : a.eval (.tmp t) = v := by
  rw [hp.keep t (fun i o ho e => ?_)]
  · exact hv
  · rw [Array.all_eq_true] at hd
    obtain ⟨h1, h2⟩ := Array.getElem?_eq_some_iff.1 ho
    have := hd i h1
    rw [h2, e] at this
    simp at this
theorem notDoneB {l : Array Bool} {k : Nat} (h : l.getD k true = false) : l.getD k false = false := by
  unfold Array.getD at *
  split at h
  · rename_i hk; rw [dif_pos hk]; exact h
  · cases h
/-- A slot that an operation behind will write. -/
theorem old2 {l : Array Bool} {a : Act} {w : World} (hp : PA ops G J a0 l a w) {k : Nat} (hu : l.getD k true = false) (t : Tmp) (j : Nat) {v : Value} (hj : (ops[j]?).bind (·.dst) = some t) (he : (ops[j]?).any (fun o => onB o.after k) = true) (hv : a0.eval (.tmp t) = v) : a.eval (.tmp t) = v := by
  obtain ⟨o, ho, hd⟩ := Option.bind_eq_some_iff.1 hj
  rw [hp.fresh j o t ho hd ?_]
  · exact hv
  · cases h : l.getD j false with
    | false => rfl
    | true =>
      rw [ho] at he
      have := onB_spec (l := l) (by simpa using he) (hp.down j o ho h)
      rw [notDoneB hu] at this
      cases this
theorem wanted_none {o : Oper} {y : Nat → Option Bool} (h : o.guard = none) : Region.wanted o y = true := by simp [Region.wanted, h]
theorem wanted_some {o : Oper} {g : Nat} {want c : Bool} {d : Tmp} {a : Act} (h : o.guard = some (g, want)) (hd : (ops[g]?).bind (·.dst) = some d) (hn : d < a.tmps.size) (hv : a.eval (.tmp d) = .bool c) : Region.wanted o (yielded ops a.tmps) = (c == want) := by
  have e : a.tmps[d]? = some (.bool c) := by
    rw [Array.getElem?_eq_getElem hn]
    have : a.eval (.tmp d) = a.tmps[d] := by simp [Act.eval, Array.getD, hn]
    rw [← this, hv]
  simp [Region.wanted, h, yielded, hd, e]
/-- Facts of values alone, in a world that only grows. -/
abbrev GF (F : Nat → Value → Prop) : Array Bool → Nat → World → Value → Prop := fun _ k _ v => F k v
abbrev JB (w0 : World) : Array Bool → World → Prop := fun _ w => Below w0.heap.size w0 w
variable {F : Nat → Value → Prop} {w0 : World}
theorem st_val {k : Nat} {o : Oper} (hg : o.guard = none) (h : ∀ l a w, PA ops (GF F) (JB w0) a0 l a w → (∀ e ∈ o.after, Region.binds .any e = true → l.getD e.on false = true) → ∃ x, (execOp a.eval o).run P w = .ok (.value x) w ∧ F k x) : Stp P ops (GF F) (JB w0) a0 k o := by
  intro l a w hp hu ha
  obtain ⟨x, hr, hf⟩ := h l a w hp ha
  unfold opW
  rw [if_pos (wanted_none hg)]
  exact .inl ⟨x, w, hr, x, rfl, hp.j, hf, fun _ _ _ _ h => h⟩
theorem st_valu {k : Nat} {o : Oper} (hg : o.guard = none) (h : ∀ l a w, PA ops (GF F) (JB w0) a0 l a w → l.getD k true = false → (∀ e ∈ o.after, Region.binds .any e = true → l.getD e.on false = true) → ∃ x, (execOp a.eval o).run P w = .ok (.value x) w ∧ F k x) : Stp P ops (GF F) (JB w0) a0 k o := by
  intro l a w hp hu ha
  obtain ⟨x, hr, hf⟩ := h l a w hp hu ha
  unfold opW
  rw [if_pos (wanted_none hg)]
  exact .inl ⟨x, w, hr, x, rfl, hp.j, hf, fun _ _ _ _ h => h⟩
theorem st_valg {k : Nat} {o : Oper} {g : Nat} {want c : Bool} {d : Tmp} (hg : o.guard = some (g, want)) (hd : (ops[g]?).bind (·.dst) = some d) (hn : d < a0.tmps.size) (he : onB o.after g = true) (hc : ∀ v, F g v → v = .bool c) (hno : c ≠ want → F k undef)
    (h : ∀ l a w, PA ops (GF F) (JB w0) a0 l a w → (∀ e ∈ o.after, Region.binds .any e = true → l.getD e.on false = true) → c = want → ∃ x, (execOp a.eval o).run P w = .ok (.value x) w ∧ F k x) : Stp P ops (GF F) (JB w0) a0 k o := by
  intro l a w hp hu ha
  have hv := hc _ (kn hp ha d g hd he)
  have hw := wanted_some (ops := ops) hg hd (by rw [hp.nt]; exact hn) hv
  unfold opW
  by_cases e : c = want
  · obtain ⟨x, hr, hf⟩ := h l a w hp ha e
    rw [if_pos (by rw [hw, e]; simp)]
    exact .inl ⟨x, w, hr, x, rfl, hp.j, hf, fun _ _ _ _ h => h⟩
  · rw [if_neg (by rw [hw]; simpa using e)]
    exact ⟨undef, rfl, hp.j, hno e, fun _ _ _ _ h => h⟩
theorem st_call {k : Nat} {o : Oper} {f : FuncId} (hg : o.guard = none) (h : ∀ l a w, PA ops (GF F) (JB w0) a0 l a w → (∀ e ∈ o.after, Region.binds .any e = true → l.getD e.on false = true) → ∃ args, (execOp a.eval o).run P w = .ok (.enter f args) w ∧ Calls P f args w fun e w' => ∃ x, e = .returned x ∧ F k x ∧ Below w.heap.size w w') : Stp P ops (GF F) (JB w0) a0 k o := by
  intro l a w hp hu ha
  obtain ⟨args, hr, hc⟩ := h l a w hp ha
  unfold opW
  rw [if_pos (wanted_none hg)]
  refine .inr (.inr ⟨f, args, w, hr, Calls.mono hc ?_⟩)
  rintro e w' ⟨x, rfl, hf, hb⟩
  exact ⟨x, rfl, x, rfl, btr hp.j hb, hf, fun _ _ _ _ h => h⟩
theorem st_callg {k : Nat} {o : Oper} {f : FuncId} {g : Nat} {want c : Bool} {d : Tmp} (hg : o.guard = some (g, want)) (hd : (ops[g]?).bind (·.dst) = some d) (hn : d < a0.tmps.size) (he : onB o.after g = true) (hc : ∀ v, F g v → v = .bool c) (hno : c ≠ want → F k undef)
    (h : ∀ l a w, PA ops (GF F) (JB w0) a0 l a w → (∀ e ∈ o.after, Region.binds .any e = true → l.getD e.on false = true) → c = want → ∃ args, (execOp a.eval o).run P w = .ok (.enter f args) w ∧ Calls P f args w fun e w' => ∃ x, e = .returned x ∧ F k x ∧ Below w.heap.size w w') : Stp P ops (GF F) (JB w0) a0 k o := by
  intro l a w hp hu ha
  have hv := hc _ (kn hp ha d g hd he)
  have hw := wanted_some (ops := ops) hg hd (by rw [hp.nt]; exact hn) hv
  unfold opW
  by_cases e : c = want
  · obtain ⟨args, hr, hcl⟩ := h l a w hp ha e
    rw [if_pos (by rw [hw, e]; simp)]
    refine .inr (.inr ⟨f, args, w, hr, Calls.mono hcl ?_⟩)
    rintro e w' ⟨x, rfl, hf, hb⟩
    exact ⟨x, rfl, x, rfl, btr hp.j hb, hf, fun _ _ _ _ h => h⟩
  · rw [if_neg (by rw [hw]; simpa using e)]
    exact ⟨undef, rfl, hp.j, hno e, fun _ _ _ _ h => h⟩
end
theorem dstIn {ops : Array Oper} {ts : List Tmp} (h : ops.all (fun o => match o.dst with | some d => ts.contains d | none => true) = true) {t : Tmp} (ht : t ∉ ts) : ∀ (i : Nat) o, ops[i]? = some o → o.dst ≠ some t := by
  intro i o ho e
  rw [Array.all_eq_true] at h
  obtain ⟨h1, h2⟩ := Array.getElem?_eq_some_iff.1 ho
  have := h i h1
  rw [h2, e] at this
  simp at this
  exact ht this
/-- A frame of which some slots were written. -/
def putAll (a0 : Act) (ts : List Tmp) (us : Tmp → Value) : Act := ts.foldl (fun a t => a.put (some t) (us t)) a0
theorem putAll_size (us : Tmp → Value) : ∀ (ts : List Tmp) (a0 : Act), (putAll a0 ts us).tmps.size = a0.tmps.size
  | [], _ => rfl
  | t :: ts, a0 => by
    show (putAll (a0.put (some t) (us t)) ts us).tmps.size = _
    rw [putAll_size us ts, put_size]
theorem putAll_defers (us : Tmp → Value) : ∀ (ts : List Tmp) (a0 : Act), (putAll a0 ts us).defers = a0.defers
  | [], _ => rfl
  | t :: ts, a0 => by
    show (putAll (a0.put (some t) (us t)) ts us).defers = _
    rw [putAll_defers us ts, put_defers]
theorem putAll_eval (us : Tmp → Value) (i : Tmp) : ∀ (ts : List Tmp) (a0 : Act), i < a0.tmps.size → (putAll a0 ts us).eval (.tmp i) = if i ∈ ts then us i else a0.eval (.tmp i)
  | [], _, _ => by simp [putAll]
  | t :: ts, a0, h => by
    show (putAll (a0.put (some t) (us t)) ts us).eval (.tmp i) = _
    rw [putAll_eval us i ts _ (by rw [put_size]; exact h)]
    by_cases e : i = t
    · subst e
      rw [put_same h]
      simp
    · rw [put_other (fun h => e (by injection h with h; exact h.symm))]
      simp [e]
theorem eval_at (a : Act) (i : Nat) (h : i < a.tmps.size) : a.eval (.tmp i) = a.tmps[i] := by simp [Act.eval, Array.getD, h]
theorem act_ext {a b : Act} (hs : a.tmps.size = b.tmps.size) (hd : a.defers = b.defers) (h : ∀ i, i < b.tmps.size → a.eval (.tmp i) = b.eval (.tmp i)) : a = b := by
  have h1 : a.tmps = b.tmps := Array.ext hs (fun i h1 h2 => by rw [← eval_at a i h1, ← eval_at b i h2]; exact h i h2)
  cases a; cases b
  simp at h1 hd
  rw [h1, hd]
theorem putAll_of {a a0 : Act} (ts : List Tmp) (hs : a.tmps.size = a0.tmps.size) (hd : a.defers = a0.defers) (hk : ∀ t, t ∉ ts → a.eval (.tmp t) = a0.eval (.tmp t)) : ∃ us, a = putAll a0 ts us ∧ ∀ t, us t = a.eval (.tmp t) := by
  refine ⟨fun t => a.eval (.tmp t), act_ext (by rw [putAll_size]; exact hs) (by rw [putAll_defers]; exact hd) (fun i hi => ?_), fun _ => rfl⟩
  rw [putAll_size] at hi
  rw [putAll_eval _ i ts a0 hi]
  by_cases h : i ∈ ts
  · rw [if_pos h]
  · rw [if_neg h]; exact hk i h
end Go.Proofs.YtpkgcccbhfdaiaaDoor
namespace Go.Proofs.YtpkgcccbhfdaiaaDoor
open Go Go.RowKit
set_option linter.unusedVariables false
section
variable {P : Program} {ops : Array Oper} {a0 : Act} {F : Nat → Value → Prop} {w0 : World} {n : Nat} {E : World → Prop}
abbrev JE (w0 : World) (n : Nat) (E : World → Prop) : Array Bool → World → Prop := fun l w => (l.getD n false = false → Below w0.heap.size w0 w) ∧ (l.getD n false = true → E w)
theorem JE.start {w0 w : World} {n m : Nat} {E : World → Prop} (h : Below w0.heap.size w0 w) : JE w0 n E (Array.replicate m false) w :=
  ⟨fun _ => h, fun e => by
    exfalso
    by_cases hm : n < m
    · simp [Array.getD, hm] at e
    · simp [Array.getD, hm] at e⟩
theorem lt_of_undone {l : Array Bool} {k : Nat} (h : l.getD k true = false) : k < l.size := by
  by_cases hk : k < l.size
  · exact hk
  · simp [Array.getD, hk] at h
theorem JE.low {l : Array Bool} {a : Act} {w : World} (hp : PA ops (GF F) (JE w0 n E) a0 l a w) {k : Nat} (hn : (ops[n]?).any (fun o => onB o.after k) = true) (hu : l.getD k true = false) : l.getD n false = false := by
  cases e : l.getD n false with
  | false => rfl
  | true =>
    exfalso
    cases ho : ops[n]? with
    | none => rw [ho] at hn; simp at hn
    | some o =>
      rw [ho] at hn
      have hd := onB_spec (by simpa using hn) (hp.down n o ho e)
      rw [notDoneB hu] at hd
      cases hd
theorem JE.step {l : Array Bool} {w' : World} {k : Nat} (hne : k ≠ n) (hu : l.getD k true = false) (hl : l.getD n false = false) (hb : Below w0.heap.size w0 w') : JE w0 n E (l.setIfInBounds k true) w' := by
  have e : (l.setIfInBounds k true).getD n false = false := by rw [set_ite (lt_of_undone hu), if_neg (fun e => hne e.symm), hl]
  exact ⟨fun _ => hb, fun h => by rw [e] at h; cases h⟩
theorem se_val {k : Nat} {o : Oper} (hne : k ≠ n) (hn : (ops[n]?).any (fun o => onB o.after k) = true) (hg : o.guard = none) (h : ∀ l a w, PA ops (GF F) (JE w0 n E) a0 l a w → Below w0.heap.size w0 w → (∀ e ∈ o.after, Region.binds .any e = true → l.getD e.on false = true) → ∃ x, (execOp a.eval o).run P w = .ok (.value x) w ∧ F k x) : Stp P ops (GF F) (JE w0 n E) a0 k o := by
  intro l a w hp hu ha
  have hl := JE.low hp hn hu
  have hb := hp.j.1 hl
  obtain ⟨x, hr, hf⟩ := h l a w hp hb ha
  unfold opW
  rw [if_pos (wanted_none hg)]
  exact .inl ⟨x, w, hr, x, rfl, JE.step hne hu hl hb, hf, fun _ _ _ _ h => h⟩
theorem se_valg {k : Nat} {o : Oper} {g : Nat} {want c : Bool} {d : Tmp} (hne : k ≠ n) (hn : (ops[n]?).any (fun o => onB o.after k) = true) (hg : o.guard = some (g, want)) (hd : (ops[g]?).bind (·.dst) = some d) (hnt : d < a0.tmps.size) (he : onB o.after g = true) (hc : ∀ v, F g v → v = .bool c) (hno : c ≠ want → F k undef)
    (h : ∀ l a w, PA ops (GF F) (JE w0 n E) a0 l a w → Below w0.heap.size w0 w → (∀ e ∈ o.after, Region.binds .any e = true → l.getD e.on false = true) → c = want → ∃ x, (execOp a.eval o).run P w = .ok (.value x) w ∧ F k x) : Stp P ops (GF F) (JE w0 n E) a0 k o := by
  intro l a w hp hu ha
  have hl := JE.low hp hn hu
  have hb := hp.j.1 hl
  have hv := hc _ (kn hp ha d g hd he)
  have hw := wanted_some (ops := ops) hg hd (by rw [hp.nt]; exact hnt) hv
  unfold opW
  by_cases e : c = want
  · obtain ⟨x, hr, hf⟩ := h l a w hp hb ha e
    rw [if_pos (by rw [hw, e]; simp)]
    exact .inl ⟨x, w, hr, x, rfl, JE.step hne hu hl hb, hf, fun _ _ _ _ h => h⟩
  · rw [if_neg (by rw [hw]; simpa using e)]
    exact ⟨undef, rfl, JE.step hne hu hl hb, hno e, fun _ _ _ _ h => h⟩
theorem se_call {k : Nat} {o : Oper} {f : FuncId} (hne : k ≠ n) (hn : (ops[n]?).any (fun o => onB o.after k) = true) (hg : o.guard = none) (h : ∀ l a w, PA ops (GF F) (JE w0 n E) a0 l a w → Below w0.heap.size w0 w → (∀ e ∈ o.after, Region.binds .any e = true → l.getD e.on false = true) → ∃ args, (execOp a.eval o).run P w = .ok (.enter f args) w ∧ Calls P f args w fun e w' => ∃ x, e = .returned x ∧ F k x ∧ Below w.heap.size w w') : Stp P ops (GF F) (JE w0 n E) a0 k o := by
  intro l a w hp hu ha
  have hl := JE.low hp hn hu
  have hb := hp.j.1 hl
  obtain ⟨args, hr, hc⟩ := h l a w hp hb ha
  unfold opW
  rw [if_pos (wanted_none hg)]
  refine .inr (.inr ⟨f, args, w, hr, Calls.mono hc ?_⟩)
  rintro e w' ⟨x, rfl, hf, hb'⟩
  exact ⟨x, rfl, x, rfl, JE.step hne hu hl (btr hb hb'), hf, fun _ _ _ _ h => h⟩
theorem se_callg {k : Nat} {o : Oper} {f : FuncId} {g : Nat} {want c : Bool} {d : Tmp} (hne : k ≠ n) (hn : (ops[n]?).any (fun o => onB o.after k) = true) (hg : o.guard = some (g, want)) (hd : (ops[g]?).bind (·.dst) = some d) (hnt : d < a0.tmps.size) (he : onB o.after g = true) (hc : ∀ v, F g v → v = .bool c) (hno : c ≠ want → F k undef)
    (h : ∀ l a w, PA ops (GF F) (JE w0 n E) a0 l a w → Below w0.heap.size w0 w → (∀ e ∈ o.after, Region.binds .any e = true → l.getD e.on false = true) → c = want → ∃ args, (execOp a.eval o).run P w = .ok (.enter f args) w ∧ Calls P f args w fun e w' => ∃ x, e = .returned x ∧ F k x ∧ Below w.heap.size w w') : Stp P ops (GF F) (JE w0 n E) a0 k o := by
  intro l a w hp hu ha
  have hl := JE.low hp hn hu
  have hb := hp.j.1 hl
  have hv := hc _ (kn hp ha d g hd he)
  have hw := wanted_some (ops := ops) hg hd (by rw [hp.nt]; exact hnt) hv
  unfold opW
  by_cases e : c = want
  · obtain ⟨args, hr, hcl⟩ := h l a w hp hb ha e
    rw [if_pos (by rw [hw, e]; simp)]
    refine .inr (.inr ⟨f, args, w, hr, Calls.mono hcl ?_⟩)
    rintro e w' ⟨x, rfl, hf, hb'⟩
    exact ⟨x, rfl, x, rfl, JE.step hne hu hl (btr hb hb'), hf, fun _ _ _ _ h => h⟩
  · rw [if_neg (by rw [hw]; simpa using e)]
    exact ⟨undef, rfl, JE.step hne hu hl hb, hno e, fun _ _ _ _ h => h⟩
theorem se_last {o : Oper} (hg : o.guard = none) (h : ∀ l a w, PA ops (GF F) (JE w0 n E) a0 l a w → Below w0.heap.size w0 w → (∀ e ∈ o.after, Region.binds .any e = true → l.getD e.on false = true) → ∃ w', (execOp a.eval o).run P w = .ok .skip w' ∧ E w') (hf : F n undef) : Stp P ops (GF F) (JE w0 n E) a0 n o := by
  intro l a w hp hu ha
  have hb := hp.j.1 (notDoneB hu)
  obtain ⟨w', hr, hE⟩ := h l a w hp hb ha
  unfold opW
  rw [if_pos (wanted_none hg)]
  have e : (l.setIfInBounds n true).getD n false = true := by rw [set_ite (lt_of_undone hu), if_pos rfl]
  exact .inr (.inl ⟨w', hr, undef, rfl, ⟨fun h => (by rw [e] at h; cases h), fun _ => hE⟩, hf, fun _ _ _ _ h => h⟩)
end
end Go.Proofs.YtpkgcccbhfdaiaaDoor
namespace Go.Proofs.YtpkgcccbhfdaiaaDoor
open Go Go.RowKit Gs
set_option linter.unusedVariables false
section
variable {P : Program} {ops : Array Oper} {a0 : Act} {F : Nat → World → Value → Prop} {w0 : World}
abbrev GW (F : Nat → World → Value → Prop) : Array Bool → Nat → World → Value → Prop := fun _ k w v => F k w v
def Lasts (F : Nat → World → Value → Prop) : Prop := ∀ k w w' v, Below w.heap.size w w' → F k w v → F k w' v
theorem sl_val {k : Nat} {o : Oper} (hg : o.guard = none) (h : ∀ l a w, PA ops (GW F) (JB w0) a0 l a w → (∀ e ∈ o.after, Region.binds .any e = true → l.getD e.on false = true) → ∃ x, (execOp a.eval o).run P w = .ok (.value x) w ∧ F k w x) : Stp P ops (GW F) (JB w0) a0 k o := by
  intro l a w hp hu ha
  obtain ⟨x, hr, hf⟩ := h l a w hp ha
  unfold opW
  rw [if_pos (wanted_none hg)]
  exact .inl ⟨x, w, hr, x, rfl, hp.j, hf, fun _ _ _ _ h => h⟩
theorem sl_new {k : Nat} {o : Oper} (hm : Lasts F) (hg : o.guard = none) (h : ∀ l a w, PA ops (GW F) (JB w0) a0 l a w → (∀ e ∈ o.after, Region.binds .any e = true → l.getD e.on false = true) → ∃ x ob, (execOp a.eval o).run P w = .ok (.value x) (w.alloc ob) ∧ F k (w.alloc ob) x) : Stp P ops (GW F) (JB w0) a0 k o := by
  intro l a w hp hu ha
  obtain ⟨x, ob, hr, hf⟩ := h l a w hp ha
  unfold opW
  rw [if_pos (wanted_none hg)]
  exact .inl ⟨x, _, hr, x, rfl, bal hp.j ob, hf, fun j _ _ _ h => hm j _ _ _ (bal (brf w) ob) h⟩
theorem sl_call {k : Nat} {o : Oper} {f : FuncId} (hm : Lasts F) (hg : o.guard = none) (h : ∀ l a w, PA ops (GW F) (JB w0) a0 l a w → (∀ e ∈ o.after, Region.binds .any e = true → l.getD e.on false = true) → ∃ args, (execOp a.eval o).run P w = .ok (.enter f args) w ∧ Calls P f args w fun e w' => ∃ x, e = .returned x ∧ F k w' x ∧ Below w.heap.size w w') : Stp P ops (GW F) (JB w0) a0 k o := by
  intro l a w hp hu ha
  obtain ⟨args, hr, hc⟩ := h l a w hp ha
  unfold opW
  rw [if_pos (wanted_none hg)]
  refine .inr (.inr ⟨f, args, w, hr, Calls.mono hc ?_⟩)
  rintro e w' ⟨x, rfl, hf, hb⟩
  exact ⟨x, rfl, x, rfl, btr hp.j hb, hf, fun j _ _ _ h => hm j _ _ _ hb h⟩
end
/-- A slice of slices that was built. -/
theorem RL_built {α : Type} {R : Rd α} (hR : Keeps R) (V : World) (t : TypeId) (xss : List (List α)) (vs : List Value) (hl : vs.length = xss.length) (hn : xss.length ≤ maxLen) (h : ∀ (i : Nat) x v, xss[i]? = some x → vs[i]? = some v → RS 1 R V 0 x v) :
    RS 1 (RL 1 R) (V.alloc (.cells vs.toArray t)) 0 xss (.slice (some ⟨V.heap.size, 0, none⟩) xss.length xss.length) := by
  refine ⟨_, _, rfl, Nat.le_refl _, hn, fun _ => ⟨V.heap.size, 0, rfl, Nat.zero_le _, fun i x hx => ?_⟩⟩
  have hi : i < vs.length := by rw [hl]; exact (List.getElem?_eq_some_iff.1 hx).1
  refine ⟨[vs[i]], rfl, fun j y hj => ?_, vs[i], rfl, (h i x vs[i] hx (List.getElem?_eq_getElem hi)).later hR (bal (brf V) _)⟩
  have hj0 : j = 0 := by
    cases j with
    | zero => rfl
    | succ j => simp at hj
  subst hj0
  simp at hj
  subst hj
  rw [World.cell?_alloc_new]
  simp [hi]
end Go.Proofs.YtpkgcccbhfdaiaaDoor
namespace Go.Proofs.YtpkgcccbhfdaiaaDoor
open Go Go.RowKit
set_option linter.unusedVariables false
section
variable {P : Program} {ops : Array Oper} {a0 : Act} {F : Nat → Value → Prop} {F2 : Nat → World → Value → Prop} {w0 : World} {n : Nat} {m : Nat} {A : Value → World → Prop} {E : World → Prop}
/-- Of what operation m gave one knows A once the last one is done. -/
abbrev G2 (F : Nat → Value → Prop) (F2 : Nat → World → Value → Prop) (n m : Nat) (A : Value → World → Prop) : Array Bool → Nat → World → Value → Prop := fun l k w v => F k v ∧ (l.getD n false = false → F2 k w v) ∧ (k = m → l.getD n false = true → A v w)
theorem G2.low {l : Array Bool} {a : Act} {w : World} (hp : PA ops (G2 F F2 n m A) (JE w0 n E) a0 l a w) {k : Nat} (hn : (ops[n]?).any (fun o => onB o.after k) = true) (hu : l.getD k true = false) : l.getD n false = false := by
  cases e : l.getD n false with
  | false => rfl
  | true =>
    exfalso
    cases ho : ops[n]? with
    | none => rw [ho] at hn; simp at hn
    | some o =>
      rw [ho] at hn
      have hd := onB_spec (by simpa using hn) (hp.down n o ho e)
      rw [notDoneB hu] at hd
      cases hd
theorem s2_val {k : Nat} {o : Oper} (hne : k ≠ n) (hn : (ops[n]?).any (fun o => onB o.after k) = true) (hg : o.guard = none) (h : ∀ l a w, PA ops (G2 F F2 n m A) (JE w0 n E) a0 l a w → Below w0.heap.size w0 w → (∀ e ∈ o.after, Region.binds .any e = true → l.getD e.on false = true) → ∃ x, (execOp a.eval o).run P w = .ok (.value x) w ∧ F k x ∧ F2 k w x) : Stp P ops (G2 F F2 n m A) (JE w0 n E) a0 k o := by
  intro l a w hp hu ha
  have hl := G2.low hp hn hu
  have hb := hp.j.1 hl
  have hst : (l.setIfInBounds k true).getD n false = false := by rw [set_ite (lt_of_undone hu), if_neg (fun e => hne e.symm), hl]
  obtain ⟨x, hr, hf, hf2⟩ := h l a w hp hb ha
  unfold opW
  rw [if_pos (wanted_none hg)]
  exact .inl ⟨x, w, hr, x, rfl, JE.step hne hu hl hb, ⟨hf, fun _ => hf2, fun _ e => (by rw [hst] at e; cases e)⟩, fun _ _ _ _ h => ⟨h.1, fun _ => h.2.1 hl, fun _ e => (by rw [hst] at e; cases e)⟩⟩
theorem s2_new {k : Nat} {o : Oper} (hL : Lasts F2) (hne : k ≠ n) (hn : (ops[n]?).any (fun o => onB o.after k) = true) (hg : o.guard = none) (h : ∀ l a w, PA ops (G2 F F2 n m A) (JE w0 n E) a0 l a w → Below w0.heap.size w0 w → (∀ e ∈ o.after, Region.binds .any e = true → l.getD e.on false = true) → ∃ x ob, (execOp a.eval o).run P w = .ok (.value x) (w.alloc ob) ∧ F k x ∧ F2 k (w.alloc ob) x) : Stp P ops (G2 F F2 n m A) (JE w0 n E) a0 k o := by
  intro l a w hp hu ha
  have hl := G2.low hp hn hu
  have hb := hp.j.1 hl
  have hst : (l.setIfInBounds k true).getD n false = false := by rw [set_ite (lt_of_undone hu), if_neg (fun e => hne e.symm), hl]
  obtain ⟨x, ob, hr, hf, hf2⟩ := h l a w hp hb ha
  unfold opW
  rw [if_pos (wanted_none hg)]
  exact .inl ⟨x, _, hr, x, rfl, JE.step hne hu hl (bal hb ob), ⟨hf, fun _ => hf2, fun _ e => (by rw [hst] at e; cases e)⟩, fun _ _ _ _ h => ⟨h.1, fun _ => hL _ _ _ _ (bal (brf w) ob) (h.2.1 hl), fun _ e => (by rw [hst] at e; cases e)⟩⟩
theorem s2_last {o : Oper} {t : Tmp} (hmn : m ≠ n) (hd : (ops[m]?).bind (·.dst) = some t) (hg : o.guard = none) (h : ∀ l a w, PA ops (G2 F F2 n m A) (JE w0 n E) a0 l a w → l.getD n false = false → Below w0.heap.size w0 w → (∀ e ∈ o.after, Region.binds .any e = true → l.getD e.on false = true) → ∃ w', (execOp a.eval o).run P w = .ok .skip w' ∧ E w' ∧ A (a.eval (.tmp t)) w') (hf : F n undef) : Stp P ops (G2 F F2 n m A) (JE w0 n E) a0 n o := by
  intro l a w hp hu ha
  have hb := hp.j.1 (notDoneB hu)
  obtain ⟨w', hr, hE, hA⟩ := h l a w hp (notDoneB hu) hb ha
  unfold opW
  rw [if_pos (wanted_none hg)]
  have e : (l.setIfInBounds n true).getD n false = true := by rw [set_ite (lt_of_undone hu), if_pos rfl]
  refine .inr (.inl ⟨w', hr, undef, rfl, ⟨fun h => (by rw [e] at h; cases h), fun _ => hE⟩, ⟨hf, fun h => (by rw [e] at h; cases h), fun e2 => absurd e2.symm hmn⟩, fun j d hj _ h => ⟨h.1, fun h2 => (by rw [e] at h2; cases h2), fun e2 _ => ?_⟩⟩)
  subst e2
  rw [hd] at hj
  injection hj with hj
  subst hj
  exact hA
end
end Go.Proofs.YtpkgcccbhfdaiaaDoor
namespace Go.Proofs.YtpkgcccbhfdaiaaDoor
open Go Go.RowKit
set_option linter.unusedVariables false
section
variable {P : Program} {ops : Array Oper} {Q : Exit → Act → World → Prop} {X : List PanicEntry → World → Prop}
/-- One operation: it gives a value, or nothing, or calls a function that returns, or that panics as X says. -/
def opVX (P : Program) (X : List PanicEntry → World → Prop) (o : Oper) (K : Act → World → Prop) (a : Act) (w : World) : Prop :=
  (∃ v w', (execOp a.eval o).run P w = .ok (.value v) w' ∧ K (a.put o.dst v) w') ∨ (∃ w', (execOp a.eval o).run P w = .ok .skip w' ∧ K (a.put o.dst undef) w') ∨
  ∃ f args w', (execOp a.eval o).run P w = .ok (.enter f args) w' ∧ Calls P f args w' fun e w'' => (∃ v, e = .returned v ∧ K (a.put o.dst v) w'') ∨ (∃ ch, e = .panicked ch ∧ X ch w'')
theorem opVX.wp {o : Oper} {a : Act} {w : World} {K : Act → World → Prop} (h : opVX P X o K a w) (hx : ∀ ch w, X ch w → Q (.panic ch) a w) : o.wp P a w K Q := by
  unfold Oper.wp
  rcases h with ⟨v, w', hr, hk⟩ | ⟨w', hr, hk⟩ | ⟨f, args, w', hr, hc⟩
  · rw [hr]; exact hk
  · rw [hr]; exact hk
  · rw [hr]
    refine Calls.mono hc ?_
    rintro e w'' (⟨v, rfl, hk⟩ | ⟨ch, rfl, hk⟩)
    · exact hk
    · exact hx ch w'' hk
theorem opVX.mono {o : Oper} {a : Act} {w : World} {K K' : Act → World → Prop} (h : opVX P X o K a w) (hk : ∀ a w, K a w → K' a w) : opVX P X o K' a w := by
  rcases h with ⟨v, w', hr, h⟩ | ⟨w', hr, h⟩ | ⟨f, args, w', hr, hc⟩
  · exact .inl ⟨v, w', hr, hk _ _ h⟩
  · exact .inr (.inl ⟨w', hr, hk _ _ h⟩)
  · refine .inr (.inr ⟨f, args, w', hr, Calls.mono hc ?_⟩)
    rintro e w'' (⟨v, rfl, h⟩ | h)
    · exact .inl ⟨v, rfl, hk _ _ h⟩
    · exact .inr h
def opWX (P : Program) (ops : Array Oper) (X : List PanicEntry → World → Prop) (o : Oper) (K : Act → World → Prop) (a : Act) (w : World) : Prop :=
  if Region.wanted o (yielded ops a.tmps) = true then opVX P X o K a w else K (a.put o.dst undef) w
theorem opWX.mono {o : Oper} {a : Act} {w : World} {K K' : Act → World → Prop} (h : opWX P ops X o K a w) (hk : ∀ a w, K a w → K' a w) : opWX P ops X o K' a w := by
  unfold opWX at *
  split
  · rename_i hw
    rw [if_pos hw] at h
    exact h.mono hk
  · rename_i hw
    rw [if_neg hw] at h
    exact hk _ _ h
theorem rwx_any {md : Region.Mode} (I : Array Bool → Act → World → Prop) (hx : ∀ l a w ch w', I l a w → X ch w' → Q (.panic ch) a w')
    (hs : ∀ l a w, I l a w → ∀ i o, ops[i]? = some o → i ∈ Region.ready md ops l → opWX P ops X o (I (l.setIfInBounds i true)) a w)
    (hf : ∀ l a w, I l a w → Region.ready md ops l = [] → Q .normal a w) :
    ∀ (fuel : Nat) (l : Array Bool) (a : Act) (w : World), l.toList.count false ≤ fuel → I l a w → wpAny P md ops Q fuel l a w := by
  intro fuel
  induction fuel with
  | zero =>
    intro l a w hc hI
    have hr : Region.ready md ops l = [] := by
      rw [List.eq_nil_iff_forall_not_mem]
      intro i hi
      have := rw_count (mem_ready.1 hi).1
      omega
    exact ⟨hr, hf l a w hI hr⟩
  | succ fuel ih =>
    intro l a w hc hI
    refine ⟨hf l a w hI, fun i hi => ?_⟩
    obtain ⟨hun, o, ho, _⟩ := mem_ready.1 hi
    have h1 := hs l a w hI i o ho hi
    refine wpOp_mono (K := I (l.setIfInBounds i true)) (fun a' w' h => ih _ _ _ ?_ h) ?_
    · have := rw_count hun
      omega
    · unfold wpOp
      unfold opWX at h1
      simp only [ho]
      split
      · rename_i hw
        rw [if_pos hw] at h1
        exact .inl (h1.wp (fun ch w' h => hx l a w ch w' hI h))
      · rename_i hw
        rw [if_neg hw] at h1
        exact h1
def StpX (P : Program) (ops : Array Oper) (X : List PanicEntry → World → Prop) (G : Array Bool → Nat → World → Value → Prop) (J : Array Bool → World → Prop) (a0 : Act) (k : Nat) (o : Oper) : Prop :=
  ∀ l a w, PA ops G J a0 l a w → l.getD k true = false → (∀ e ∈ o.after, Region.binds .any e = true → l.getD e.on false = true) →
    opWX P ops X o (fun a' w' => ∃ v, a' = a.put o.dst v ∧ J (l.setIfInBounds k true) w' ∧ G (l.setIfInBounds k true) k w' v ∧ ∀ j d, (ops[j]?).bind (·.dst) = some d → l.getD j false = true → G l j w (a.eval (.tmp d)) → G (l.setIfInBounds k true) j w' (a.eval (.tmp d))) a w
def StpsX (P : Program) (ops : Array Oper) (X : List PanicEntry → World → Prop) (G : Array Bool → Nat → World → Value → Prop) (J : Array Bool → World → Prop) (a0 : Act) : Nat → List Oper → Prop
  | _, [] => True
  | k, o :: os => StpX P ops X G J a0 k o ∧ StpsX P ops X G J a0 (k + 1) os
theorem StpsX.at {G : Array Bool → Nat → World → Value → Prop} {J : Array Bool → World → Prop} {a0 : Act} : ∀ (os : List Oper) (k i : Nat) (o : Oper), StpsX P ops X G J a0 k os → os[i]? = some o → StpX P ops X G J a0 (k + i) o
  | [], _, _, _, _, h => by simp at h
  | o' :: os, k, 0, o, hs, h => by simp at h; subst h; exact hs.1
  | o' :: os, k, i + 1, o, hs, h => by
    have := StpsX.at os (k + 1) i o hs.2 (by simpa using h)
    rwa [Nat.add_right_comm k 1 i, Nat.add_assoc] at this
section
variable {G : Array Bool → Nat → World → Value → Prop} {J : Array Bool → World → Prop} {a0 : Act}
theorem stpsX_one {nt : Nat} (hnt : a0.tmps.size = nt) (hform : formW nt ops = true) (hs : StpsX P ops X G J a0 0 ops.toList) : ∀ l a w, PA ops G J a0 l a w → ∀ i o, ops[i]? = some o → i ∈ Region.ready .any ops l → opWX P ops X o (PA ops G J a0 (l.setIfInBounds i true)) a w := by
  obtain ⟨hbound, huniq, _, _⟩ := formW_parts hform
  subst hnt
  intro l a w hp i o ho hi
  obtain ⟨hun, o', ho', hall⟩ := mem_ready.1 hi
  obtain rfl : o' = o := by rw [ho] at ho'; cases ho'; rfl
  have hil : i < l.size := by
    rcases Nat.lt_or_ge i l.size with h' | h'
    · exact h'
    · simp [Array.getD, Nat.not_lt.2 h'] at hun
  have hst := StpsX.at ops.toList 0 i o' hs (by simpa using ho)
  rw [Nat.zero_add] at hst
  refine (hst l a w hp hun hall).mono ?_
  rintro a' w' ⟨v, rfl, hj', hgv, hmono⟩
  refine ⟨by simpa using hp.sz, (put_size a o'.dst v).trans hp.nt, (put_defers a o'.dst v).trans hp.df, ?_, ?_, ?_, ?_, hj'⟩
  · intro k ok hk hlk e he hbe
    rw [set_ite hil] at hlk ⊢
    by_cases hke : e.on = i
    · rw [if_pos hke]
    · rw [if_neg hke]
      by_cases hki : k = i
      · subst hki; rw [ho] at hk; cases hk; exact hall e he hbe
      · rw [if_neg hki] at hlk; exact hp.down k ok hk hlk e he hbe
  · intro k ok d hk hd hlk
    rw [set_ite hil] at hlk
    by_cases hki : k = i
    · rw [if_pos hki] at hlk; cases hlk
    · rw [if_neg hki] at hlk
      rw [put_other (fun e => hki (huniq k i ok o' d hk ho hd e))]
      exact hp.fresh k ok d hk hd hlk
  · intro k ok d hk hd hlk
    rw [set_ite hil] at hlk
    by_cases hki : k = i
    · subst hki
      rw [ho] at hk; cases hk
      rw [hd, put_same (by rw [hp.nt]; exact hbound k o' d ho hd)]
      exact hgv
    · rw [if_neg hki] at hlk
      rw [put_other (fun e => hki (huniq k i ok o' d hk ho hd e))]
      exact hmono k d (by rw [hk]; exact hd) hlk (hp.good k ok d hk hd hlk)
  · intro t ht
    rw [put_other (ht i o' ho)]
    exact hp.keep t ht
theorem wp_planX {id : Nat} {w0 : World} (G : Array Bool → Nat → World → Value → Prop) (J : Array Bool → World → Prop) (X : List PanicEntry → World → Prop) (hm : P.follows .mixedOrders = true) (nt : Nat) (hnt : a0.tmps.size = nt) (hform : formW nt ops = true)
    (hj : J (Array.replicate ops.size false) { w0 with drawn := w0.drawn + 1 }) (hs : StpsX P ops X G J a0 0 ops.toList)
    (hx : ∀ a ch w, a.tmps.size = a0.tmps.size → a.defers = a0.defers → X ch w → Q (.panic ch) a w)
    (hf : ∀ l a w, PA ops G J a0 l a w → (∀ i, i < ops.size → l.getD i false = true) → Q .normal a w) :
    (Code.region id ops true).wp P Q a0 w0 :=
  wp_region_any hm (rwx_any (PA ops G J a0) (fun l a w ch w' hp h => hx a ch w' hp.nt hp.df h) (stpsX_one hnt hform hs) (fun l a w hp hr => hf l a w hp (stps_end hform hp hr)) _ _ _ _ (by simp) (pa_start hj))
end
/- Steps of such a region where values do not hang on the world, and what is known of the world stays. -/
variable {F : Nat → Value → Prop} {I : World → Prop} {a0 : Act}
theorem sx_val {k : Nat} {o : Oper} (hg : o.guard = none) (h : ∀ l a w, PA ops (GF F) (fun _ => I) a0 l a w → I w → l.getD k true = false → (∀ e ∈ o.after, Region.binds .any e = true → l.getD e.on false = true) → ∃ x, (execOp a.eval o).run P w = .ok (.value x) w ∧ F k x) : StpX P ops X (GF F) (fun _ => I) a0 k o := by
  intro l a w hp hu ha
  obtain ⟨x, hr, hf⟩ := h l a w hp hp.j hu ha
  unfold opWX
  rw [if_pos (wanted_none hg)]
  exact .inl ⟨x, w, hr, x, rfl, hp.j, hf, fun _ _ _ _ h => h⟩
theorem sx_call {k : Nat} {o : Oper} {f : FuncId} (hg : o.guard = none) (h : ∀ l a w, PA ops (GF F) (fun _ => I) a0 l a w → I w → l.getD k true = false → (∀ e ∈ o.after, Region.binds .any e = true → l.getD e.on false = true) → ∃ args, (execOp a.eval o).run P w = .ok (.enter f args) w ∧ Calls P f args w fun e w' => (∃ x, e = .returned x ∧ F k x ∧ I w') ∨ (∃ ch, e = .panicked ch ∧ X ch w')) : StpX P ops X (GF F) (fun _ => I) a0 k o := by
  intro l a w hp hu ha
  obtain ⟨args, hr, hc⟩ := h l a w hp hp.j hu ha
  unfold opWX
  rw [if_pos (wanted_none hg)]
  refine .inr (.inr ⟨f, args, w, hr, Calls.mono hc ?_⟩)
  rintro e w' (⟨x, rfl, hf, hI⟩ | h)
  · exact .inl ⟨x, rfl, x, rfl, hI, hf, fun _ _ _ _ h => h⟩
  · exact .inr h
end
end Go.Proofs.YtpkgcccbhfdaiaaDoor
namespace Go.Proofs.YtpkgcccbhfdaiaaDoor
open Go Go.RowKit
set_option linter.unusedVariables false
section
variable {P : Program} {ops : Array Oper} {a0 : Act} {F : Nat → Value → Prop} {w0 : World}
theorem wanted_undef {o : Oper} {g : Nat} {want : Bool} {d : Tmp} {a : Act} (h : o.guard = some (g, want)) (hd : (ops[g]?).bind (·.dst) = some d) (hn : d < a.tmps.size) (hv : a.eval (.tmp d) = undef) : Region.wanted o (yielded ops a.tmps) = false := by
  have e : a.tmps[d]? = some undef := by
    rw [Array.getElem?_eq_getElem hn]
    have : a.eval (.tmp d) = a.tmps[d] := by simp [Act.eval, Array.getD, hn]
    rw [← this, hv]
  simp [Region.wanted, h, yielded, hd, e, undef]
theorem wanted_by {o : Oper} {g : Nat} {want c : Bool} {d : Tmp} {a : Act} (h : o.guard = some (g, want)) (hd : (ops[g]?).bind (·.dst) = some d) (hn : d < a.tmps.size) (h1 : c = true → a.eval (.tmp d) = .bool want) (h2 : c = false → a.eval (.tmp d) = .bool (!want) ∨ a.eval (.tmp d) = undef) : Region.wanted o (yielded ops a.tmps) = c := by
  cases c with
  | true => rw [wanted_some (ops := ops) h hd hn (h1 rfl)]; simp
  | false =>
    rcases h2 rfl with e | e
    · rw [wanted_some (ops := ops) h hd hn e]; cases want <;> rfl
    · exact wanted_undef h hd hn e
theorem sn_val {k : Nat} {o : Oper} {g : Nat} {want c : Bool} {d : Tmp} (hg : o.guard = some (g, want)) (hd : (ops[g]?).bind (·.dst) = some d) (hn : d < a0.tmps.size) (he : onB o.after g = true) (h1 : ∀ v, F g v → c = true → v = .bool want) (h2 : ∀ v, F g v → c = false → v = .bool (!want) ∨ v = undef) (hno : c = false → F k undef)
    (h : ∀ l a w, PA ops (GF F) (JB w0) a0 l a w → (∀ e ∈ o.after, Region.binds .any e = true → l.getD e.on false = true) → c = true → ∃ x, (execOp a.eval o).run P w = .ok (.value x) w ∧ F k x) : Stp P ops (GF F) (JB w0) a0 k o := by
  intro l a w hp hu ha
  have hf := kn hp ha d g hd he
  have hw := wanted_by (ops := ops) (c := c) hg hd (by rw [hp.nt]; exact hn) (h1 _ hf) (h2 _ hf)
  unfold opW
  by_cases e : c = true
  · obtain ⟨x, hr, hf⟩ := h l a w hp ha e
    rw [if_pos (by rw [hw, e])]
    exact .inl ⟨x, w, hr, x, rfl, hp.j, hf, fun _ _ _ _ h => h⟩
  · rw [if_neg (by rw [hw]; exact e)]
    exact ⟨undef, rfl, hp.j, hno (by simpa using e), fun _ _ _ _ h => h⟩
theorem sn_call {k : Nat} {o : Oper} {f : FuncId} {g : Nat} {want c : Bool} {d : Tmp} (hg : o.guard = some (g, want)) (hd : (ops[g]?).bind (·.dst) = some d) (hn : d < a0.tmps.size) (he : onB o.after g = true) (h1 : ∀ v, F g v → c = true → v = .bool want) (h2 : ∀ v, F g v → c = false → v = .bool (!want) ∨ v = undef) (hno : c = false → F k undef)
    (h : ∀ l a w, PA ops (GF F) (JB w0) a0 l a w → (∀ e ∈ o.after, Region.binds .any e = true → l.getD e.on false = true) → c = true → ∃ args, (execOp a.eval o).run P w = .ok (.enter f args) w ∧ Calls P f args w fun e w' => ∃ x, e = .returned x ∧ F k x ∧ Below w.heap.size w w') : Stp P ops (GF F) (JB w0) a0 k o := by
  intro l a w hp hu ha
  have hf := kn hp ha d g hd he
  have hw := wanted_by (ops := ops) (c := c) hg hd (by rw [hp.nt]; exact hn) (h1 _ hf) (h2 _ hf)
  unfold opW
  by_cases e : c = true
  · obtain ⟨args, hr, hc⟩ := h l a w hp ha e
    rw [if_pos (by rw [hw, e])]
    refine .inr (.inr ⟨f, args, w, hr, Calls.mono hc ?_⟩)
    rintro e w' ⟨x, rfl, hf, hb⟩
    exact ⟨x, rfl, x, rfl, btr hp.j hb, hf, fun _ _ _ _ h => h⟩
  · rw [if_neg (by rw [hw]; exact e)]
    exact ⟨undef, rfl, hp.j, hno (by simpa using e), fun _ _ _ _ h => h⟩
end
end Go.Proofs.YtpkgcccbhfdaiaaDoor
