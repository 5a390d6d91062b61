/- Steps of a region's plan: operations that read, that call, guarded or not. -/
import Derived.Test.YthbcokioijpofabGreatRW
import Derived.Test.YthbcokioijpofabGreatGa
namespace Go.Proofs.YthbcokioijpofabGreat
open Go Go.RowKit
set_option linter.unusedVariables false
def onB (af : Array Edge) (j : Nat) : Bool := af.toList.any fun e => Region.binds .any e && decide (e.on = j)
theorem onB_spec {af : Array Edge} {j : Nat} (h : onB af j = true) {l : Array Bool} (ha : ∀ e ∈ af, Region.binds .any e = true → l.getD e.on false = true) : l.getD j false = true := by
  unfold onB at h
  rw [List.any_eq_true] at h
  obtain ⟨e, hm, he⟩ := h
  rw [Bool.and_eq_true, decide_eq_true_eq] at he
  have := ha e (by simpa using hm) he.1
  rwa [he.2] at this
theorem ev_form (a : Act) (t : Tmp) : a.tmps[t]?.getD undef = a.eval (.tmp t) := by simp [Act.eval]
section
variable {P : Program} {ops : Array Oper} {G : Array Bool → Nat → World → Value → Prop} {J : Array Bool → World → Prop} {a0 : Act}
/-- What is known of an operand that an operation ahead has made. -/
theorem kn {l : Array Bool} {a : Act} {w : World} {af : Array Edge} (hp : PA ops G J a0 l a w) (ha : ∀ e ∈ af, Region.binds .any e = true → l.getD e.on false = true) (t : Tmp) (j : Nat) (hj : (ops[j]?).bind (·.dst) = some t) (he : onB af j = true) : G l j w (a.eval (.tmp t)) := by
  obtain ⟨o, ho, hd⟩ := Option.bind_eq_some_iff.1 hj
  exact hp.good j o t ho hd (onB_spec he ha)
/-- An operand that was there. -/
theorem old {l : Array Bool} {a : Act} {w : World} (hp : PA ops G J a0 l a w) (t : Tmp) {v : Value} (hd : ops.all (fun o => o.dst != some t) = true) (hv : a0.eval (.tmp t) = v) : a.eval (.tmp t) = v := by
  rw [hp.keep t (fun i o ho e => ?_)]
  · exact hv
  · rw [Array.all_eq_true] at hd
    obtain ⟨h1, h2⟩ := Array.getElem?_eq_some_iff.1 ho
    have := hd i h1
    rw [h2, e] at this
    simp at this
theorem notDoneB {l : Array Bool} {k : Nat} (h : l.getD k true = false) : l.getD k false = false := by
  unfold Array.getD at *
  split at h
  · rename_i hk; rw [dif_pos hk]; exact h
  · cases h
/-- A slot that an operation behind will write. -/
theorem old2 {l : Array Bool} {a : Act} {w : World} (hp : PA ops G J a0 l a w) {k : Nat} (hu : l.getD k true = false) (t : Tmp) (j : Nat) {v : Value} (hj : (ops[j]?).bind (·.dst) = some t) (he : (ops[j]?).any (fun o => onB o.after k) = true) (hv : a0.eval (.tmp t) = v) : a.eval (.tmp t) = v := by
  obtain ⟨o, ho, hd⟩ := Option.bind_eq_some_iff.1 hj
  rw [hp.fresh j o t ho hd ?_]
  · exact hv
  · cases h : l.getD j false with
    | false => rfl
    | true =>
      rw [ho] at he
      have := onB_spec (l := l) (by simpa using he) (hp.down j o ho h)
      rw [notDoneB hu] at this
      cases this
theorem wanted_none {o : Oper} {y : Nat → Option Bool} (h : o.guard = none) : Region.wanted o y = true := by simp [Region.wanted, h]
theorem wanted_some {o : Oper} {g : Nat} {want c : Bool} {d : Tmp} {a : Act} (h : o.guard = some (g, want)) (hd : (ops[g]?).bind (·.dst) = some d) (hn : d < a.tmps.size) (hv : a.eval (.tmp d) = .bool c) : Region.wanted o (yielded ops a.tmps) = (c == want) := by
  have e : a.tmps[d]? = some (.bool c) := by
    rw [Array.getElem?_eq_getElem hn]
    have : a.eval (.tmp d) = a.tmps[d] := by simp [Act.eval, Array.getD, hn]
    rw [← this, hv]
  simp [Region.wanted, h, yielded, hd, e]
/-- Facts of values alone, in a world that only grows. -/
abbrev GF (F : Nat → Value → Prop) : Array Bool → Nat → World → Value → Prop := fun _ k _ v => F k v
abbrev JB (w0 : World) : Array Bool → World → Prop := fun _ w => Below w0.heap.size w0 w
variable {F : Nat → Value → Prop} {w0 : World}
theorem st_val {k : Nat} {o : Oper} (hg : o.guard = none) (h : ∀ l a w, PA ops (GF F) (JB w0) a0 l a w → (∀ e ∈ o.after, Region.binds .any e = true → l.getD e.on false = true) → ∃ x, (execOp a.eval o).run P w = .ok (.value x) w ∧ F k x) : Stp P ops (GF F) (JB w0) a0 k o := by
  intro l a w hp hu ha
  obtain ⟨x, hr, hf⟩ := h l a w hp ha
  unfold opW
  rw [if_pos (wanted_none hg)]
  exact .inl ⟨x, w, hr, x, rfl, hp.j, hf, fun _ _ _ _ h => h⟩
theorem st_valu {k : Nat} {o : Oper} (hg : o.guard = none) (h : ∀ l a w, PA ops (GF F) (JB w0) a0 l a w → l.getD k true = false → (∀ e ∈ o.after, Region.binds .any e = true → l.getD e.on false = true) → ∃ x, (execOp a.eval o).run P w = .ok (.value x) w ∧ F k x) : Stp P ops (GF F) (JB w0) a0 k o := by
  intro l a w hp hu ha
  obtain ⟨x, hr, hf⟩ := h l a w hp hu ha
  unfold opW
  rw [if_pos (wanted_none hg)]
  exact .inl ⟨x, w, hr, x, rfl, hp.j, hf, fun _ _ _ _ h => h⟩
theorem st_valg {k : Nat} {o : Oper} {g : Nat} {want c : Bool} {d : Tmp} (hg : o.guard = some (g, want)) (hd : (ops[g]?).bind (·.dst) = some d) (hn : d < a0.tmps.size) (he : onB o.after g = true) (hc : ∀ v, F g v → v = .bool c) (hno : c ≠ want → F k undef)
    (h : ∀ l a w, PA ops (GF F) (JB w0) a0 l a w → (∀ e ∈ o.after, Region.binds .any e = true → l.getD e.on false = true) → c = want → ∃ x, (execOp a.eval o).run P w = .ok (.value x) w ∧ F k x) : Stp P ops (GF F) (JB w0) a0 k o := by
  intro l a w hp hu ha
  have hv := hc _ (kn hp ha d g hd he)
  have hw := wanted_some (ops := ops) hg hd (by rw [hp.nt]; exact hn) hv
  unfold opW
  by_cases e : c = want
  · obtain ⟨x, hr, hf⟩ := h l a w hp ha e
    rw [if_pos (by rw [hw, e]; simp)]
    exact .inl ⟨x, w, hr, x, rfl, hp.j, hf, fun _ _ _ _ h => h⟩
  · rw [if_neg (by rw [hw]; simpa using e)]
    exact ⟨undef, rfl, hp.j, hno e, fun _ _ _ _ h => h⟩
theorem st_call {k : Nat} {o : Oper} {f : FuncId} (hg : o.guard = none) (h : ∀ l a w, PA ops (GF F) (JB w0) a0 l a w → (∀ e ∈ o.after, Region.binds .any e = true → l.getD e.on false = true) → ∃ args, (execOp a.eval o).run P w = .ok (.enter f args) w ∧ Calls P f args w fun e w' => ∃ x, e = .returned x ∧ F k x ∧ Below w.heap.size w w') : Stp P ops (GF F) (JB w0) a0 k o := by
  intro l a w hp hu ha
  obtain ⟨args, hr, hc⟩ := h l a w hp ha
  unfold opW
  rw [if_pos (wanted_none hg)]
  refine .inr (.inr ⟨f, args, w, hr, Calls.mono hc ?_⟩)
  rintro e w' ⟨x, rfl, hf, hb⟩
  exact ⟨x, rfl, x, rfl, btr hp.j hb, hf, fun _ _ _ _ h => h⟩
theorem st_callg {k : Nat} {o : Oper} {f : FuncId} {g : Nat} {want c : Bool} {d : Tmp} (hg : o.guard = some (g, want)) (hd : (ops[g]?).bind (·.dst) = some d) (hn : d < a0.tmps.size) (he : onB o.after g = true) (hc : ∀ v, F g v → v = .bool c) (hno : c ≠ want → F k undef)
    (h : ∀ l a w, PA ops (GF F) (JB w0) a0 l a w → (∀ e ∈ o.after, Region.binds .any e = true → l.getD e.on false = true) → c = want → ∃ args, (execOp a.eval o).run P w = .ok (.enter f args) w ∧ Calls P f args w fun e w' => ∃ x, e = .returned x ∧ F k x ∧ Below w.heap.size w w') : Stp P ops (GF F) (JB w0) a0 k o := by
  intro l a w hp hu ha
  have hv := hc _ (kn hp ha d g hd he)
  have hw := wanted_some (ops := ops) hg hd (by rw [hp.nt]; exact hn) hv
  unfold opW
  by_cases e : c = want
  · obtain ⟨args, hr, hcl⟩ := h l a w hp ha e
    rw [if_pos (by rw [hw, e]; simp)]
    refine .inr (.inr ⟨f, args, w, hr, Calls.mono hcl ?_⟩)
    rintro e w' ⟨x, rfl, hf, hb⟩
    exact ⟨x, rfl, x, rfl, btr hp.j hb, hf, fun _ _ _ _ h => h⟩
  · rw [if_neg (by rw [hw]; simpa using e)]
    exact ⟨undef, rfl, hp.j, hno e, fun _ _ _ _ h => h⟩
end
theorem dstIn {ops : Array Oper} {ts : List Tmp} (h : ops.all (fun o => match o.dst with | some d => ts.contains d | none => true) = true) {t : Tmp} (ht : t ∉ ts) : ∀ (i : Nat) o, ops[i]? = some o → o.dst ≠ some t := by
  intro i o ho e
  rw [Array.all_eq_true] at h
  obtain ⟨h1, h2⟩ := Array.getElem?_eq_some_iff.1 ho
  have := h i h1
  rw [h2, e] at this
  simp at this
  exact ht this
/-- A frame of which some slots were written. -/
def putAll (a0 : Act) (ts : List Tmp) (us : Tmp → Value) : Act := ts.foldl (fun a t => a.put (some t) (us t)) a0
theorem putAll_size (us : Tmp → Value) : ∀ (ts : List Tmp) (a0 : Act), (putAll a0 ts us).tmps.size = a0.tmps.size
  | [], _ => rfl
  | t :: ts, a0 => by
    show (putAll (a0.put (some t) (us t)) ts us).tmps.size = _
    rw [putAll_size us ts, put_size]
theorem putAll_defers (us : Tmp → Value) : ∀ (ts : List Tmp) (a0 : Act), (putAll a0 ts us).defers = a0.defers
  | [], _ => rfl
  | t :: ts, a0 => by
    show (putAll (a0.put (some t) (us t)) ts us).defers = _
    rw [putAll_defers us ts, put_defers]
theorem putAll_eval (us : Tmp → Value) (i : Tmp) : ∀ (ts : List Tmp) (a0 : Act), i < a0.tmps.size → (putAll a0 ts us).eval (.tmp i) = if i ∈ ts then us i else a0.eval (.tmp i)
  | [], _, _ => by simp [putAll]
  | t :: ts, a0, h => by
    show (putAll (a0.put (some t) (us t)) ts us).eval (.tmp i) = _
    rw [putAll_eval us i ts _ (by rw [put_size]; exact h)]
    by_cases e : i = t
    · subst e
      rw [put_same h]
      simp
    · rw [put_other (fun h => e (by injection h with h; exact h.symm))]
      simp [e]
theorem eval_at (a : Act) (i : Nat) (h : i < a.tmps.size) : a.eval (.tmp i) = a.tmps[i] := by simp [Act.eval, Array.getD, h]
theorem act_ext {a b : Act} (hs : a.tmps.size = b.tmps.size) (hd : a.defers = b.defers) (h : ∀ i, i < b.tmps.size → a.eval (.tmp i) = b.eval (.tmp i)) : a = b := by
  have h1 : a.tmps = b.tmps := Array.ext hs (fun i h1 h2 => by rw [← eval_at a i h1, ← eval_at b i h2]; exact h i h2)
  cases a; cases b
  simp at h1 hd
  rw [h1, hd]
theorem putAll_of {a a0 : Act} (ts : List Tmp) (hs : a.tmps.size = a0.tmps.size) (hd : a.defers = a0.defers) (hk : ∀ t, t ∉ ts → a.eval (.tmp t) = a0.eval (.tmp t)) : ∃ us, a = putAll a0 ts us ∧ ∀ t, us t = a.eval (.tmp t) := by
  refine ⟨fun t => a.eval (.tmp t), act_ext (by rw [putAll_size]; exact hs) (by rw [putAll_defers]; exact hd) (fun i hi => ?_), fun _ => rfl⟩
  rw [putAll_size] at hi
  rw [putAll_eval _ i ts a0 hi]
  by_cases h : i ∈ ts
  · rw [if_pos h]
  · rw [if_neg h]; exact hk i h
end Go.Proofs.YthbcokioijpofabGreat
namespace Go.Proofs.YthbcokioijpofabGreat
open Go Go.RowKit
set_option linter.unusedVariables false
section
variable {P : Program} {ops : Array Oper} {a0 : Act} {F : Nat → Value → Prop} {w0 : World} {n : Nat} {E : World → Prop}
abbrev JE (w0 : World) (n : Nat) (E : World → Prop) : Array Bool → World → Prop := fun l w => (l.getD n false = false → Below w0.heap.size w0 w) ∧ (l.getD n false = true → E w)
theorem JE.start {w0 w : World} {n m : Nat} {E : World → Prop} (h : Below w0.heap.size w0 w) : JE w0 n E (Array.replicate m false) w :=
  ⟨fun _ => h, fun e => by
    exfalso
    by_cases hm : n < m
    · simp [Array.getD, hm] at e
    · simp [Array.getD, hm] at e⟩
theorem lt_of_undone {l : Array Bool} {k : Nat} (h : l.getD k true = false) : k < l.size := by
  by_cases hk : k < l.size
  · exact hk
  · simp [Array.getD, hk] at h
theorem JE.low {l : Array Bool} {a : Act} {w : World} (hp : PA ops (GF F) (JE w0 n E) a0 l a w) {k : Nat} (hn : (ops[n]?).any (fun o => onB o.after k) = true) (hu : l.getD k true = false) : l.getD n false = false := by
  cases e : l.getD n false with
  | false => rfl
  | true =>
    exfalso
    cases ho : ops[n]? with
    | none => rw [ho] at hn; simp at hn
    | some o =>
      rw [ho] at hn
      have hd := onB_spec (by simpa using hn) (hp.down n o ho e)
      rw [notDoneB hu] at hd
      cases hd
theorem JE.step {l : Array Bool} {w' : World} {k : Nat} (hne : k ≠ n) (hu : l.getD k true = false) (hl : l.getD n false = false) (hb : Below w0.heap.size w0 w') : JE w0 n E (l.setIfInBounds k true) w' := by
  have e : (l.setIfInBounds k true).getD n false = false := by rw [set_ite (lt_of_undone hu), if_neg (fun e => hne e.symm), hl]
  exact ⟨fun _ => hb, fun h => by rw [e] at h; cases h⟩
theorem se_val {k : Nat} {o : Oper} (hne : k ≠ n) (hn : (ops[n]?).any (fun o => onB o.after k) = true) (hg : o.guard = none) (h : ∀ l a w, PA ops (GF F) (JE w0 n E) a0 l a w → Below w0.heap.size w0 w → (∀ e ∈ o.after, Region.binds .any e = true → l.getD e.on false = true) → ∃ x, (execOp a.eval o).run P w = .ok (.value x) w ∧ F k x) : Stp P ops (GF F) (JE w0 n E) a0 k o := by
  intro l a w hp hu ha
  have hl := JE.low hp hn hu
  have hb := hp.j.1 hl
  obtain ⟨x, hr, hf⟩ := h l a w hp hb ha
  unfold opW
  rw [if_pos (wanted_none hg)]
  exact .inl ⟨x, w, hr, x, rfl, JE.step hne hu hl hb, hf, fun _ _ _ _ h => h⟩
theorem se_valg {k : Nat} {o : Oper} {g : Nat} {want c : Bool} {d : Tmp} (hne : k ≠ n) (hn : (ops[n]?).any (fun o => onB o.after k) = true) (hg : o.guard = some (g, want)) (hd : (ops[g]?).bind (·.dst) = some d) (hnt : d < a0.tmps.size) (he : onB o.after g = true) (hc : ∀ v, F g v → v = .bool c) (hno : c ≠ want → F k undef)
    (h : ∀ l a w, PA ops (GF F) (JE w0 n E) a0 l a w → Below w0.heap.size w0 w → (∀ e ∈ o.after, Region.binds .any e = true → l.getD e.on false = true) → c = want → ∃ x, (execOp a.eval o).run P w = .ok (.value x) w ∧ F k x) : Stp P ops (GF F) (JE w0 n E) a0 k o := by
  intro l a w hp hu ha
  have hl := JE.low hp hn hu
  have hb := hp.j.1 hl
  have hv := hc _ (kn hp ha d g hd he)
  have hw := wanted_some (ops := ops) hg hd (by rw [hp.nt]; exact hnt) hv
  unfold opW
  by_cases e : c = want
  · obtain ⟨x, hr, hf⟩ := h l a w hp hb ha e
    rw [if_pos (by rw [hw, e]; simp)]
    exact .inl ⟨x, w, hr, x, rfl, JE.step hne hu hl hb, hf, fun _ _ _ _ h => h⟩
  · rw [if_neg (by rw [hw]; simpa using e)]
    exact ⟨undef, rfl, JE.step hne hu hl hb, hno e, fun _ _ _ _ h => h⟩
theorem se_call {k : Nat} {o : Oper} {f : FuncId} (hne : k ≠ n) (hn : (ops[n]?).any (fun o => onB o.after k) = true) (hg : o.guard = none) (h : ∀ l a w, PA ops (GF F) (JE w0 n E) a0 l a w → Below w0.heap.size w0 w → (∀ e ∈ o.after, Region.binds .any e = true → l.getD e.on false = true) → ∃ args, (execOp a.eval o).run P w = .ok (.enter f args) w ∧ Calls P f args w fun e w' => ∃ x, e = .returned x ∧ F k x ∧ Below w.heap.size w w') : Stp P ops (GF F) (JE w0 n E) a0 k o := by
  intro l a w hp hu ha
  have hl := JE.low hp hn hu
  have hb := hp.j.1 hl
  obtain ⟨args, hr, hc⟩ := h l a w hp hb ha
  unfold opW
  rw [if_pos (wanted_none hg)]
  refine .inr (.inr ⟨f, args, w, hr, Calls.mono hc ?_⟩)
  rintro e w' ⟨x, rfl, hf, hb'⟩
  exact ⟨x, rfl, x, rfl, JE.step hne hu hl (btr hb hb'), hf, fun _ _ _ _ h => h⟩
theorem se_callg {k : Nat} {o : Oper} {f : FuncId} {g : Nat} {want c : Bool} {d : Tmp} (hne : k ≠ n) (hn : (ops[n]?).any (fun o => onB o.after k) = true) (hg : o.guard = some (g, want)) (hd : (ops[g]?).bind (·.dst) = some d) (hnt : d < a0.tmps.size) (he : onB o.after g = true) (hc : ∀ v, F g v → v = .bool c) (hno : c ≠ want → F k undef)
    (h : ∀ l a w, PA ops (GF F) (JE w0 n E) a0 l a w → Below w0.heap.size w0 w → (∀ e ∈ o.after, Region.binds .any e = true → l.getD e.on false = true) → c = want → ∃ args, (execOp a.eval o).run P w = .ok (.enter f args) w ∧ Calls P f args w fun e w' => ∃ x, e = .returned x ∧ F k x ∧ Below w.heap.size w w') : Stp P ops (GF F) (JE w0 n E) a0 k o := by
  intro l a w hp hu ha
  have hl := JE.low hp hn hu
  have hb := hp.j.1 hl
  have hv := hc _ (kn hp ha d g hd he)
  have hw := wanted_some (ops := ops) hg hd (by rw [hp.nt]; exact hnt) hv
  unfold opW
  by_cases e : c = want
  · obtain ⟨args, hr, hcl⟩ := h l a w hp hb ha e
    rw [if_pos (by rw [hw, e]; simp)]
    refine .inr (.inr ⟨f, args, w, hr, Calls.mono hcl ?_⟩)
    rintro e w' ⟨x, rfl, hf, hb'⟩
    exact ⟨x, rfl, x, rfl, JE.step hne hu hl (btr hb hb'), hf, fun _ _ _ _ h => h⟩
  · rw [if_neg (by rw [hw]; simpa using e)]
    exact ⟨undef, rfl, JE.step hne hu hl hb, hno e, fun _ _ _ _ h => h⟩
theorem se_last {o : Oper} (hg : o.guard = none) (h : ∀ l a w, PA ops (GF F) (JE w0 n E) a0 l a w → Below w0.heap.size w0 w → (∀ e ∈ o.after, Region.binds .any e = true → l.getD e.on false = true) → ∃ w', (execOp a.eval o).run P w = .ok .skip w' ∧ E w') (hf : F n undef) : Stp P ops (GF F) (JE w0 n E) a0 n o := by
  intro l a w hp hu ha
  have hb := hp.j.1 (notDoneB hu)
  obtain ⟨w', hr, hE⟩ := h l a w hp hb ha
  unfold opW
  rw [if_pos (wanted_none hg)]
  have e : (l.setIfInBounds n true).getD n false = true := by rw [set_ite (lt_of_undone hu), if_pos rfl]
  exact .inr (.inl ⟨w', hr, undef, rfl, ⟨fun h => (by rw [e] at h; cases h), fun _ => hE⟩, hf, fun _ _ _ _ h => h⟩)
end
end Go.Proofs.YthbcokioijpofabGreat
namespace Go.Proofs.YthbcokioijpofabGreat
open Go Go.RowKit Gs
set_option linter.unusedVariables false
set_option linter.unusedSimpArgs false
set_option maxRecDepth 100000
def FT3 (b g n k : Nat) (y : Bool) : Nat → Value → Prop
  | 0, v => v = .pointer (some ⟨b, 0, none⟩)
  | 1, v => v = .pointer (some ⟨b, 0, none⟩)
  | 2, v => v = .pointer (some ⟨b, 6, none⟩)
  | 3, v => v = .slice (some ⟨g, 0, none⟩) n n
  | 4, v => v = .int .i64 (k : Int)
  | 5, v => v = .string (txt1 y)
  | 6, v => v = .int .u8 (48 + b2i y)
  | 7, v => v = .int .u8 (b2i y)
  | 8, v => v = .int .i64 (b2i y)
  | 9, v => v = .pointer (some ⟨g, k, none⟩)
  | 10, v => True
  | _, _ => True
set_option maxHeartbeats 3200000 in
theorem iTake {B b g : Nat} {W0 W : World} {p0 p1 p2 p3 p4 p5 : Value} {r : List Bool} (h : Ob B W b g [p0, p1, p2, p3, p4, p5] r) (ins : List ByteArray) (v : Value) (hr : RS 1 RStr W0 0 ins v) (hB : Below B W0 W) (hBe : B = W0.heap.size) (hl : r.length ≤ 1048576 * 4) (hn : ins.length ≤ r.length) (hbt : ∀ x ∈ ins, x = txt1 (bit1 x)) :
    Calls Tryz.prog 125 #[.pointer (some ⟨b, 0, none⟩), v] W fun e w' => e = .returned (.tuple #[]) ∧ Ob B w' b g [p0, p1, p2, p3, p4, p5] (ins.map bit1 ++ r.drop ins.length) ∧ Fx g W w' := by
  subst hBe
  obtain ⟨a, c, rfl⟩ := hr.slice
  have HCS : Hid (∀ (i : Nat) x, ins[i]? = some x → ∃ b o, a = some ⟨b, o, none⟩ ∧ W0.cell? ⟨b, o + i, none⟩ = some (.string x)) := hide (by
    intro i x hx
    rcases hr.open with ⟨rfl, _⟩ | ⟨b, o, c', hv, _, _, _, he⟩
    · simp at hx
    · injection hv with e1 e2 e3
      obtain ⟨u, hu, hat, hux, hs⟩ := he i x hx
      subst hux
      exact ⟨b, o, e1, by simpa using hat.get (j := 0) rfl⟩)
  have HBT := hide hbt
  have HB := hide hB
  have HH := hide h
  clear hr hbt hB h
  go_enter Tryz.func125, Tryz.ntmps125
  go_wp2
  go_loopw [8] (fun i wr => ∃ k : Nat, k ≤ ins.length ∧ i = .int .i64 k ∧ Ob W0.heap.size wr b g [p0, p1, p2, p3, p4, p5] ((ins.take k).map bit1 ++ r.drop k) ∧ Fx g W wr) (fun i wr => ins.length - (intOf i).toNat)
  case atStart => exact ⟨0, Nat.zero_le _, rfl, by simpa using unhide HH, Fx.refl _ _⟩
  case round =>
    obtain ⟨k, hk, rfl, ho, hf⟩ := hrel
    by_cases hlt : k < ins.length
    · have hx : ins[k]? = some ins[k] := List.getElem?_eq_getElem hlt
      have hmem := List.getElem_mem hlt
      generalize ins[k] = x at hx hmem
      obtain ⟨bb, oo, rfl, hc⟩ := unhide HCS k x hx
      have hxt := unhide HBT x hmem
      have hbw : Below W0.heap.size W0 wr := hf.below (unhide HB) (unhide HH).hg (by have := (unhide HB).size; omega)
      have k0 := cell_later hbw hc
      obtain ⟨_, _, _, _, _, _, q6⟩ := ho.cells
      have hlen : ((ins.take k).map bit1 ++ r.drop k).length = r.length := by simp; omega
      rw [hlen] at q6
      have H6 := hide q6
      have HST : Hid (((ins.take k).map bit1 ++ r.drop k).set k (bit1 x) = (ins.take (k + 1)).map bit1 ++ r.drop (k + 1)) := hide (by
        rw [List.take_add_one, hx, List.map_append, Option.toList_some]
        have hl2 : ((ins.take k).map bit1).length = k := by rw [List.length_map, List.length_take]; omega
        rw [List.set_append_right _ _ (by omega), hl2, Nat.sub_self, List.drop_eq_getElem_cons (by omega : k < r.length), List.set_cons_zero, List.append_assoc]
        rfl)
      have HY : Hid (∃ y, wr.cell? ⟨g, k, none⟩ = some (.int .i64 (b2i y)) ∧ wr.frozen? ⟨g, k, none⟩ = false) := hide (by
        have hl3 : k < ((ins.take k).map bit1 ++ r.drop k).length := by rw [hlen]; omega
        exact ⟨_, ho.vals k _ (List.getElem?_eq_getElem hl3)⟩)
      have HO := hide ho
      have HF := hide hf
      have i1 : (k : Int) < (r.length : Int) := by omega
      have i0 : (0 : Int) ≤ (k : Int) := by omega
      have i2 : (k : Int) < (ins.length : Int) := by omega
      rw [hxt] at k0
      generalize bit1 x = y at *
      clear ho hf hbw hc HCS hx hlen hxt hmem q6
      generalize hn' : r.length = n at *
      have HN := hide hn'
      clear hn'
      go_wp2_with fail
      clear k0
      refine wp_plan (GF (FT3 b g n k y)) (JE wr 10 (fun V => ∃ V0, Below wr.heap.size wr V0 ∧ V = V0.setCell ⟨g, k, none⟩ (.int .i64 (b2i y)))) (by kernel_rfl) 24 (by kernel_rfl) (by kernel_rfl) ?hj ?hs ?hf
      case hj => exact JE.start (bdr (brf wr))
      case hs =>
        refine ⟨?_, ?_, ?_, ?_, ?_, ?_, ?_, ?_, ?_, ?_, ?_, trivial⟩
        · exact se_val (by decide) (by kernel_rfl) rfl (fun l a V hp hB ha => ⟨.pointer (some ⟨b, 0, none⟩), by
            have x0 := (ev_form a 0).trans (old hp 0 (v := .pointer (some ⟨b, 0, none⟩)) (by kernel_rfl) (by kernel_rfl))
            go_simp, rfl⟩)
        · exact se_val (by decide) (by kernel_rfl) rfl (fun l a V hp hB ha => ⟨.pointer (some ⟨b, 0, none⟩), by
            have x13 := (ev_form a 13).trans (show a.eval (.tmp 13) = .pointer (some ⟨b, 0, none⟩) from kn hp ha 13 0 (by kernel_rfl) (by kernel_rfl))
            go_simp, rfl⟩)
        · exact se_val (by decide) (by kernel_rfl) rfl (fun l a V hp hB ha => ⟨.pointer (some ⟨b, 6, none⟩), by
            have x14 := (ev_form a 14).trans (show a.eval (.tmp 14) = .pointer (some ⟨b, 0, none⟩) from kn hp ha 14 1 (by kernel_rfl) (by kernel_rfl))
            go_simp, rfl⟩)
        · exact se_val (by decide) (by kernel_rfl) rfl (fun l a V hp hB ha => ⟨.slice (some ⟨g, 0, none⟩) n n, by
            have x15 := (ev_form a 15).trans (show a.eval (.tmp 15) = .pointer (some ⟨b, 6, none⟩) from kn hp ha 15 2 (by kernel_rfl) (by kernel_rfl))
            have m6 := cell_later hB (unhide H6)
            go_simp, rfl⟩)
        · exact se_val (by decide) (by kernel_rfl) rfl (fun l a V hp hB ha => ⟨.int .i64 (k : Int), by
            have x4 := (ev_form a 4).trans (old hp 4 (v := .int .i64 (k : Int)) (by kernel_rfl) (by kernel_rfl))
            go_simp, rfl⟩)
        · exact se_val (by decide) (by kernel_rfl) rfl (fun l a V hp hB ha => ⟨.string (txt1 y), by
            have x5 := (ev_form a 5).trans (old hp 5 (v := .string (txt1 y)) (by kernel_rfl) (by kernel_rfl))
            go_simp, rfl⟩)
        · refine se_val (by decide) (by kernel_rfl) rfl (fun l a V hp hB ha => ?_)
          have kk := kn hp ha 18 5 (by kernel_rfl) (by kernel_rfl)
          cases y with
          | false =>
            have x18 := (ev_form a 18).trans (show a.eval (.tmp 18) = .string ⟨#[48]⟩ from kk)
            exact ⟨.int .u8 48, by (go_simp; first | done | rfl | decide), rfl⟩
          | true =>
            have x18 := (ev_form a 18).trans (show a.eval (.tmp 18) = .string ⟨#[49]⟩ from kk)
            exact ⟨.int .u8 49, by (go_simp; first | done | rfl | decide), rfl⟩
        · refine se_val (by decide) (by kernel_rfl) rfl (fun l a V hp hB ha => ?_)
          have kk := kn hp ha 19 6 (by kernel_rfl) (by kernel_rfl)
          cases y with
          | false =>
            have x19 := (ev_form a 19).trans (show a.eval (.tmp 19) = .int .u8 48 from kk)
            exact ⟨.int .u8 0, by (go_simp; first | done | rfl | decide), rfl⟩
          | true =>
            have x19 := (ev_form a 19).trans (show a.eval (.tmp 19) = .int .u8 49 from kk)
            exact ⟨.int .u8 1, by (go_simp; first | done | rfl | decide), rfl⟩
        · refine se_val (by decide) (by kernel_rfl) rfl (fun l a V hp hB ha => ?_)
          have kk := kn hp ha 20 7 (by kernel_rfl) (by kernel_rfl)
          cases y with
          | false =>
            have x20 := (ev_form a 20).trans (show a.eval (.tmp 20) = .int .u8 0 from kk)
            exact ⟨.int .i64 0, by (go_simp; first | done | rfl | decide), rfl⟩
          | true =>
            have x20 := (ev_form a 20).trans (show a.eval (.tmp 20) = .int .u8 1 from kk)
            exact ⟨.int .i64 1, by (go_simp; first | done | rfl | decide), rfl⟩
        · exact se_val (by decide) (by kernel_rfl) rfl (fun l a V hp hB ha => ⟨.pointer (some ⟨g, k, none⟩), by
            have x16 := (ev_form a 16).trans (show a.eval (.tmp 16) = .slice (some ⟨g, 0, none⟩) n n from kn hp ha 16 3 (by kernel_rfl) (by kernel_rfl))
            have x17 := (ev_form a 17).trans (show a.eval (.tmp 17) = .int .i64 (k : Int) from kn hp ha 17 4 (by kernel_rfl) (by kernel_rfl))
            go_simp, rfl⟩)
        · refine se_last rfl (fun l a V hp hB ha => ?_) trivial
          have x22 := (ev_form a 22).trans (show a.eval (.tmp 22) = .pointer (some ⟨g, k, none⟩) from kn hp ha 22 9 (by kernel_rfl) (by kernel_rfl))
          have x21 := (ev_form a 21).trans (show a.eval (.tmp 21) = .int .i64 (b2i y) from kn hp ha 21 8 (by kernel_rfl) (by kernel_rfl))
          obtain ⟨y', hy, hfz⟩ := unhide HY
          have m1 := cell_later hB hy
          have m2 := frozen_later hB hy hfz
          exact ⟨V.setCell ⟨g, k, none⟩ (.int .i64 (b2i y)), by go_simp, ⟨V, hB, rfl⟩⟩
      case hf =>
        intro l a V hp hall
        obtain ⟨V0, hV0, hV⟩ := hp.j.2 (hall 10 (by decide))
        obtain ⟨us, rfl, hus⟩ := putAll_of [13, 14, 15, 16, 17, 18, 19, 20, 21, 22] hp.nt hp.df (fun t ht => hp.keep t (dstIn (by kernel_rfl) ht))
        clear hp hall hus
        simp only [putAll, List.foldl, Act.put, List.setIfInBounds_toArray, List.set_cons_zero, List.set_cons_succ]
        generalize us 13 = y13 at *
        generalize us 14 = y14 at *
        generalize us 15 = y15 at *
        generalize us 16 = y16 at *
        generalize us 17 = y17 at *
        generalize us 18 = y18 at *
        generalize us 19 = y19 at *
        generalize us 20 = y20 at *
        generalize us 21 = y21 at *
        generalize us 22 = y22 at *
        have HO2 := hide (((unhide HO).later hV0).set k y)
        have HF2 := hide (((unhide HF).trans (Fx.of (g := g) hV0)).trans (Fx.set g k V0 (.int .i64 (b2i y))))
        rw [unhide HST, ← hV] at HO2
        rw [← hV] at HF2
        clear hV hV0
        go_wp2_with fail
        go_roundw
        case rel => exact ⟨k + 1, by omega, by go_num, unhide HO2, unhide HF2⟩
        case measure => simp [intOf]; omega
    · obtain rfl : k = ins.length := by omega
      rw [List.take_of_length_le (Nat.le_refl _)] at ho
      have HO := hide ho
      have HF := hide hf
      clear ho hf HCS
      go_wp2
      exact bodyPost_end (v := .tuple #[]) (by simp [results, Tryz.results125, go_sem]) rfl ⟨rfl, unhide HO, unhide HF⟩
end Go.Proofs.YthbcokioijpofabGreat
