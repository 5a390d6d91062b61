/- Steps of a region's plan: operations that read, that call, guarded or not. -/
import Derived.Test.YtnoklbnacfmpdacRW
import Derived.Test.YtnoklbnacfmpdacGS2
namespace Go.Proofs.Ytnoklbnacfmpdac
open Go Go.RowKit
set_option linter.unusedVariables false
def onB (af : Array Edge) (j : Nat) : Bool := af.toList.any fun e => Region.binds .any e && decide (e.on = j)
theorem onB_spec {af : Array Edge} {j : Nat} (h : onB af j = true) {l : Array Bool} (ha : ∀ e ∈ af, Region.binds .any e = true → l.getD e.on false = true) : l.getD j false = true := by
  unfold onB at h
  rw [List.any_eq_true] at h
  obtain ⟨e, hm, he⟩ := h
  rw [Bool.and_eq_true, decide_eq_true_eq] at he
  have := ha e (by simpa using hm) he.1
  rwa [he.2] at this
theorem ev_form (a : Act) (t : Tmp) : a.tmps[t]?.getD undef = a.eval (.tmp t) := by simp [Act.eval]
section
variable {P : Program} {ops : Array Oper} {G : Array Bool → Nat → World → Value → Prop} {J : Array Bool → World → Prop} {a0 : Act}
/-- What is known of an operand that an operation ahead has made. -/
theorem kn {l : Array Bool} {a : Act} {w : World} {af : Array Edge} (hp : PA ops G J a0 l a w) (ha : ∀ e ∈ af, Region.binds .any e = true → l.getD e.on false = true) (t : Tmp) (j : Nat) (hj : (ops[j]?).bind (·.dst) = some t) (he : onB af j = true) : G l j w (a.eval (.tmp t)) := by
  obtain ⟨o, ho, hd⟩ := Option.bind_eq_some_iff.1 hj
  exact hp.good j o t ho hd (onB_spec he ha)
/-- An operand that was there. -/
theorem old {l : Array Bool} {a : Act} {w : World} (hp : PA ops G J a0 l a w) (t : Tmp) {v : Value} (hd : ops.all (fun o => o.dst != some t) = true) (hv : a0.eval (.tmp t) = v) : a.eval (.tmp t) = v := by
  rw [hp.keep t (fun i o ho e => ?_)]
  · exact hv
  · rw [Array.all_eq_true] at hd
    obtain ⟨h1, h2⟩ := Array.getElem?_eq_some_iff.1 ho
    have := hd i h1
    rw [h2, e] at this
    simp at this
theorem notDoneB {l : Array Bool} {k : Nat} (h : l.getD k true = false) : l.getD k false = false := by
  unfold Array.getD at *
  split at h
  · rename_i hk; rw [dif_pos hk]; exact h
  · cases h
/-- A slot that an operation behind will write. -/
theorem old2 {l : Array Bool} {a : Act} {w : World} (hp : PA ops G J a0 l a w) {k : Nat} (hu : l.getD k true = false) (t : Tmp) (j : Nat) {v : Value} (hj : (ops[j]?).bind (·.dst) = some t) (he : (ops[j]?).any (fun o => onB o.after k) = true) (hv : a0.eval (.tmp t) = v) : a.eval (.tmp t) = v := by
  obtain ⟨o, ho, hd⟩ := Option.bind_eq_some_iff.1 hj
  rw [hp.fresh j o t ho hd ?_]
  · exact hv
  · cases h : l.getD j false with
    | false => rfl
    | true =>
      rw [ho] at he
      have := onB_spec (l := l) (by simpa using he) (hp.down j o ho h)
      rw [notDoneB hu] at this
      cases this
theorem wanted_none {o : Oper} {y : Nat → Option Bool} (h : o.guard = none) : Region.wanted o y = true := by simp [Region.wanted, h]
theorem wanted_some {o : Oper} {g : Nat} {want c : Bool} {d : Tmp} {a : Act} (h : o.guard = some (g, want)) (hd : (ops[g]?).bind (·.dst) = some d) (hn : d < a.tmps.size) (hv : a.eval (.tmp d) = .bool c) : Region.wanted o (yielded ops a.tmps) = (c == want) := by
  have e : a.tmps[d]? = some (.bool c) := by
    rw [Array.getElem?_eq_getElem hn]
    have : a.eval (.tmp d) = a.tmps[d] := by simp [Act.eval, Array.getD, hn]
    rw [← this, hv]
  simp [Region.wanted, h, yielded, hd, e]
/-- Facts of values alone, in a world that only grows. -/
abbrev GF (F : Nat → Value → Prop) : Array Bool → Nat → World → Value → Prop := fun _ k _ v => F k v
abbrev JB (w0 : World) : Array Bool → World → Prop := fun _ w => Below w0.heap.size w0 w
variable {F : Nat → Value → Prop} {w0 : World}
theorem st_val {k : Nat} {o : Oper} (hg : o.guard = none) (h : ∀ l a w, PA ops (GF F) (JB w0) a0 l a w → (∀ e ∈ o.after, Region.binds .any e = true → l.getD e.on false = true) → ∃ x, (execOp a.eval o).run P w = .ok (.value x) w ∧ F k x) : Stp P ops (GF F) (JB w0) a0 k o := by
  intro l a w hp hu ha
  obtain ⟨x, hr, hf⟩ := h l a w hp ha
  unfold opW
  rw [if_pos (wanted_none hg)]
  exact .inl ⟨x, w, hr, x, rfl, hp.j, hf, fun _ _ _ _ h => h⟩
theorem st_valu {k : Nat} {o : Oper} (hg : o.guard = none) (h : ∀ l a w, PA ops (GF F) (JB w0) a0 l a w → l.getD k true = false → (∀ e ∈ o.after, Region.binds .any e = true → l.getD e.on false = true) → ∃ x, (execOp a.eval o).run P w = .ok (.value x) w ∧ F k x) : Stp P ops (GF F) (JB w0) a0 k o := by
  intro l a w hp hu ha
  obtain ⟨x, hr, hf⟩ := h l a w hp hu ha
  unfold opW
  rw [if_pos (wanted_none hg)]
  exact .inl ⟨x, w, hr, x, rfl, hp.j, hf, fun _ _ _ _ h => h⟩
theorem st_valg {k : Nat} {o : Oper} {g : Nat} {want c : Bool} {d : Tmp} (hg : o.guard = some (g, want)) (hd : (ops[g]?).bind (·.dst) = some d) (hn : d < a0.tmps.size) (he : onB o.after g = true) (hc : ∀ v, F g v → v = .bool c) (hno : c ≠ want → F k undef)
    (h : ∀ l a w, PA ops (GF F) (JB w0) a0 l a w → (∀ e ∈ o.after, Region.binds .any e = true → l.getD e.on false = true) → c = want → ∃ x, (execOp a.eval o).run P w = .ok (.value x) w ∧ F k x) : Stp P ops (GF F) (JB w0) a0 k o := by
  intro l a w hp hu ha
  have hv := hc _ (kn hp ha d g hd he)
  have hw := wanted_some (ops := ops) hg hd (by rw [hp.nt]; exact hn) hv
  unfold opW
  by_cases e : c = want
  · obtain ⟨x, hr, hf⟩ := h l a w hp ha e
    rw [if_pos (by rw [hw, e]; simp)]
    exact .inl ⟨x, w, hr, x, rfl, hp.j, hf, fun _ _ _ _ h => h⟩
  · rw [if_neg (by rw [hw]; simpa using e)]
    exact ⟨undef, rfl, hp.j, hno e, fun _ _ _ _ h => h⟩
theorem st_call {k : Nat} {o : Oper} {f : FuncId} (hg : o.guard = none) (h : ∀ l a w, PA ops (GF F) (JB w0) a0 l a w → (∀ e ∈ o.after, Region.binds .any e = true → l.getD e.on false = true) → ∃ args, (execOp a.eval o).run P w = .ok (.enter f args) w ∧ Calls P f args w fun e w' => ∃ x, e = .returned x ∧ F k x ∧ Below w.heap.size w w') : Stp P ops (GF F) (JB w0) a0 k o := by
  intro l a w hp hu ha
  obtain ⟨args, hr, hc⟩ := h l a w hp ha
  unfold opW
  rw [if_pos (wanted_none hg)]
  refine .inr (.inr ⟨f, args, w, hr, Calls.mono hc ?_⟩)
  rintro e w' ⟨x, rfl, hf, hb⟩
  exact ⟨x, rfl, x, rfl, btr hp.j hb, hf, fun _ _ _ _ h => h⟩
theorem st_callg {k : Nat} {o : Oper} {f : FuncId} {g : Nat} {want c : Bool} {d : Tmp} (hg : o.guard = some (g, want)) (hd : (ops[g]?).bind (·.dst) = some d) (hn : d < a0.tmps.size) (he : onB o.after g = true) (hc : ∀ v, F g v → v = .bool c) (hno : c ≠ want → F k undef)
    (h : ∀ l a w, PA ops (GF F) (JB w0) a0 l a w → (∀ e ∈ o.after, Region.binds .any e = true → l.getD e.on false = true) → c = want → ∃ args, (execOp a.eval o).run P w = .ok (.enter f args) w ∧ Calls P f args w fun e w' => ∃ x, e = .returned x ∧ F k x ∧ Below w.heap.size w w') : Stp P ops (GF F) (JB w0) a0 k o := by
  intro l a w hp hu ha
  have hv := hc _ (kn hp ha d g hd he)
  have hw := wanted_some (ops := ops) hg hd (by rw [hp.nt]; exact hn) hv
  unfold opW
  by_cases e : c = want
  · obtain ⟨args, hr, hcl⟩ := h l a w hp ha e
    rw [if_pos (by rw [hw, e]; simp)]
    refine .inr (.inr ⟨f, args, w, hr, Calls.mono hcl ?_⟩)
    rintro e w' ⟨x, rfl, hf, hb⟩
    exact ⟨x, rfl, x, rfl, btr hp.j hb, hf, fun _ _ _ _ h => h⟩
  · rw [if_neg (by rw [hw]; simpa using e)]
    exact ⟨undef, rfl, hp.j, hno e, fun _ _ _ _ h => h⟩
end
theorem dstIn {ops : Array Oper} {ts : List Tmp} (h : ops.all (fun o => match o.dst with | some d => ts.contains d | none => true) = true) {t : Tmp} (ht : t ∉ ts) : ∀ (i : Nat) o, ops[i]? = some o → o.dst ≠ some t := by
  intro i o ho e
  rw [Array.all_eq_true] at h
  obtain ⟨h1, h2⟩ := Array.getElem?_eq_some_iff.1 ho
  have := h i h1
  rw [h2, e] at this
  simp at this
  exact ht this
/-- A frame of which some slots were written. -/
def putAll (a0 : Act) (ts : List Tmp) (us : Tmp → Value) : Act := ts.foldl (fun a t => a.put (some t) (us t)) a0
theorem putAll_size (us : Tmp → Value) : ∀ (ts : List Tmp) (a0 : Act), (putAll a0 ts us).tmps.size = a0.tmps.size
  | [], _ => rfl
  | t :: ts, a0 => by
    show (putAll (a0.put (some t) (us t)) ts us).tmps.size = _
    rw [putAll_size us ts, put_size]
theorem putAll_defers (us : Tmp → Value) : ∀ (ts : List Tmp) (a0 : Act), (putAll a0 ts us).defers = a0.defers
  | [], _ => rfl
  | t :: ts, a0 => by
    show (putAll (a0.put (some t) (us t)) ts us).defers = _
    rw [putAll_defers us ts, put_defers]
theorem putAll_eval (us : Tmp → Value) (i : Tmp) : ∀ (ts : List Tmp) (a0 : Act), i < a0.tmps.size → (putAll a0 ts us).eval (.tmp i) = if i ∈ ts then us i else a0.eval (.tmp i)
  | [], _, _ => by simp [putAll]
  | t :: ts, a0, h => by
    show (putAll (a0.put (some t) (us t)) ts us).eval (.tmp i) = _
    rw [putAll_eval us i ts _ (by rw [put_size]; exact h)]
    by_cases e : i = t
    · subst e
      rw [put_same h]
      simp
    · rw [put_other (fun h => e (by injection h with h; exact h.symm))]
      simp [e]
theorem eval_at (a : Act) (i : Nat) (h : i < a.tmps.size) : a.eval (.tmp i) = a.tmps[i] := by simp [Act.eval, Array.getD, h]
theorem act_ext {a b : Act} (hs : a.tmps.size = b.tmps.size) (hd : a.defers = b.defers) (h : ∀ i, i < b.tmps.size → a.eval (.tmp i) = b.eval (.tmp i)) : a = b := by
  have h1 : a.tmps = b.tmps := Array.ext hs (fun i h1 h2 => by rw [← eval_at a i h1, ← eval_at b i h2]; exact h i h2)
  cases a; cases b
  simp at h1 hd
  rw [h1, hd]
theorem putAll_of {a a0 : Act} (ts : List Tmp) (hs : a.tmps.size = a0.tmps.size) (hd : a.defers = a0.defers) (hk : ∀ t, t ∉ ts → a.eval (.tmp t) = a0.eval (.tmp t)) : ∃ us, a = putAll a0 ts us ∧ ∀ t, us t = a.eval (.tmp t) := by
  refine ⟨fun t => a.eval (.tmp t), act_ext (by rw [putAll_size]; exact hs) (by rw [putAll_defers]; exact hd) (fun i hi => ?_), fun _ => rfl⟩
  rw [putAll_size] at hi
  rw [putAll_eval _ i ts a0 hi]
  by_cases h : i ∈ ts
  · rw [if_pos h]
  · rw [if_neg h]; exact hk i h
end Go.Proofs.Ytnoklbnacfmpdac
namespace Go.Proofs.Ytnoklbnacfmpdac
open Go Go.RowKit Gs
set_option linter.unusedVariables false
section
variable {P : Program} {ops : Array Oper} {a0 : Act} {F : Nat → World → Value → Prop} {w0 : World}
abbrev GW (F : Nat → World → Value → Prop) : Array Bool → Nat → World → Value → Prop := fun _ k w v => F k w v
def Lasts (F : Nat → World → Value → Prop) : Prop := ∀ k w w' v, Below w.heap.size w w' → F k w v → F k w' v
theorem sl_val {k : Nat} {o : Oper} (hg : o.guard = none) (h : ∀ l a w, PA ops (GW F) (JB w0) a0 l a w → (∀ e ∈ o.after, Region.binds .any e = true → l.getD e.on false = true) → ∃ x, (execOp a.eval o).run P w = .ok (.value x) w ∧ F k w x) : Stp P ops (GW F) (JB w0) a0 k o := by
  intro l a w hp hu ha
  obtain ⟨x, hr, hf⟩ := h l a w hp ha
  unfold opW
  rw [if_pos (wanted_none hg)]
  exact .inl ⟨x, w, hr, x, rfl, hp.j, hf, fun _ _ _ _ h => h⟩
theorem sl_new {k : Nat} {o : Oper} (hm : Lasts F) (hg : o.guard = none) (h : ∀ l a w, PA ops (GW F) (JB w0) a0 l a w → (∀ e ∈ o.after, Region.binds .any e = true → l.getD e.on false = true) → ∃ x ob, (execOp a.eval o).run P w = .ok (.value x) (w.alloc ob) ∧ F k (w.alloc ob) x) : Stp P ops (GW F) (JB w0) a0 k o := by
  intro l a w hp hu ha
  obtain ⟨x, ob, hr, hf⟩ := h l a w hp ha
  unfold opW
  rw [if_pos (wanted_none hg)]
  exact .inl ⟨x, _, hr, x, rfl, bal hp.j ob, hf, fun j _ _ _ h => hm j _ _ _ (bal (brf w) ob) h⟩
theorem sl_call {k : Nat} {o : Oper} {f : FuncId} (hm : Lasts F) (hg : o.guard = none) (h : ∀ l a w, PA ops (GW F) (JB w0) a0 l a w → (∀ e ∈ o.after, Region.binds .any e = true → l.getD e.on false = true) → ∃ args, (execOp a.eval o).run P w = .ok (.enter f args) w ∧ Calls P f args w fun e w' => ∃ x, e = .returned x ∧ F k w' x ∧ Below w.heap.size w w') : Stp P ops (GW F) (JB w0) a0 k o := by
  intro l a w hp hu ha
  obtain ⟨args, hr, hc⟩ := h l a w hp ha
  unfold opW
  rw [if_pos (wanted_none hg)]
  refine .inr (.inr ⟨f, args, w, hr, Calls.mono hc ?_⟩)
  rintro e w' ⟨x, rfl, hf, hb⟩
  exact ⟨x, rfl, x, rfl, btr hp.j hb, hf, fun j _ _ _ h => hm j _ _ _ hb h⟩
end
/-- A slice of slices that was built. -/
theorem RL_built {α : Type} {R : Rd α} (hR : Keeps R) (V : World) (t : TypeId) (xss : List (List α)) (vs : List Value) (hl : vs.length = xss.length) (hn : xss.length ≤ maxLen) (h : ∀ (i : Nat) x v, xss[i]? = some x → vs[i]? = some v → RS 1 R V 0 x v) :
    RS 1 (RL 1 R) (V.alloc (.cells vs.toArray t)) 0 xss (.slice (some ⟨V.heap.size, 0, none⟩) xss.length xss.length) := by
  refine ⟨_, _, rfl, Nat.le_refl _, hn, fun _ => ⟨V.heap.size, 0, rfl, Nat.zero_le _, fun i x hx => ?_⟩⟩
  have hi : i < vs.length := by rw [hl]; exact (List.getElem?_eq_some_iff.1 hx).1
  refine ⟨[vs[i]], rfl, fun j y hj => ?_, vs[i], rfl, (h i x vs[i] hx (List.getElem?_eq_getElem hi)).later hR (bal (brf V) _)⟩
  have hj0 : j = 0 := by
    cases j with
    | zero => rfl
    | succ j => simp at hj
  subst hj0
  simp at hj
  subst hj
  rw [World.cell?_alloc_new]
  simp [hi]
end Go.Proofs.Ytnoklbnacfmpdac
namespace Go.Proofs.Ytnoklbnacfmpdac
open Go Go.RowKit
set_option linter.unusedVariables false
section
variable {P : Program} {ops : Array Oper} {a0 : Act} {F : Nat → Value → Prop} {w0 : World} {n : Nat} {E : World → Prop}
abbrev JE (w0 : World) (n : Nat) (E : World → Prop) : Array Bool → World → Prop := fun l w => (l.getD n false = false → Below w0.heap.size w0 w) ∧ (l.getD n false = true → E w)
theorem JE.start {w0 w : World} {n m : Nat} {E : World → Prop} (h : Below w0.heap.size w0 w) : JE w0 n E (Array.replicate m false) w :=
  ⟨fun _ => h, fun e => by
    exfalso
    by_cases hm : n < m
    · simp [Array.getD, hm] at e
    · simp [Array.getD, hm] at e⟩
theorem lt_of_undone {l : Array Bool} {k : Nat} (h : l.getD k true = false) : k < l.size := by
  by_cases hk : k < l.size
  · exact hk
  · simp [Array.getD, hk] at h
theorem JE.low {l : Array Bool} {a : Act} {w : World} (hp : PA ops (GF F) (JE w0 n E) a0 l a w) {k : Nat} (hn : (ops[n]?).any (fun o => onB o.after k) = true) (hu : l.getD k true = false) : l.getD n false = false := by
  cases e : l.getD n false with
  | false => rfl
  | true =>
    exfalso
    cases ho : ops[n]? with
    | none => rw [ho] at hn; simp at hn
    | some o =>
      rw [ho] at hn
      have hd := onB_spec (by simpa using hn) (hp.down n o ho e)
      rw [notDoneB hu] at hd
      cases hd
theorem JE.step {l : Array Bool} {w' : World} {k : Nat} (hne : k ≠ n) (hu : l.getD k true = false) (hl : l.getD n false = false) (hb : Below w0.heap.size w0 w') : JE w0 n E (l.setIfInBounds k true) w' := by
  have e : (l.setIfInBounds k true).getD n false = false := by rw [set_ite (lt_of_undone hu), if_neg (fun e => hne e.symm), hl]
  exact ⟨fun _ => hb, fun h => by rw [e] at h; cases h⟩
theorem se_val {k : Nat} {o : Oper} (hne : k ≠ n) (hn : (ops[n]?).any (fun o => onB o.after k) = true) (hg : o.guard = none) (h : ∀ l a w, PA ops (GF F) (JE w0 n E) a0 l a w → Below w0.heap.size w0 w → (∀ e ∈ o.after, Region.binds .any e = true → l.getD e.on false = true) → ∃ x, (execOp a.eval o).run P w = .ok (.value x) w ∧ F k x) : Stp P ops (GF F) (JE w0 n E) a0 k o := by
  intro l a w hp hu ha
  have hl := JE.low hp hn hu
  have hb := hp.j.1 hl
  obtain ⟨x, hr, hf⟩ := h l a w hp hb ha
  unfold opW
  rw [if_pos (wanted_none hg)]
  exact .inl ⟨x, w, hr, x, rfl, JE.step hne hu hl hb, hf, fun _ _ _ _ h => h⟩
theorem se_valg {k : Nat} {o : Oper} {g : Nat} {want c : Bool} {d : Tmp} (hne : k ≠ n) (hn : (ops[n]?).any (fun o => onB o.after k) = true) (hg : o.guard = some (g, want)) (hd : (ops[g]?).bind (·.dst) = some d) (hnt : d < a0.tmps.size) (he : onB o.after g = true) (hc : ∀ v, F g v → v = .bool c) (hno : c ≠ want → F k undef)
    (h : ∀ l a w, PA ops (GF F) (JE w0 n E) a0 l a w → Below w0.heap.size w0 w → (∀ e ∈ o.after, Region.binds .any e = true → l.getD e.on false = true) → c = want → ∃ x, (execOp a.eval o).run P w = .ok (.value x) w ∧ F k x) : Stp P ops (GF F) (JE w0 n E) a0 k o := by
  intro l a w hp hu ha
  have hl := JE.low hp hn hu
  have hb := hp.j.1 hl
  have hv := hc _ (kn hp ha d g hd he)
  have hw := wanted_some (ops := ops) hg hd (by rw [hp.nt]; exact hnt) hv
  unfold opW
  by_cases e : c = want
  · obtain ⟨x, hr, hf⟩ := h l a w hp hb ha e
    rw [if_pos (by rw [hw, e]; simp)]
    exact .inl ⟨x, w, hr, x, rfl, JE.step hne hu hl hb, hf, fun _ _ _ _ h => h⟩
  · rw [if_neg (by rw [hw]; simpa using e)]
    exact ⟨undef, rfl, JE.step hne hu hl hb, hno e, fun _ _ _ _ h => h⟩
theorem se_call {k : Nat} {o : Oper} {f : FuncId} (hne : k ≠ n) (hn : (ops[n]?).any (fun o => onB o.after k) = true) (hg : o.guard = none) (h : ∀ l a w, PA ops (GF F) (JE w0 n E) a0 l a w → Below w0.heap.size w0 w → (∀ e ∈ o.after, Region.binds .any e = true → l.getD e.on false = true) → ∃ args, (execOp a.eval o).run P w = .ok (.enter f args) w ∧ Calls P f args w fun e w' => ∃ x, e = .returned x ∧ F k x ∧ Below w.heap.size w w') : Stp P ops (GF F) (JE w0 n E) a0 k o := by
  intro l a w hp hu ha
  have hl := JE.low hp hn hu
  have hb := hp.j.1 hl
  obtain ⟨args, hr, hc⟩ := h l a w hp hb ha
  unfold opW
  rw [if_pos (wanted_none hg)]
  refine .inr (.inr ⟨f, args, w, hr, Calls.mono hc ?_⟩)
  rintro e w' ⟨x, rfl, hf, hb'⟩
  exact ⟨x, rfl, x, rfl, JE.step hne hu hl (btr hb hb'), hf, fun _ _ _ _ h => h⟩
theorem se_callg {k : Nat} {o : Oper} {f : FuncId} {g : Nat} {want c : Bool} {d : Tmp} (hne : k ≠ n) (hn : (ops[n]?).any (fun o => onB o.after k) = true) (hg : o.guard = some (g, want)) (hd : (ops[g]?).bind (·.dst) = some d) (hnt : d < a0.tmps.size) (he : onB o.after g = true) (hc : ∀ v, F g v → v = .bool c) (hno : c ≠ want → F k undef)
    (h : ∀ l a w, PA ops (GF F) (JE w0 n E) a0 l a w → Below w0.heap.size w0 w → (∀ e ∈ o.after, Region.binds .any e = true → l.getD e.on false = true) → c = want → ∃ args, (execOp a.eval o).run P w = .ok (.enter f args) w ∧ Calls P f args w fun e w' => ∃ x, e = .returned x ∧ F k x ∧ Below w.heap.size w w') : Stp P ops (GF F) (JE w0 n E) a0 k o := by
  intro l a w hp hu ha
  have hl := JE.low hp hn hu
  have hb := hp.j.1 hl
  have hv := hc _ (kn hp ha d g hd he)
  have hw := wanted_some (ops := ops) hg hd (by rw [hp.nt]; exact hnt) hv
  unfold opW
  by_cases e : c = want
  · obtain ⟨args, hr, hcl⟩ := h l a w hp hb ha e
    rw [if_pos (by rw [hw, e]; simp)]
    refine .inr (.inr ⟨f, args, w, hr, Calls.mono hcl ?_⟩)
    rintro e w' ⟨x, rfl, hf, hb'⟩
    exact ⟨x, rfl, x, rfl, JE.step hne hu hl (btr hb hb'), hf, fun _ _ _ _ h => h⟩
  · rw [if_neg (by rw [hw]; simpa using e)]
    exact ⟨undef, rfl, JE.step hne hu hl hb, hno e, fun _ _ _ _ h => h⟩
theorem se_last {o : Oper} (hg : o.guard = none) (h : ∀ l a w, PA ops (GF F) (JE w0 n E) a0 l a w → Below w0.heap.size w0 w → (∀ e ∈ o.after, Region.binds .any e = true → l.getD e.on false = true) → ∃ w', (execOp a.eval o).run P w = .ok .skip w' ∧ E w') (hf : F n undef) : Stp P ops (GF F) (JE w0 n E) a0 n o := by
  intro l a w hp hu ha
  have hb := hp.j.1 (notDoneB hu)
  obtain ⟨w', hr, hE⟩ := h l a w hp hb ha
  unfold opW
  rw [if_pos (wanted_none hg)]
  have e : (l.setIfInBounds n true).getD n false = true := by rw [set_ite (lt_of_undone hu), if_pos rfl]
  exact .inr (.inl ⟨w', hr, undef, rfl, ⟨fun h => (by rw [e] at h; cases h), fun _ => hE⟩, hf, fun _ _ _ _ h => h⟩)
end
end Go.Proofs.Ytnoklbnacfmpdac
namespace Go.Proofs.Ytnoklbnacfmpdac
open Go Go.RowKit
set_option linter.unusedVariables false
section
variable {P : Program} {ops : Array Oper} {a0 : Act} {F : Nat → Value → Prop} {F2 : Nat → World → Value → Prop} {w0 : World} {m n : Nat} {A : Value → World → Prop} {E : World → Prop}
/-- Facts: until the append they may speak of the world; of what the append gave one knows A until it is stored. -/
abbrev GAr (F : Nat → Value → Prop) (F2 : Nat → World → Value → Prop) (m n : Nat) (A : Value → World → Prop) : Array Bool → Nat → World → Value → Prop := fun l k w v => F k v ∧ (l.getD m false = false → F2 k w v) ∧ (k = m → l.getD n false = false → A v w)
abbrev JAr (w0 : World) (m n : Nat) (A : Value → World → Prop) (E : World → Prop) : Array Bool → World → Prop := fun l w => (l.getD m false = false → Below w0.heap.size w0 w) ∧ (l.getD n false = true → E w) ∧ (l.getD n false = true → l.getD m false = true)
theorem JAr.start {w0 w : World} {m n q : Nat} {A : Value → World → Prop} {E : World → Prop} (h : Below w0.heap.size w0 w) : JAr w0 m n A E (Array.replicate q false) w := by
  have e : (Array.replicate q false).getD n false = false := by
    by_cases hm : n < q
    · simp [Array.getD, hm]
    · simp [Array.getD, hm]
  exact ⟨fun _ => h, fun h => (by rw [e] at h; cases h), fun h => (by rw [e] at h; cases h)⟩
theorem und {G : Array Bool → Nat → World → Value → Prop} {J : Array Bool → World → Prop} {l : Array Bool} {a : Act} {w : World} (hp : PA ops G J a0 l a w) {k j : Nat} (hn : (ops[j]?).any (fun o => onB o.after k) = true) (hu : l.getD k false = false) : l.getD j false = false := by
  cases e : l.getD j false with
  | false => rfl
  | true =>
    exfalso
    cases ho : ops[j]? with
    | none => rw [ho] at hn; simp at hn
    | some o =>
      rw [ho] at hn
      have hd := onB_spec (by simpa using hn) (hp.down j o ho e)
      rw [hu] at hd
      cases hd
theorem set_oth {l : Array Bool} {k j : Nat} (hu : l.getD k true = false) (h : j ≠ k) : (l.setIfInBounds k true).getD j false = l.getD j false := by
  rw [set_ite (lt_of_undone hu), if_neg h]
theorem set_own {l : Array Bool} {k : Nat} (hu : l.getD k true = false) : (l.setIfInBounds k true).getD k false = true := by
  rw [set_ite (lt_of_undone hu), if_pos rfl]
/-- An operation ahead of the append: it reads. -/
theorem sar_val {k : Nat} {o : Oper} (hkm : k ≠ m) (hkn : k ≠ n) (hm : ∀ l a w, PA ops (GAr F F2 m n A) (JAr w0 m n A E) a0 l a w → l.getD k false = false → l.getD m false = false ∧ l.getD n false = false) (hg : o.guard = none) (h : ∀ l a w, PA ops (GAr F F2 m n A) (JAr w0 m n A E) a0 l a w → l.getD m false = false → Below w0.heap.size w0 w → (∀ e ∈ o.after, Region.binds .any e = true → l.getD e.on false = true) → ∃ x, (execOp a.eval o).run P w = .ok (.value x) w ∧ F k x ∧ F2 k w x) : Stp P ops (GAr F F2 m n A) (JAr w0 m n A E) a0 k o := by
  intro l a w hp hu ha
  obtain ⟨h1, h2⟩ := hm l a w hp (notDoneB hu)
  have hb := hp.j.1 h1
  obtain ⟨x, hr, hf, hf2⟩ := h l a w hp h1 hb ha
  unfold opW
  rw [if_pos (wanted_none hg)]
  refine .inl ⟨x, w, hr, x, rfl, ⟨fun _ => hb, fun e => ?_, fun e => ?_⟩, ⟨hf, fun _ => hf2, fun e => absurd e hkm⟩, fun j d hd hj hG => ⟨hG.1, fun _ => hG.2.1 h1, fun e _ => hG.2.2 e h2⟩⟩
  · rw [set_oth hu (Ne.symm hkn), h2] at e; cases e
  · rw [set_oth hu (Ne.symm hkn), h2] at e; cases e
theorem sar_new {k : Nat} {o : Oper} (hL : Lasts F2) (hkm : k ≠ m) (hkn : k ≠ n) (hm : ∀ l a w, PA ops (GAr F F2 m n A) (JAr w0 m n A E) a0 l a w → l.getD k false = false → l.getD m false = false ∧ l.getD n false = false) (hg : o.guard = none) (h : ∀ l a w, PA ops (GAr F F2 m n A) (JAr w0 m n A E) a0 l a w → l.getD m false = false → Below w0.heap.size w0 w → (∀ e ∈ o.after, Region.binds .any e = true → l.getD e.on false = true) → ∃ x ob, (execOp a.eval o).run P w = .ok (.value x) (w.alloc ob) ∧ F k x ∧ F2 k (w.alloc ob) x) : Stp P ops (GAr F F2 m n A) (JAr w0 m n A E) a0 k o := by
  intro l a w hp hu ha
  obtain ⟨h1, h2⟩ := hm l a w hp (notDoneB hu)
  have hb := hp.j.1 h1
  obtain ⟨x, ob, hr, hf, hf2⟩ := h l a w hp h1 hb ha
  unfold opW
  rw [if_pos (wanted_none hg)]
  refine .inl ⟨x, _, hr, x, rfl, ⟨fun _ => bal hb ob, fun e => ?_, fun e => ?_⟩, ⟨hf, fun _ => hf2, fun e => absurd e hkm⟩, fun j d hd hj hG => ⟨hG.1, fun _ => hL _ _ _ _ (bal (brf w) ob) (hG.2.1 h1), fun e _ => ?_⟩⟩
  · rw [set_oth hu (Ne.symm hkn), h2] at e; cases e
  · rw [set_oth hu (Ne.symm hkn), h2] at e; cases e
  · subst e; rw [h1] at hj; cases hj
theorem sar_call {k : Nat} {o : Oper} {f : FuncId} (hL : Lasts F2) (hkm : k ≠ m) (hkn : k ≠ n) (hm : ∀ l a w, PA ops (GAr F F2 m n A) (JAr w0 m n A E) a0 l a w → l.getD k false = false → l.getD m false = false ∧ l.getD n false = false) (hg : o.guard = none) (h : ∀ l a w, PA ops (GAr F F2 m n A) (JAr w0 m n A E) a0 l a w → l.getD m false = false → Below w0.heap.size w0 w → (∀ e ∈ o.after, Region.binds .any e = true → l.getD e.on false = true) → ∃ args, (execOp a.eval o).run P w = .ok (.enter f args) w ∧ Calls P f args w fun e w' => ∃ x, e = .returned x ∧ F k x ∧ F2 k w' x ∧ Below w.heap.size w w') : Stp P ops (GAr F F2 m n A) (JAr w0 m n A E) a0 k o := by
  intro l a w hp hu ha
  obtain ⟨h1, h2⟩ := hm l a w hp (notDoneB hu)
  have hb := hp.j.1 h1
  obtain ⟨args, hr, hc⟩ := h l a w hp h1 hb ha
  unfold opW
  rw [if_pos (wanted_none hg)]
  refine .inr (.inr ⟨f, args, w, hr, Calls.mono hc ?_⟩)
  rintro e w' ⟨x, rfl, hf, hf2, hb'⟩
  refine ⟨x, rfl, x, rfl, ⟨fun _ => btr hb hb', fun e => ?_, fun e => ?_⟩, ⟨hf, fun _ => hf2, fun e => absurd e hkm⟩, fun j d hd hj hG => ⟨hG.1, fun _ => hL _ _ _ _ hb' (hG.2.1 h1), fun e _ => ?_⟩⟩
  · rw [set_oth hu (Ne.symm hkn), h2] at e; cases e
  · rw [set_oth hu (Ne.symm hkn), h2] at e; cases e
  · subst e; rw [h1] at hj; cases hj
/-- An operation that looks at no memory, whenever it is done. -/
theorem sar_float {k : Nat} {o : Oper} (hkm : k ≠ m) (hkn : k ≠ n) (hn : ∀ l a w, PA ops (GAr F F2 m n A) (JAr w0 m n A E) a0 l a w → l.getD k false = false → l.getD n false = false) (hg : o.guard = none) (h : ∀ l a w, PA ops (GAr F F2 m n A) (JAr w0 m n A E) a0 l a w → (∀ e ∈ o.after, Region.binds .any e = true → l.getD e.on false = true) → ∃ x, (execOp a.eval o).run P w = .ok (.value x) w ∧ F k x ∧ F2 k w x) : Stp P ops (GAr F F2 m n A) (JAr w0 m n A E) a0 k o := by
  intro l a w hp hu ha
  have h2 := hn l a w hp (notDoneB hu)
  obtain ⟨x, hr, hf, hf2⟩ := h l a w hp ha
  unfold opW
  rw [if_pos (wanted_none hg)]
  refine .inl ⟨x, w, hr, x, rfl, ⟨fun e => ?_, fun e => ?_, fun e => ?_⟩, ⟨hf, fun _ => hf2, fun e => absurd e hkm⟩, fun j d hd hj hG => ⟨hG.1, fun e => ?_, fun e _ => hG.2.2 e h2⟩⟩
  · rw [set_oth hu (Ne.symm hkm)] at e; exact hp.j.1 e
  · rw [set_oth hu (Ne.symm hkn), h2] at e; cases e
  · rw [set_oth hu (Ne.symm hkn), h2] at e; cases e
  · rw [set_oth hu (Ne.symm hkm)] at e; exact hG.2.1 e
theorem sar_app {o : Oper} (hmn : m ≠ n) (hn : ∀ l a w, PA ops (GAr F F2 m n A) (JAr w0 m n A E) a0 l a w → l.getD m false = false → l.getD n false = false) (hg : o.guard = none) (h : ∀ l a w, PA ops (GAr F F2 m n A) (JAr w0 m n A E) a0 l a w → l.getD m false = false → Below w0.heap.size w0 w → (∀ e ∈ o.after, Region.binds .any e = true → l.getD e.on false = true) → ∃ x w', (execOp a.eval o).run P w = .ok (.value x) w' ∧ A x w' ∧ F m x) : Stp P ops (GAr F F2 m n A) (JAr w0 m n A E) a0 m o := by
  intro l a w hp hu ha
  have h1 := notDoneB hu
  have h2 := hn l a w hp h1
  obtain ⟨x, w', hr, hA, hf⟩ := h l a w hp h1 (hp.j.1 h1) ha
  unfold opW
  rw [if_pos (wanted_none hg)]
  refine .inl ⟨x, w', hr, x, rfl, ⟨fun e => ?_, fun e => ?_, fun e => ?_⟩, ⟨hf, fun e => ?_, fun _ _ => hA⟩, fun j d hd hj hG => ⟨hG.1, fun e => ?_, fun e _ => ?_⟩⟩
  · rw [set_own hu] at e; cases e
  · rw [set_oth hu (Ne.symm hmn), h2] at e; cases e
  · rw [set_oth hu (Ne.symm hmn), h2] at e; cases e
  · rw [set_own hu] at e; cases e
  · rw [set_own hu] at e; cases e
  · subst e; rw [h1] at hj; cases hj
theorem sar_last {o : Oper} {t : Tmp} (hmn : m ≠ n) (hg : o.guard = none) (hd : (ops[m]?).bind (·.dst) = some t) (hon : onB o.after m = true) (h : ∀ l a w, PA ops (GAr F F2 m n A) (JAr w0 m n A E) a0 l a w → A (a.eval (.tmp t)) w → (∀ e ∈ o.after, Region.binds .any e = true → l.getD e.on false = true) → ∃ w', (execOp a.eval o).run P w = .ok .skip w' ∧ E w') (hfn : F n undef) : Stp P ops (GAr F F2 m n A) (JAr w0 m n A E) a0 n o := by
  intro l a w hp hu ha
  have h2 := notDoneB hu
  have h1 : l.getD m false = true := onB_spec hon ha
  obtain ⟨om, hom, hdm⟩ := Option.bind_eq_some_iff.1 hd
  have hA := (hp.good m om t hom hdm h1).2.2 rfl h2
  obtain ⟨w', hr, hE⟩ := h l a w hp hA ha
  unfold opW
  rw [if_pos (wanted_none hg)]
  have e1 : (l.setIfInBounds n true).getD m false = true := by rw [set_oth hu hmn, h1]
  have e2 := set_own hu
  refine .inr (.inl ⟨w', hr, undef, rfl, ⟨fun e => ?_, fun _ => hE, fun _ => e1⟩, ⟨hfn, fun e => ?_, fun e => absurd e.symm hmn⟩, fun j d hd hj hG => ⟨hG.1, fun e => ?_, fun _ e => ?_⟩⟩)
  · rw [e1] at e; cases e
  · rw [e1] at e; cases e
  · rw [e1] at e; cases e
  · rw [e2] at e; cases e
end
end Go.Proofs.Ytnoklbnacfmpdac
