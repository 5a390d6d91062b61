/- A region that draws its order, by what is told of each of its operations. -/
import Derived.Orders
namespace Go.Proofs.YtkmpjoiefcjbnaaDoor
open Go
section
variable {P : Program} {ops : Array Oper} {Q : Exit → Act → World → Prop} {md : Region.Mode}
theorem count_set_false {l : Array Bool} {i : Nat} (h : l.getD i true = false) : (l.setIfInBounds i true).toList.count false + 1 = l.toList.count false := by
  have hi : i < l.size := by
    rcases Nat.lt_or_ge i l.size with h' | h'
    · exact h'
    · simp [Array.getD, Nat.not_lt.2 h'] at h
  obtain ⟨xs⟩ := l
  simp at hi h ⊢
  have hx : xs[i] = false := by simpa [hi] using h
  have hc := List.count_set (a := true) (b := false) (l := xs) (i := i) hi
  have hp : 0 < xs.count false := List.count_pos_iff.2 (hx ▸ List.getElem_mem hi)
  rw [hc]; simp [hx]; omega
theorem wpAny_inv (I : Array Bool → Act → World → Prop)
    (hs : ∀ l a w, I l a w → ∀ i, i ∈ Region.ready md ops l → wpOp P ops Q i (I (l.setIfInBounds i true)) a w)
    (hf : ∀ l a w, I l a w → Region.ready md ops l = [] → Q .normal a w) :
    ∀ (fuel : Nat) (l : Array Bool) (a : Act) (w : World), l.toList.count false ≤ fuel → I l a w → wpAny P md ops Q fuel l a w := by
  intro fuel
  induction fuel with
  | zero =>
    intro l a w hc hI
    have hr : Region.ready md ops l = [] := by
      rw [List.eq_nil_iff_forall_not_mem]
      intro i hi
      have := count_set_false (mem_ready.1 hi).1
      omega
    exact ⟨hr, hf l a w hI hr⟩
  | succ fuel ih =>
    intro l a w hc hI
    refine ⟨hf l a w hI, fun i hi => wpOp_mono (fun a' w' h => ih _ _ _ ?_ h) (hs l a w hI i hi)⟩
    have := count_set_false (mem_ready.1 hi).1
    omega
/-- Where a region stands: which operations are done, what is known of their values and of the world. -/
structure PlanAt (ops : Array Oper) (G : Nat → World → Value → Prop) (J : Array Bool → World → Prop) (a0 : Act) (l : Array Bool) (a : Act) (w : World) : Prop where
  sz : l.size = ops.size
  nt : a.tmps.size = a0.tmps.size
  df : a.defers = a0.defers
  down : ∀ i o, ops[i]? = some o → l.getD i false = true → ∀ e ∈ o.after, Region.binds .any e = true → l.getD e.on false = true
  good : ∀ i o d, ops[i]? = some o → o.dst = some d → l.getD i false = true → G i w (a.eval (.tmp d))
  keep : ∀ t, (∀ (i : Nat) o, ops[i]? = some o → o.dst ≠ some t) → a.eval (.tmp t) = a0.eval (.tmp t)
  j : J l w
/-- What is to be shown of one operation. -/
def PlanStep (P : Program) (ops : Array Oper) (Q : Exit → Act → World → Prop) (G : Nat → World → Value → Prop) (J : Array Bool → World → Prop) (a0 : Act) (k : Nat) (o : Oper) : Prop :=
  ∀ l a w, PlanAt ops G J a0 l a w → l.getD k true = false → (∀ e ∈ o.after, Region.binds .any e = true → l.getD e.on false = true) →
    o.wp P a w (fun a' w' => ∃ v, a' = a.put o.dst v ∧ J (l.setIfInBounds k true) w' ∧ G k w' v ∧ ∀ j u, l.getD j false = true → G j w u → G j w' u) Q
def PlanSteps (P : Program) (ops : Array Oper) (Q : Exit → Act → World → Prop) (G : Nat → World → Value → Prop) (J : Array Bool → World → Prop) (a0 : Act) : Nat → List Oper → Prop
  | _, [] => True
  | k, o :: os => PlanStep P ops Q G J a0 k o ∧ PlanSteps P ops Q G J a0 (k + 1) os
theorem PlanSteps.at {G : Nat → World → Value → Prop} {J : Array Bool → World → Prop} {a0 : Act} : ∀ (os : List Oper) (k i : Nat) (o : Oper), PlanSteps P ops Q G J a0 k os → os[i]? = some o → PlanStep P ops Q G J a0 (k + i) o
  | [], _, _, _, _, h => by simp at h
  | o' :: os, k, 0, o, hs, h => by simp at h; subst h; exact hs.1
  | o' :: os, k, i + 1, o, hs, h => by
    have := PlanSteps.at os (k + 1) i o hs.2 (by simpa using h)
    rwa [Nat.add_right_comm k 1 i, Nat.add_assoc] at this
/-- The form of a region that goes by a plan: no guards, edges back, each result in a temporary of its own. -/
def planForm (nt : Nat) (ops : Array Oper) : Bool :=
  ops.all (fun o => o.guard.isNone) && (ops.toList.filterMap (·.dst)).all (fun d => decide (d < nt)) && decide ((ops.toList.filterMap (·.dst)).Nodup) &&
    ops.toList.zipIdx.all (fun p => p.1.after.all fun e => !Region.binds .any e || decide (e.on < p.2))
theorem dst_unique : ∀ (os : List Oper), (os.filterMap (·.dst)).Nodup → ∀ (i j : Nat) (oi oj : Oper) (d : Tmp), os[i]? = some oi → os[j]? = some oj → oi.dst = some d → oj.dst = some d → i = j
  | [], _, i, _, _, _, _, h, _, _, _ => by simp at h
  | o :: os, hn, i, j, oi, oj, d, hi, hj, hdi, hdj => by
    have mem : ∀ (k : Nat) (ok : Oper), os[k]? = some ok → ok.dst = some d → d ∈ os.filterMap (·.dst) := fun k ok hk hd =>
      List.mem_filterMap.2 ⟨ok, List.mem_of_getElem? hk, hd⟩
    have hn' : (os.filterMap (·.dst)).Nodup := by
      rw [List.filterMap_cons] at hn
      split at hn
      · exact hn
      · exact (List.nodup_cons.1 hn).2
    cases i with
    | zero =>
      simp at hi; subst hi
      cases j with
      | zero => rfl
      | succ j =>
        simp at hj
        rw [List.filterMap_cons, hdi] at hn
        exact absurd (mem j oj hj hdj) (List.nodup_cons.1 hn).1
    | succ i =>
      simp at hi
      cases j with
      | zero =>
        simp at hj; subst hj
        rw [List.filterMap_cons, hdj] at hn
        exact absurd (mem i oi hi hdi) (List.nodup_cons.1 hn).1
      | succ j =>
        simp at hj
        rw [dst_unique os hn' i j oi oj d hi hj hdi hdj]
theorem eval_put_same {a : Act} {d : Tmp} {v : Value} (h : d < a.tmps.size) : (a.put (some d) v).eval (.tmp d) = v := by
  simp [Act.eval, Act.put, Array.getD, h]
theorem eval_put_other {a : Act} {x : Option Tmp} {t : Tmp} {v : Value} (h : x ≠ some t) : (a.put x v).eval (.tmp t) = a.eval (.tmp t) :=
  Act.eval_put fun d hd e => h (by injection e with e; rw [hd, e])
theorem put_tmps_size (a : Act) (x : Option Tmp) (v : Value) : (a.put x v).tmps.size = a.tmps.size := by cases x <;> simp [Act.put]
theorem put_defers_same (a : Act) (x : Option Tmp) (v : Value) : (a.put x v).defers = a.defers := by cases x <;> rfl
theorem getD_set_ite {l : Array Bool} {i : Nat} (hi : i < l.size) (j : Nat) : (l.setIfInBounds i true).getD j false = (if j = i then true else l.getD j false) := by
  by_cases h : j = i
  · subst h; simp [Array.getD, hi]
  · rw [if_neg h]
    exact getD_set_ne false (fun e => h e.symm)
theorem wp_region_plan {id : Nat} {a0 : Act} {w0 : World} (G : Nat → World → Value → Prop) (J : Array Bool → World → Prop) (hm : P.follows .mixedOrders = true) (nt : Nat) (hnt : a0.tmps.size = nt) (hform : planForm nt ops = true)
    (hj : J (Array.replicate ops.size false) { w0 with drawn := w0.drawn + 1 }) (hs : PlanSteps P ops Q G J a0 0 ops.toList)
    (hf : ∀ l a w, PlanAt ops G J a0 l a w → (∀ i, i < ops.size → l.getD i false = true) → Q .normal a w) :
    (Code.region id ops true).wp P Q a0 w0 := by
  subst hnt
  simp only [planForm, Bool.and_eq_true, decide_eq_true_eq, List.all_eq_true, Array.all_eq_true] at hform
  obtain ⟨⟨⟨hg, hb⟩, hu⟩, hback⟩ := hform
  have hguard : ∀ (i : Nat) o, ops[i]? = some o → o.guard = none := fun i o ho => by
    obtain ⟨h1, h2⟩ := Array.getElem?_eq_some_iff.1 ho
    have := hg i h1
    rw [h2] at this
    simpa using this
  have hbound : ∀ (i : Nat) o d, ops[i]? = some o → o.dst = some d → d < a0.tmps.size := fun i o d ho hd =>
    hb d (List.mem_filterMap.2 ⟨o, List.mem_of_getElem? (by simpa using ho), hd⟩)
  have huniq : ∀ (i j : Nat) oi oj d, ops[i]? = some oi → ops[j]? = some oj → oi.dst = some d → oj.dst = some d → i = j := fun i j oi oj d hi hj' h1 h2 =>
    dst_unique ops.toList hu i j oi oj d (by simpa using hi) (by simpa using hj') h1 h2
  have hedge : ∀ (i : Nat) o, ops[i]? = some o → ∀ e ∈ o.after, Region.binds .any e = true → e.on < i := fun i o ho e he hbi => by
    have hm' : (o, i) ∈ ops.toList.zipIdx := by
      rw [List.mem_zipIdx_iff_getElem?]; simpa using ho
    have := hback (o, i) hm'
    obtain ⟨k, hk, rfl⟩ := Array.mem_iff_getElem.1 he
    have h2 := this k hk
    simp only [Bool.or_eq_true, Bool.not_eq_true', decide_eq_true_eq] at h2
    rcases h2 with h2 | h2
    · rw [hbi] at h2; cases h2
    · exact h2
  refine wp_region_any hm (wpAny_inv (PlanAt ops G J a0) ?_ ?_ _ _ _ _ ?_ ?_)
  · intro l a w hp i hi
    obtain ⟨hun, o, ho, hall⟩ := mem_ready.1 hi
    have hil : i < l.size := by
      rcases Nat.lt_or_ge i l.size with h' | h'
      · exact h'
      · simp [Array.getD, Nat.not_lt.2 h'] at hun
    have hall' : ∀ e ∈ o.after, Region.binds .any e = true → l.getD e.on false = true := hall
    have hst := PlanSteps.at ops.toList 0 i o hs (by simpa using ho)
    rw [Nat.zero_add] at hst
    have h1 := hst l a w hp hun hall'
    unfold wpOp
    have hw : Region.wanted o (yielded ops a.tmps) = true := by simp [Region.wanted, hguard i o ho]
    simp only [ho, hw, if_true]
    refine .inl (Oper.wp_mono ?_ h1)
    rintro a' w' ⟨v, rfl, hj', hgv, hmono⟩
    refine ⟨by simpa using hp.sz, (put_tmps_size a o.dst v).trans hp.nt, (put_defers_same a o.dst v).trans hp.df, ?_, ?_, ?_, hj'⟩
    · intro k ok hk hlk e he hbe
      rw [getD_set_ite hil] at hlk ⊢
      by_cases hke : e.on = i
      · rw [if_pos hke]
      · rw [if_neg hke]
        by_cases hki : k = i
        · subst hki; rw [ho] at hk; cases hk; exact hall' e he hbe
        · rw [if_neg hki] at hlk; exact hp.down k ok hk hlk e he hbe
    · intro k ok d hk hd hlk
      rw [getD_set_ite hil] at hlk
      by_cases hki : k = i
      · subst hki
        rw [ho] at hk; cases hk
        rw [hd, eval_put_same (by rw [hp.nt]; exact hbound k o d ho hd)]
        exact hgv
      · rw [if_neg hki] at hlk
        rw [eval_put_other (fun e => hki (huniq k i ok o d hk ho hd e))]
        exact hmono k _ hlk (hp.good k ok d hk hd hlk)
    · intro t ht
      rw [eval_put_other (ht i o ho)]
      exact hp.keep t ht
  · intro l a w hp hr
    refine hf l a w hp ?_
    intro i
    induction i using Nat.strongRecOn with
    | ind i ih =>
      intro hi
      cases hl : l.getD i false with
      | true => rfl
      | false =>
        exfalso
        have hil : i < l.size := by rw [hp.sz]; exact hi
        have hmem : i ∈ Region.ready .any ops l := by
          refine mem_ready.2 ⟨by simpa [Array.getD, hil] using hl, ops[i], by simp [hi], fun e he hbe => ih e.on (hedge i _ (by simp [hi]) e he hbe) ?_⟩
          exact Nat.lt_trans (hedge i _ (by simp [hi]) e he hbe) hi
        rw [hr] at hmem; cases hmem
  · simp
  · refine ⟨by simp, rfl, rfl, ?_, ?_, fun _ _ => rfl, hj⟩
    · intro i o ho hl
      simp [Array.getD] at hl
    · intro i o d ho hd hl
      simp [Array.getD] at hl
end
end Go.Proofs.YtkmpjoiefcjbnaaDoor
