/- A region that draws its order, by what is told of each of its operations: with guards, with facts that may turn as operations are done, and inside a round of a loop over a function. -/
import Derived.Test.YtgkfhaahcedbpaaGI1
import Derived.Orders
import Derived.OrdersIn
import Derived.RangeFuncCalls
namespace Go.Proofs.Ytgkfhaahcedbpaa
open Go Go.RowKit
set_option linter.unusedVariables false
section
variable {P : Program} {ops : Array Oper} {Q : Exit → Act → World → Prop} {md : Region.Mode}
theorem rw_count {l : Array Bool} {i : Nat} (h : l.getD i true = false) : (l.setIfInBounds i true).toList.count false + 1 = l.toList.count false := by
  have hi : i < l.size := by
    rcases Nat.lt_or_ge i l.size with h' | h'
    · exact h'
    · simp [Array.getD, Nat.not_lt.2 h'] at h
  obtain ⟨xs⟩ := l
  simp at hi h ⊢
  have hx : xs[i] = false := by simpa [hi] using h
  have hc := List.count_set (a := true) (b := false) (l := xs) (i := i) hi
  have hp : 0 < xs.count false := List.count_pos_iff.2 (hx ▸ List.getElem_mem hi)
  rw [hc]; simp [hx]; omega
/-- One operation: it gives a value, or nothing, or calls a function that returns. -/
def opV (P : Program) (o : Oper) (K : Act → World → Prop) (a : Act) (w : World) : Prop :=
  (∃ v w', (execOp a.eval o).run P w = .ok (.value v) w' ∧ K (a.put o.dst v) w') ∨ (∃ w', (execOp a.eval o).run P w = .ok .skip w' ∧ K (a.put o.dst undef) w') ∨
  ∃ f args w', (execOp a.eval o).run P w = .ok (.enter f args) w' ∧ Calls P f args w' fun e w'' => ∃ v, e = .returned v ∧ K (a.put o.dst v) w''
theorem opV.wp {o : Oper} {a : Act} {w : World} {K : Act → World → Prop} (h : opV P o K a w) : o.wp P a w K Q := by
  unfold Oper.wp
  rcases h with ⟨v, w', hr, hk⟩ | ⟨w', hr, hk⟩ | ⟨f, args, w', hr, hc⟩
  · rw [hr]; exact hk
  · rw [hr]; exact hk
  · rw [hr]
    refine Calls.mono hc ?_
    rintro e w'' ⟨v, rfl, hk⟩
    exact hk
theorem opV.wpIn {r n : Nat} {o : Oper} {a : Act} {w : World} {K : Act → World → Prop} (hd : ∀ c, o.op ≠ .defer c) (h : opV P o K a w) : o.wpIn (Fence.wide.inRound r) n P a w K Q := by
  refine ⟨fun _ _ => trivial, ?_⟩
  rw [Oper.semAt_eq _ _ _ hd]
  rcases h with ⟨v, w', hr, hk⟩ | ⟨w', hr, hk⟩ | ⟨f, args, w', hr, hc⟩
  · rw [hr]; exact hk
  · rw [hr]; exact hk
  · rw [hr]
    refine ⟨fun e => (by cases e), CallsIn.inRound r (callsIn_wide.2 (Calls.mono hc ?_))⟩
    rintro e w'' ⟨v, rfl, hk⟩
    exact hk
theorem opV.mono {o : Oper} {a : Act} {w : World} {K K' : Act → World → Prop} (h : opV P o K a w) (hk : ∀ a w, K a w → K' a w) : opV P o K' a w := by
  rcases h with ⟨v, w', hr, h⟩ | ⟨w', hr, h⟩ | ⟨f, args, w', hr, hc⟩
  · exact .inl ⟨v, w', hr, hk _ _ h⟩
  · exact .inr (.inl ⟨w', hr, hk _ _ h⟩)
  · refine .inr (.inr ⟨f, args, w', hr, Calls.mono hc ?_⟩)
    rintro e w'' ⟨v, rfl, h⟩
    exact ⟨v, rfl, hk _ _ h⟩
/-- One operation, wanted or not. -/
def opW (P : Program) (ops : Array Oper) (o : Oper) (K : Act → World → Prop) (a : Act) (w : World) : Prop :=
  if Region.wanted o (yielded ops a.tmps) = true then opV P o K a w else K (a.put o.dst undef) w
theorem opW.mono {o : Oper} {a : Act} {w : World} {K K' : Act → World → Prop} (h : opW P ops o K a w) (hk : ∀ a w, K a w → K' a w) : opW P ops o K' a w := by
  unfold opW at *
  split
  · rename_i hw
    rw [if_pos hw] at h
    exact h.mono hk
  · rename_i hw
    rw [if_neg hw] at h
    exact hk _ _ h
theorem rw_any (I : Array Bool → Act → World → Prop)
    (hs : ∀ l a w, I l a w → ∀ i o, ops[i]? = some o → i ∈ Region.ready md ops l → opW P ops o (I (l.setIfInBounds i true)) a w)
    (hf : ∀ l a w, I l a w → Region.ready md ops l = [] → Q .normal a w) :
    ∀ (fuel : Nat) (l : Array Bool) (a : Act) (w : World), l.toList.count false ≤ fuel → I l a w → wpAny P md ops Q fuel l a w := by
  intro fuel
  induction fuel with
  | zero =>
    intro l a w hc hI
    have hr : Region.ready md ops l = [] := by
      rw [List.eq_nil_iff_forall_not_mem]
      intro i hi
      have := rw_count (mem_ready.1 hi).1
      omega
    exact ⟨hr, hf l a w hI hr⟩
  | succ fuel ih =>
    intro l a w hc hI
    refine ⟨hf l a w hI, fun i hi => ?_⟩
    obtain ⟨hun, o, ho, _⟩ := mem_ready.1 hi
    have h1 := hs l a w hI i o ho hi
    refine wpOp_mono (K := I (l.setIfInBounds i true)) (fun a' w' h => ih _ _ _ ?_ h) ?_
    · have := rw_count hun
      omega
    · unfold wpOp
      unfold opW at h1
      simp only [ho]
      split
      · rename_i hw
        rw [if_pos hw] at h1
        exact .inl h1.wp
      · rename_i hw
        rw [if_neg hw] at h1
        exact h1
theorem rw_anyIn {r n : Nat} (hd : ∀ (i : Nat) o, ops[i]? = some o → ∀ c, o.op ≠ .defer c) (I : Array Bool → Act → World → Prop)
    (hs : ∀ l a w, I l a w → ∀ i o, ops[i]? = some o → i ∈ Region.ready md ops l → opW P ops o (I (l.setIfInBounds i true)) a w)
    (hf : ∀ l a w, I l a w → Region.ready md ops l = [] → Q .normal a w) :
    ∀ (fuel : Nat) (l : Array Bool) (a : Act) (w : World), l.toList.count false ≤ fuel → I l a w → wpAnyIn (Fence.wide.inRound r) n P md ops Q fuel l a w := by
  intro fuel
  induction fuel with
  | zero =>
    intro l a w hc hI
    have hr : Region.ready md ops l = [] := by
      rw [List.eq_nil_iff_forall_not_mem]
      intro i hi
      have := rw_count (mem_ready.1 hi).1
      omega
    exact ⟨hr, hf l a w hI hr⟩
  | succ fuel ih =>
    intro l a w hc hI
    refine ⟨hf l a w hI, fun i hi => ?_⟩
    obtain ⟨hun, o, ho, _⟩ := mem_ready.1 hi
    have h1 := hs l a w hI i o ho hi
    refine wpOpIn_mono (K := I (l.setIfInBounds i true)) (fun a' w' h => ih _ _ _ ?_ h) ?_
    · have := rw_count hun
      omega
    · unfold wpOpIn
      unfold opW at h1
      simp only [ho]
      split
      · rename_i hw
        rw [if_pos hw] at h1
        exact h1.wpIn (hd i o ho)
      · rename_i hw
        rw [if_neg hw] at h1
        exact ⟨fun _ _ => trivial, h1⟩
/-- Where a region stands: which operations are done, what is known of their values and of the world. -/
structure PA (ops : Array Oper) (G : Array Bool → Nat → World → Value → Prop) (J : Array Bool → World → Prop) (a0 : Act) (l : Array Bool) (a : Act) (w : World) : Prop where
  sz : l.size = ops.size
  nt : a.tmps.size = a0.tmps.size
  df : a.defers = a0.defers
  down : ∀ (i : Nat) o, ops[i]? = some o → l.getD i false = true → ∀ e ∈ o.after, Region.binds .any e = true → l.getD e.on false = true
  fresh : ∀ (i : Nat) o d, ops[i]? = some o → o.dst = some d → l.getD i false = false → a.eval (.tmp d) = a0.eval (.tmp d)
  good : ∀ (i : Nat) o d, ops[i]? = some o → o.dst = some d → l.getD i false = true → G l i w (a.eval (.tmp d))
  keep : ∀ t, (∀ (i : Nat) o, ops[i]? = some o → o.dst ≠ some t) → a.eval (.tmp t) = a0.eval (.tmp t)
  j : J l w
/-- What is to be shown of one operation. -/
def Stp (P : Program) (ops : Array Oper) (G : Array Bool → Nat → World → Value → Prop) (J : Array Bool → World → Prop) (a0 : Act) (k : Nat) (o : Oper) : Prop :=
  ∀ l a w, PA ops G J a0 l a w → l.getD k true = false → (∀ e ∈ o.after, Region.binds .any e = true → l.getD e.on false = true) →
    opW P ops o (fun a' w' => ∃ v, a' = a.put o.dst v ∧ J (l.setIfInBounds k true) w' ∧ G (l.setIfInBounds k true) k w' v ∧ ∀ j d, (ops[j]?).bind (·.dst) = some d → l.getD j false = true → G l j w (a.eval (.tmp d)) → G (l.setIfInBounds k true) j w' (a.eval (.tmp d))) a w
def Stps (P : Program) (ops : Array Oper) (G : Array Bool → Nat → World → Value → Prop) (J : Array Bool → World → Prop) (a0 : Act) : Nat → List Oper → Prop
  | _, [] => True
  | k, o :: os => Stp P ops G J a0 k o ∧ Stps P ops G J a0 (k + 1) os
theorem Stps.at {G : Array Bool → Nat → World → Value → Prop} {J : Array Bool → World → Prop} {a0 : Act} : ∀ (os : List Oper) (k i : Nat) (o : Oper), Stps P ops G J a0 k os → os[i]? = some o → Stp P ops G J a0 (k + i) o
  | [], _, _, _, _, h => by simp at h
  | o' :: os, k, 0, o, hs, h => by simp at h; subst h; exact hs.1
  | o' :: os, k, i + 1, o, hs, h => by
    have := Stps.at os (k + 1) i o hs.2 (by simpa using h)
    rwa [Nat.add_right_comm k 1 i, Nat.add_assoc] at this
/-- The form of such a region: edges back, each result in a slot of its own, nothing deferred. -/
def formW (nt : Nat) (ops : Array Oper) : Bool :=
  (ops.toList.filterMap (·.dst)).all (fun d => decide (d < nt)) && decide ((ops.toList.filterMap (·.dst)).Nodup) &&
    ops.toList.zipIdx.all (fun p => p.1.after.all fun e => !Region.binds .any e || decide (e.on < p.2)) && ops.toList.all (fun o => match o.op with | .defer _ => false | _ => true)
theorem dst_one : ∀ (os : List Oper), (os.filterMap (·.dst)).Nodup → ∀ (i j : Nat) (oi oj : Oper) (d : Tmp), os[i]? = some oi → os[j]? = some oj → oi.dst = some d → oj.dst = some d → i = j
  | [], _, i, _, _, _, _, h, _, _, _ => by simp at h
  | o :: os, hn, i, j, oi, oj, d, hi, hj, hdi, hdj => by
    have mem : ∀ (k : Nat) (ok : Oper), os[k]? = some ok → ok.dst = some d → d ∈ os.filterMap (·.dst) := fun k ok hk hd =>
      List.mem_filterMap.2 ⟨ok, List.mem_of_getElem? hk, hd⟩
    have hn' : (os.filterMap (·.dst)).Nodup := by
      rw [List.filterMap_cons] at hn
      split at hn
      · exact hn
      · exact (List.nodup_cons.1 hn).2
    cases i with
    | zero =>
      simp at hi; subst hi
      cases j with
      | zero => rfl
      | succ j =>
        simp at hj
        rw [List.filterMap_cons, hdi] at hn
        exact absurd (mem j oj hj hdj) (List.nodup_cons.1 hn).1
    | succ i =>
      simp at hi
      cases j with
      | zero =>
        simp at hj; subst hj
        rw [List.filterMap_cons, hdj] at hn
        exact absurd (mem i oi hi hdi) (List.nodup_cons.1 hn).1
      | succ j =>
        simp at hj
        rw [dst_one os hn' i j oi oj d hi hj hdi hdj]
theorem put_same {a : Act} {d : Tmp} {v : Value} (h : d < a.tmps.size) : (a.put (some d) v).eval (.tmp d) = v := by
  simp [Act.eval, Act.put, Array.getD, h]
theorem put_other {a : Act} {x : Option Tmp} {t : Tmp} {v : Value} (h : x ≠ some t) : (a.put x v).eval (.tmp t) = a.eval (.tmp t) :=
  Act.eval_put fun d hd e => h (by injection e with e; rw [hd, e])
theorem put_size (a : Act) (x : Option Tmp) (v : Value) : (a.put x v).tmps.size = a.tmps.size := by cases x <;> simp [Act.put]
theorem put_defers (a : Act) (x : Option Tmp) (v : Value) : (a.put x v).defers = a.defers := by cases x <;> rfl
theorem set_ite {l : Array Bool} {i : Nat} (hi : i < l.size) (j : Nat) : (l.setIfInBounds i true).getD j false = (if j = i then true else l.getD j false) := by
  by_cases h : j = i
  · subst h; simp [Array.getD, hi]
  · rw [if_neg h]
    exact getD_set_ne false (fun e => h e.symm)
section
variable {G : Array Bool → Nat → World → Value → Prop} {J : Array Bool → World → Prop} {a0 : Act}
theorem formW_parts {nt : Nat} (h : formW nt ops = true) : (∀ (i : Nat) o d, ops[i]? = some o → o.dst = some d → d < nt) ∧ (∀ (i j : Nat) oi oj d, ops[i]? = some oi → ops[j]? = some oj → oi.dst = some d → oj.dst = some d → i = j) ∧ (∀ (i : Nat) o, ops[i]? = some o → ∀ e ∈ o.after, Region.binds .any e = true → e.on < i) ∧ (∀ (i : Nat) o, ops[i]? = some o → ∀ c, o.op ≠ .defer c) := by
  simp only [formW, Bool.and_eq_true, decide_eq_true_eq, List.all_eq_true, Array.all_eq_true] at h
  obtain ⟨⟨⟨hb, hu⟩, hback⟩, hdf⟩ := h
  refine ⟨fun i o d ho hd => hb d (List.mem_filterMap.2 ⟨o, List.mem_of_getElem? (by simpa using ho), hd⟩), fun i j oi oj d hi hj' h1 h2 => dst_one ops.toList hu i j oi oj d (by simpa using hi) (by simpa using hj') h1 h2, fun i o ho e he hbi => ?_, fun i o ho c hc => ?_⟩
  · have hm' : (o, i) ∈ ops.toList.zipIdx := by
      rw [List.mem_zipIdx_iff_getElem?]; simpa using ho
    have := hback (o, i) hm'
    obtain ⟨k, hk, rfl⟩ := Array.mem_iff_getElem.1 he
    have h2 := this k hk
    simp only [Bool.or_eq_true, Bool.not_eq_true', decide_eq_true_eq] at h2
    rcases h2 with h2 | h2
    · rw [hbi] at h2; cases h2
    · exact h2
  · have := hdf o (List.mem_of_getElem? (l := ops.toList) (i := i) (by simpa using ho))
    rw [hc] at this
    cases this
theorem stps_one {nt : Nat} (hnt : a0.tmps.size = nt) (hform : formW nt ops = true) (hs : Stps P ops G J a0 0 ops.toList) : ∀ l a w, PA ops G J a0 l a w → ∀ i o, ops[i]? = some o → i ∈ Region.ready .any ops l → opW P ops o (PA ops G J a0 (l.setIfInBounds i true)) a w := by
  obtain ⟨hbound, huniq, _, _⟩ := formW_parts hform
  subst hnt
  intro l a w hp i o ho hi
  obtain ⟨hun, o', ho', hall⟩ := mem_ready.1 hi
  obtain rfl : o' = o := by rw [ho] at ho'; cases ho'; rfl
  have hil : i < l.size := by
    rcases Nat.lt_or_ge i l.size with h' | h'
    · exact h'
    · simp [Array.getD, Nat.not_lt.2 h'] at hun
  have hst := Stps.at ops.toList 0 i o' hs (by simpa using ho)
  rw [Nat.zero_add] at hst
  refine (hst l a w hp hun hall).mono ?_
  rintro a' w' ⟨v, rfl, hj', hgv, hmono⟩
  refine ⟨by simpa using hp.sz, (put_size a o'.dst v).trans hp.nt, (put_defers a o'.dst v).trans hp.df, ?_, ?_, ?_, ?_, hj'⟩
  · intro k ok hk hlk e he hbe
    rw [set_ite hil] at hlk ⊢
    by_cases hke : e.on = i
    · rw [if_pos hke]
    · rw [if_neg hke]
      by_cases hki : k = i
      · subst hki; rw [ho] at hk; cases hk; exact hall e he hbe
      · rw [if_neg hki] at hlk; exact hp.down k ok hk hlk e he hbe
  · intro k ok d hk hd hlk
    rw [set_ite hil] at hlk
    by_cases hki : k = i
    · rw [if_pos hki] at hlk; cases hlk
    · rw [if_neg hki] at hlk
      rw [put_other (fun e => hki (huniq k i ok o' d hk ho hd e))]
      exact hp.fresh k ok d hk hd hlk
  · intro k ok d hk hd hlk
    rw [set_ite hil] at hlk
    by_cases hki : k = i
    · subst hki
      rw [ho] at hk; cases hk
      rw [hd, put_same (by rw [hp.nt]; exact hbound k o' d ho hd)]
      exact hgv
    · rw [if_neg hki] at hlk
      rw [put_other (fun e => hki (huniq k i ok o' d hk ho hd e))]
      exact hmono k d (by rw [hk]; exact hd) hlk (hp.good k ok d hk hd hlk)
  · intro t ht
    rw [put_other (ht i o' ho)]
    exact hp.keep t ht
theorem stps_end {nt : Nat} (hform : formW nt ops = true) {l : Array Bool} {a : Act} {w : World} (hp : PA ops G J a0 l a w) (hr : Region.ready .any ops l = []) : ∀ i, i < ops.size → l.getD i false = true := by
  obtain ⟨_, _, hedge, _⟩ := formW_parts hform
  intro i
  induction i using Nat.strongRecOn with
  | ind i ih =>
    intro hi
    cases hl : l.getD i false with
    | true => rfl
    | false =>
      exfalso
      have hil : i < l.size := by rw [hp.sz]; exact hi
      have hmem : i ∈ Region.ready .any ops l := by
        refine mem_ready.2 ⟨by simpa [Array.getD, hil] using hl, ops[i], by simp [hi], fun e he hbe => ih e.on (hedge i _ (by simp [hi]) e he hbe) ?_⟩
        exact Nat.lt_trans (hedge i _ (by simp [hi]) e he hbe) hi
      rw [hr] at hmem; cases hmem
theorem pa_start {w : World} (hj : J (Array.replicate ops.size false) w) : PA ops G J a0 (Array.replicate ops.size false) a0 w :=
  ⟨by simp, rfl, rfl, fun i o ho hl => by simp [Array.getD] at hl, fun _ _ _ _ _ _ => rfl, fun i o d ho hd hl => by simp [Array.getD] at hl, fun _ _ => rfl, hj⟩
theorem wp_plan {id : Nat} {w0 : World} (G : Array Bool → Nat → World → Value → Prop) (J : Array Bool → World → Prop) (hm : P.follows .mixedOrders = true) (nt : Nat) (hnt : a0.tmps.size = nt) (hform : formW nt ops = true)
    (hj : J (Array.replicate ops.size false) { w0 with drawn := w0.drawn + 1 }) (hs : Stps P ops G J a0 0 ops.toList)
    (hf : ∀ l a w, PA ops G J a0 l a w → (∀ i, i < ops.size → l.getD i false = true) → Q .normal a w) :
    (Code.region id ops true).wp P Q a0 w0 :=
  wp_region_any hm (rw_any (PA ops G J a0) (stps_one hnt hform hs) (fun l a w hp hr => hf l a w hp (stps_end hform hp hr)) _ _ _ _ (by simp) (pa_start hj))
theorem wpIn_plan {id r n : Nat} {w0 : World} (G : Array Bool → Nat → World → Value → Prop) (J : Array Bool → World → Prop) (hm : P.follows .mixedOrders = true) (nt : Nat) (hnt : a0.tmps.size = nt) (hform : formW nt ops = true)
    (hj : J (Array.replicate ops.size false) { w0 with drawn := w0.drawn + 1 }) (hs : Stps P ops G J a0 0 ops.toList)
    (hf : ∀ l a w, PA ops G J a0 l a w → (∀ i, i < ops.size → l.getD i false = true) → Q .normal a w) :
    (Code.region id ops true).wpIn (Fence.wide.inRound r) n P Q a0 w0 :=
  wpIn_region_any hm (rw_anyIn (formW_parts hform).2.2.2 (PA ops G J a0) (stps_one hnt hform hs) (fun l a w hp hr => hf l a w hp (stps_end hform hp hr)) _ _ _ _ (by simp) (pa_start hj))
end
end
end Go.Proofs.Ytgkfhaahcedbpaa
