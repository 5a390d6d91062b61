/- A kid is appended, in whatever order: by a plan. -/
import Derived.Test.YtkceiabgpcakkaaRQ
import Derived.Test.YtkceiabgpcakkaaSC1
namespace Go.Proofs.Ytkceiabgpcakkaa
open Go.RowKit Gs
set_option linter.unusedVariables false
set_option maxRecDepth 100000
/-- What is known of an operation's value. -/
def GK (Z : Nat) (kv : Value) (ws : List Int) (d : Int) (avs : List (Option Value)) (k : Nat) (w : World) (v : Value) : Prop :=
  match avs[k]? with
  | some (some x) => v = x
  | _ => (k = 24 → ∃ M, v = .slice (some ⟨M, 0, none⟩) 1 1 ∧ M < w.heap.size ∧ Z ≤ M ∧ kv.ownBlock ≠ some M ∧ ∀ j u, (kzC d)[j]? = some u → w.cell? ⟨M, j, none⟩ = some u) ∧ (k = 25 → OZ Z v (ws ++ [d]) w)
/-- What is known of the world. -/
structure JK (wr : World) (g : Nat) (kv : Value) (ws : List Int) (d : Int) (l : Array Bool) (w : World) : Prop where
  size : g + 1 ≤ w.heap.size
  still : l.getD 27 false = false → Below (g + 1) wr w
  own : l.getD 25 false = false → OZ (g + 1) kv ws w
  done : l.getD 27 false = true → ∃ V v', OZ (g + 1) v' (ws ++ [d]) V ∧ Below (g + 1) wr V ∧ w = V.setCell ⟨g, 5, none⟩ v'
section
variable {ops : Array Oper} {Q : Exit → Act → World → Prop} {avs : List (Option Value)} {wr : World} {g : Nat} {kv : Value} {ws : List Int} {d : Int} {a0 : Act}
abbrev PK (ops : Array Oper) (avs : List (Option Value)) (wr : World) (g : Nat) (kv : Value) (ws : List Int) (d : Int) (a0 : Act) (l : Array Bool) (a : Act) (w : World) : Prop :=
  PlanAt ops (GK (g + 1) kv ws d avs) (JK wr g kv ws d) a0 l a w
def onB (af : Array Edge) (j : Nat) : Bool := af.toList.any fun e => Region.binds .any e && decide (e.on = j)
theorem onB_spec {af : Array Edge} {j : Nat} (h : onB af j = true) {l : Array Bool} (ha : ∀ e ∈ af, Region.binds .any e = true → l.getD e.on false = true) : l.getD j false = true := by
  unfold onB at h
  rw [List.any_eq_true] at h
  obtain ⟨e, hm, he⟩ := h
  rw [Bool.and_eq_true, decide_eq_true_eq] at he
  have := ha e (by simpa using hm) he.1
  rwa [he.2] at this
/-- An operation that comes ahead of another one is done where that is. -/
theorem PK.ahead {l : Array Bool} {a : Act} {w : World} (hp : PK ops avs wr g kv ws d a0 l a w) {i j : Nat} (hi : (ops[i]?).any (fun o => onB o.after j) = true) (hj : l.getD j false = false) : l.getD i false = false := by
  cases h : l.getD i false with
  | false => rfl
  | true =>
    exfalso
    cases ho : ops[i]? with
    | none => rw [ho] at hi; simp at hi
    | some o =>
      rw [ho] at hi
      have := onB_spec (l := l) (by simpa using hi) (hp.down i o ho h)
      rw [this] at hj; cases hj
theorem ev_form (a : Act) (t : Tmp) : a.tmps[t]?.getD undef = a.eval (.tmp t) := by simp [Act.eval]
theorem kn_tmp {l : Array Bool} {a : Act} {w : World} {af : Array Edge} (hp : PK ops avs wr g kv ws d a0 l a w) (ha : ∀ e ∈ af, Region.binds .any e = true → l.getD e.on false = true) (t : Tmp) (j : Nat) {v : Value} (hj : (ops[j]?).bind (·.dst) = some t) (he : onB af j = true) (hv : avs[j]? = some (some v)) : a.tmps[t]?.getD undef = v := by
  rw [ev_form]
  obtain ⟨o, ho, hd⟩ := Option.bind_eq_some_iff.1 hj
  have h := hp.good j o t ho hd (onB_spec he ha)
  simpa [GK, hv] using h
theorem kn_old {l : Array Bool} {a : Act} {w : World} (hp : PK ops avs wr g kv ws d a0 l a w) (t : Tmp) {v : Value} (hd : ops.all (fun o => o.dst != some t) = true) (hv : a0.eval (.tmp t) = v) : a.tmps[t]?.getD undef = v := by
  rw [ev_form]
  rw [hp.keep t (fun i o ho e => ?_)]
  · exact hv
  · rw [Array.all_eq_true] at hd
    obtain ⟨h1, h2⟩ := Array.getElem?_eq_some_iff.1 ho
    have := hd i h1
    rw [h2, e] at this
    simp at this
theorem getD_tf {l : Array Bool} {k : Nat} (h : l.getD k true = false) : l.getD k false = false := by
  rcases Nat.lt_or_ge k l.size with h' | h'
  · simpa [Array.getD, h'] using h
  · simp [Array.getD, Nat.not_lt.2 h']
theorem set_ne {l : Array Bool} {k j : Nat} (h : k ≠ j) : (l.setIfInBounds k true).getD j false = l.getD j false := getD_set_ne false h
/-- An operation that reads. -/
theorem pk_val {k : Nat} {o : Oper} {x : Value} (hx : avs[k]? = some (some x)) (h27 : (ops[27]?).any (fun o => onB o.after k) = true) (hk25 : k ≠ 25) (hk27 : k ≠ 27)
    (hrun : ∀ l a w, PK ops avs wr g kv ws d a0 l a w → (∀ e ∈ o.after, Region.binds .any e = true → l.getD e.on false = true) → Below (g + 1) wr w → (execOp a.eval o).run Try.prog w = .ok (.value x) w) :
    PlanStep Try.prog ops Q (GK (g + 1) kv ws d avs) (JK wr g kv ws d) a0 k o := by
  intro l a w hp hu ha
  unfold Oper.wp
  have hb := hp.j.still (PK.ahead hp h27 (getD_tf hu))
  rw [hrun l a w hp ha hb]
  refine ⟨x, rfl, ⟨hp.j.size, fun h => hb, fun h => ?_, fun h => ?_⟩, by simp [GK, hx], fun j u _ h => h⟩
  · rw [set_ne hk25] at h; exact hp.j.own h
  · rw [set_ne hk27] at h; exact hp.j.done h
theorem GK.later {Z : Nat} {k : Nat} {w w' : World} {v : Value} (hb : Below w.heap.size w w') (h : GK Z kv ws d avs k w v) : GK Z kv ws d avs k w' v := by
  unfold GK at *
  split at h
  · exact h
  · refine ⟨fun e => ?_, fun e => (h.2 e).later hb⟩
    obtain ⟨M, h1, h2, h3, h4, h5⟩ := h.1 e
    exact ⟨M, h1, Nat.lt_of_lt_of_le h2 hb.size, h3, h4, fun j u hj => cell_later hb (h5 j u hj)⟩
end
end Go.Proofs.Ytkceiabgpcakkaa
