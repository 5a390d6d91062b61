/- A kid is appended, in whatever order: by a plan. -/
import Derived.Test.YtkmpjoiefcjbnaaDoorRQ
import Derived.Test.YtkmpjoiefcjbnaaDoorSC1
namespace Go.Proofs.YtkmpjoiefcjbnaaDoor
open Go.RowKit Gs
set_option linter.unusedVariables false
set_option maxRecDepth 100000
/-- What is known of an operation's value. -/
def GK (Z : Nat) (kv : Value) (ws : List Int) (d : Int) (avs : List (Option Value)) (k : Nat) (w : World) (v : Value) : Prop :=
  match avs[k]? with
  | some (some x) => v = x
  | _ => (k = 24 → ∃ M, v = .slice (some ⟨M, 0, none⟩) 1 1 ∧ M < w.heap.size ∧ Z ≤ M ∧ kv.ownBlock ≠ some M ∧ ∀ j u, (kzC d)[j]? = some u → w.cell? ⟨M, j, none⟩ = some u) ∧ (k = 25 → OZ Z v (ws ++ [d]) w)
/-- What is known of the world. -/
structure JK (wr : World) (g : Nat) (kv : Value) (ws : List Int) (d : Int) (l : Array Bool) (w : World) : Prop where
  size : g + 1 ≤ w.heap.size
  still : l.getD 27 false = false → Below (g + 1) wr w
  own : l.getD 25 false = false → OZ (g + 1) kv ws w
  done : l.getD 27 false = true → ∃ V v', OZ (g + 1) v' (ws ++ [d]) V ∧ Below (g + 1) wr V ∧ w = V.setCell ⟨g, 5, none⟩ v'
section
variable {ops : Array Oper} {Q : Exit → Act → World → Prop} {avs : List (Option Value)} {wr : World} {g : Nat} {kv : Value} {ws : List Int} {d : Int} {a0 : Act}
abbrev PK (ops : Array Oper) (avs : List (Option Value)) (wr : World) (g : Nat) (kv : Value) (ws : List Int) (d : Int) (a0 : Act) (l : Array Bool) (a : Act) (w : World) : Prop :=
  PlanAt ops (GK (g + 1) kv ws d avs) (JK wr g kv ws d) a0 l a w
def onB (af : Array Edge) (j : Nat) : Bool := af.toList.any fun e => Region.binds .any e && decide (e.on = j)
theorem onB_spec {af : Array Edge} {j : Nat} (h : onB af j = true) {l : Array Bool} (ha : ∀ e ∈ af, Region.binds .any e = true → l.getD e.on false = true) : l.getD j false = true := by
  unfold onB at h
  rw [List.any_eq_true] at h
  obtain ⟨e, hm, he⟩ := h
  rw [Bool.and_eq_true, decide_eq_true_eq] at he
  have := ha e (by simpa using hm) he.1
  rwa [he.2] at this
/-- An operation that comes ahead of another one is done where that is. -/
theorem PK.ahead {l : Array Bool} {a : Act} {w : World} (hp : PK ops avs wr g kv ws d a0 l a w) {i j : Nat} (hi : (ops[i]?).any (fun o => onB o.after j) = true) (hj : l.getD j false = false) : l.getD i false = false := by
  cases h : l.getD i false with
  | false => rfl
  | true =>
    exfalso
    cases ho : ops[i]? with
    | none => rw [ho] at hi; simp at hi
    | some o =>
      rw [ho] at hi
      have := onB_spec (l := l) (by simpa using hi) (hp.down i o ho h)
      rw [this] at hj; cases hj
theorem ev_form (a : Act) (t : Tmp) : a.tmps[t]?.getD undef = a.eval (.tmp t) := by simp [Act.eval]
theorem kn_tmp {l : Array Bool} {a : Act} {w : World} {af : Array Edge} (hp : PK ops avs wr g kv ws d a0 l a w) (ha : ∀ e ∈ af, Region.binds .any e = true → l.getD e.on false = true) (t : Tmp) (j : Nat) {v : Value} (hj : (ops[j]?).bind (·.dst) = some t) (he : onB af j = true) (hv : avs[j]? = some (some v)) : a.tmps[t]?.getD undef = v := by
  rw [ev_form]
  obtain ⟨o, ho, hd⟩ := Option.bind_eq_some_iff.1 hj
  have h := hp.good j o t ho hd (onB_spec he ha)
  simpa [GK, hv] using h
theorem kn_old {l : Array Bool} {a : Act} {w : World} (hp : PK ops avs wr g kv ws d a0 l a w) (t : Tmp) {v : Value} (hd : ops.all (fun o => o.dst != some t) = true) (hv : a0.eval (.tmp t) = v) : a.tmps[t]?.getD undef = v := by
  rw [ev_form]
  rw [hp.keep t (fun i o ho e => ?_)]
  · exact hv
  · rw [Array.all_eq_true] at hd
    obtain ⟨h1, h2⟩ := Array.getElem?_eq_some_iff.1 ho
    have := hd i h1
    rw [h2, e] at this
    simp at this
theorem getD_tf {l : Array Bool} {k : Nat} (h : l.getD k true = false) : l.getD k false = false := by
  rcases Nat.lt_or_ge k l.size with h' | h'
  · simpa [Array.getD, h'] using h
  · simp [Array.getD, Nat.not_lt.2 h']
theorem set_ne {l : Array Bool} {k j : Nat} (h : k ≠ j) : (l.setIfInBounds k true).getD j false = l.getD j false := getD_set_ne false h
/-- An operation that reads. -/
theorem pk_val {k : Nat} {o : Oper} {x : Value} (hx : avs[k]? = some (some x)) (h27 : (ops[27]?).any (fun o => onB o.after k) = true) (hk25 : k ≠ 25) (hk27 : k ≠ 27)
    (hrun : ∀ l a w, PK ops avs wr g kv ws d a0 l a w → (∀ e ∈ o.after, Region.binds .any e = true → l.getD e.on false = true) → Below (g + 1) wr w → (execOp a.eval o).run Tryd.prog w = .ok (.value x) w) :
    PlanStep Tryd.prog ops Q (GK (g + 1) kv ws d avs) (JK wr g kv ws d) a0 k o := by
  intro l a w hp hu ha
  unfold Oper.wp
  have hb := hp.j.still (PK.ahead hp h27 (getD_tf hu))
  rw [hrun l a w hp ha hb]
  refine ⟨x, rfl, ⟨hp.j.size, fun h => hb, fun h => ?_, fun h => ?_⟩, by simp [GK, hx], fun j u _ h => h⟩
  · rw [set_ne hk25] at h; exact hp.j.own h
  · rw [set_ne hk27] at h; exact hp.j.done h
theorem GK.later {Z : Nat} {k : Nat} {w w' : World} {v : Value} (hb : Below w.heap.size w w') (h : GK Z kv ws d avs k w v) : GK Z kv ws d avs k w' v := by
  unfold GK at *
  split at h
  · exact h
  · refine ⟨fun e => ?_, fun e => (h.2 e).later hb⟩
    obtain ⟨M, h1, h2, h3, h4, h5⟩ := h.1 e
    exact ⟨M, h1, Nat.lt_of_lt_of_le h2 hb.size, h3, h4, fun j u hj => cell_later hb (h5 j u hj)⟩
end
end Go.Proofs.YtkmpjoiefcjbnaaDoor
namespace Go.Proofs.YtkmpjoiefcjbnaaDoor
open Go.RowKit Gs
set_option linter.unusedVariables false
set_option maxRecDepth 100000
theorem wpZ {o : Oper} {a : Act} {w : World} {K : Act → World → Prop} {Q : Exit → Act → World → Prop} (s x : Operand)
    (ho : o.op = .call { callee := .builtin .append, args := #[s, x], argTypes := #[102, 102] }) {Z : Nat} {v : Value} {ws : List Int} (hs : a.eval s = v) (hown : OZ Z v ws w) (M : Nat) (d : Int)
    (hx : a.eval x = .slice (some ⟨M, 0, none⟩) 1 1) (hc : ∀ j u, (kzC d)[j]? = some u → w.cell? ⟨M, j, none⟩ = some u) (h63 : ws.length ≤ 1000) (hZ : Z ≤ w.heap.size)
    (h : ∀ v' w', OZ Z v' (ws ++ [d]) w' → w.grownBy w' v.ownBlock → K (a.put o.dst v') w') : Oper.wp Tryd.prog o a w K Q := by
  obtain ⟨i0, hi, hz0, hz1, hz2⟩ := info_parts infoEx
  refine wp_append_own w s x 102 ho Z 104 i0 (.agg #[.int .i64 0, .int .i64 0, .int .i64 0, .bool false, .string ByteArray.empty, .slice none 0 0]) 6 72 Tryd.underlying102 hi hz0 hz1 hz2 rfl (by decide) v ws.length (ws.flatMap kzC) hs hown ⟨M, 0, none⟩ 1 1 (kzC d) hx rfl ?_ ?_ (by unfold maxLen; omega) (by omega) hZ ?_
  · intro j u hu
    rw [Addr.add_lit, Nat.zero_add]
    exact hc j u hu
  · intro u hu
    simp [kzC] at hu
    rcases hu with rfl | rfl | rfl | rfl | rfl | rfl <;> rfl
  · intro v' w' hown' hgrow _
    refine h v' w' ?_ hgrow
    unfold OZ
    rw [List.length_append, List.flatMap_append]
    simpa using hown'
section
variable {ops : Array Oper} {Q : Exit → Act → World → Prop} {avs : List (Option Value)} {wr : World} {g : Nat} {kv : Value} {ws : List Int} {d : Int} {a0 : Act}
theorem set_same {l : Array Bool} {k : Nat} (hk : k < l.size) : (l.setIfInBounds k true).getD k false = true := by rw [getD_set_ite hk, if_pos rfl]
/-- The call. -/
theorem pk_call {k : Nat} {o : Oper} {x : Value} {f : FuncId} (hx : avs[k]? = some (some x)) (h25 : (ops[25]?).any (fun o => onB o.after k) = true) (h27 : (ops[27]?).any (fun o => onB o.after k) = true) (hk25 : k ≠ 25) (hk27 : k ≠ 27)
    (hrun : ∀ l a w, PK ops avs wr g kv ws d a0 l a w → (∀ e ∈ o.after, Region.binds .any e = true → l.getD e.on false = true) → Below (g + 1) wr w → ∃ args, (execOp a.eval o).run Tryd.prog w = .ok (.enter f args) w ∧ Calls Tryd.prog f args w fun e w' => e = .returned x ∧ Below w.heap.size w w') :
    PlanStep Tryd.prog ops Q (GK (g + 1) kv ws d avs) (JK wr g kv ws d) a0 k o := by
  intro l a w hp hu ha
  unfold Oper.wp
  have l27 := PK.ahead hp h27 (getD_tf hu)
  have l25 := PK.ahead hp h25 (getD_tf hu)
  have hb := hp.j.still l27
  obtain ⟨args, hr, hc⟩ := hrun l a w hp ha hb
  rw [hr]
  refine Calls.mono hc ?_
  rintro e w' ⟨rfl, hb'⟩
  have hsz := hp.j.size
  refine ⟨x, rfl, ⟨Nat.le_trans hsz hb'.size, fun _ => hb.trans (hb'.mono hsz), fun _ => (hp.j.own l25).later hb', fun h => ?_⟩, by simp [GK, hx], fun j u _ h => h.later hb'⟩
  rw [set_ne hk27, l27] at h; cases h
/-- The new kid. -/
theorem pk_new {o : Oper} (hx : avs[24]? = some none) (h25 : (ops[25]?).any (fun o => onB o.after 24) = true) (h27 : (ops[27]?).any (fun o => onB o.after 24) = true)
    (hrun : ∀ l a w, PK ops avs wr g kv ws d a0 l a w → (∀ e ∈ o.after, Region.binds .any e = true → l.getD e.on false = true) → Below (g + 1) wr w → (execOp a.eval o).run Tryd.prog w = .ok (.value (.slice (some ⟨w.heap.size, 0, none⟩) 1 1)) (w.alloc (.cells #[.int .i64 29, .int .i64 d, .int .i64 0, .bool false, .string (S (List.replicate d.toNat 48)), .slice none 0 0] 104))) :
    PlanStep Tryd.prog ops Q (GK (g + 1) kv ws d avs) (JK wr g kv ws d) a0 24 o := by
  intro l a w hp hu ha
  unfold Oper.wp
  have l27 := PK.ahead hp h27 (getD_tf hu)
  have l25 := PK.ahead hp h25 (getD_tf hu)
  have hb := hp.j.still l27
  have hsz := hp.j.size
  rw [hrun l a w hp ha hb]
  have hb' := bal (brf w) (.cells #[.int .i64 29, .int .i64 d, .int .i64 0, .bool false, .string (S (List.replicate d.toNat 48)), .slice none 0 0] 104)
  refine ⟨_, rfl, ⟨Nat.le_trans hsz hb'.size, fun _ => hb.trans (hb'.mono hsz), fun _ => (hp.j.own l25).later hb', fun h => ?_⟩, ?_, fun j u _ h => h.later hb'⟩
  · rw [set_ne (by omega), l27] at h; cases h
  · simp only [GK, hx]
    refine ⟨fun _ => ⟨w.heap.size, rfl, by simp, hsz, fun e => ?_, one_kid rfl⟩, fun h => by omega⟩
    have := (World.ownsRow.lt (hp.j.own l25) _ e).2
    omega
/-- The append. -/
theorem pk_app {o : Oper} (hsz28 : ops.size = 28) (hx : avs[25]? = some none) (hx24 : avs[24]? = some none) (h27 : (ops[27]?).any (fun o => onB o.after 25) = true) (s x : Tmp)
    (ho : o.op = .call { callee := .builtin .append, args := #[.tmp s, .tmp x], argTypes := #[102, 102] }) (hws : ws.length ≤ 1000) (h24 : (ops[24]?).bind (·.dst) = some x) (ho24 : onB o.after 24 = true)
    (hs : ∀ l a w, PK ops avs wr g kv ws d a0 l a w → (∀ e ∈ o.after, Region.binds .any e = true → l.getD e.on false = true) → a.eval (.tmp s) = kv) :
    PlanStep Tryd.prog ops Q (GK (g + 1) kv ws d avs) (JK wr g kv ws d) a0 25 o := by
  intro l a w hp hu ha
  have l27 := PK.ahead hp h27 (getD_tf hu)
  have l25 := getD_tf hu
  have hb := hp.j.still l27
  have hsz := hp.j.size
  have hown := hp.j.own l25
  have hl28 : l.size = 28 := hp.sz.trans hsz28
  obtain ⟨o24, ho24', hd24⟩ := Option.bind_eq_some_iff.1 h24
  have hG := hp.good 24 o24 x ho24' hd24 (onB_spec ho24 ha)
  simp only [GK, hx24] at hG
  obtain ⟨M, hM, hMs, hMg, hMo, hMc⟩ := hG.1 trivial
  refine wpZ (.tmp s) (.tmp x) ho (hs l a w hp ha) hown M d hM hMc hws hsz ?_
  intro v' w' hown' hgrow
  have hb' : Below (g + 1) w w' := (Below.refl (g + 1) w).grown hgrow hsz (fun k hk => (World.ownsRow.lt hown k hk).1)
  refine ⟨v', rfl, ⟨Nat.le_trans hsz hgrow.size, fun _ => hb.trans hb', fun h => ?_, fun h => ?_⟩, ?_, fun j u hj h => ?_⟩
  · rw [set_same (by omega)] at h; cases h
  · rw [set_ne (by omega), l27] at h; cases h
  · simp only [GK, hx]
    exact ⟨fun h => by omega, fun _ => hown'⟩
  · unfold GK at h ⊢
    split at h
    · exact h
    · refine ⟨fun e => ?_, fun e => ?_⟩
      · obtain ⟨M', h1, h2, h3, h4, h5⟩ := h.1 e
        exact ⟨M', h1, Nat.lt_of_lt_of_le h2 hgrow.size, h3, h4, fun j u hj => hgrow.cell (h5 j u hj) (fun e => h4 e.symm)⟩
      · subst e; rw [l25] at hj; cases hj
/-- The store. -/
theorem pk_store {o : Oper} (hsz28 : ops.size = 28) (hdst : o.dst = none) (hx : avs[27]? = some none) (hx25 : avs[25]? = some none) (x : Tmp) (h25 : (ops[25]?).bind (·.dst) = some x) (ho25 : onB o.after 25 = true)
    (hrun : ∀ l a w v', PK ops avs wr g kv ws d a0 l a w → (∀ e ∈ o.after, Region.binds .any e = true → l.getD e.on false = true) → Below (g + 1) wr w → a.eval (.tmp x) = v' → (∃ p q r, v' = .slice p q r) → (execOp a.eval o).run Tryd.prog w = .ok .skip (w.setCell ⟨g, 5, none⟩ v')) :
    PlanStep Tryd.prog ops Q (GK (g + 1) kv ws d avs) (JK wr g kv ws d) a0 27 o := by
  intro l a w hp hu ha
  have l27 := getD_tf hu
  have l25 := onB_spec ho25 ha
  have hb := hp.j.still l27
  have hsz := hp.j.size
  have hl28 : l.size = 28 := hp.sz.trans hsz28
  obtain ⟨o25, ho25', hd25⟩ := Option.bind_eq_some_iff.1 h25
  have hG := hp.good 25 o25 x ho25' hd25 l25
  simp only [GK, hx25] at hG
  have hO := hG.2 trivial
  unfold Oper.wp
  rw [hrun l a w _ hp ha hb rfl hO.shape]
  refine ⟨undef, rfl, ⟨by simpa using hsz, fun h => ?_, fun h => ?_, fun _ => ⟨w, _, hO, hb, rfl⟩⟩, ?_, fun j u hj h => ?_⟩
  · rw [set_same (by omega)] at h; cases h
  · rw [set_ne (by omega), l25] at h; cases h
  · simp only [GK, hx]
    exact ⟨fun h => by omega, fun h => by omega⟩
  · unfold GK at h ⊢
    split at h
    · exact h
    · refine ⟨fun e => ?_, fun e => ownsRow_setCell_below (h.2 e) (a := ⟨g, 5, none⟩) (Nat.lt_succ_self g) _⟩
      obtain ⟨M', h1, h2, h3, h4, h5⟩ := h.1 e
      refine ⟨M', h1, by simpa using h2, h3, h4, fun j u hj => ?_⟩
      rw [World.cell?_setCell_other (w := w) (a := ⟨g, 5, none⟩) (b := ⟨M', j, none⟩) (v := _) (ne_addr (.inl (by omega)))]
      exact h5 j u hj
end
theorem planDst {ops : Array Oper} {ts : List Tmp} (h : ops.all (fun o => match o.dst with | some d => ts.contains d | none => true) = true) {t : Tmp} (ht : t ∉ ts) : ∀ (i : Nat) o, ops[i]? = some o → o.dst ≠ some t := by
  intro i o ho e
  rw [Array.all_eq_true] at h
  obtain ⟨h1, h2⟩ := Array.getElem?_eq_some_iff.1 ho
  have := h i h1
  rw [h2, e] at this
  simp at this
  exact ht this
/-- A frame of which some slots were written. -/
def putAll (a0 : Act) (ts : List Tmp) (us : Tmp → Value) : Act := ts.foldl (fun a t => a.put (some t) (us t)) a0
theorem putAll_size (us : Tmp → Value) : ∀ (ts : List Tmp) (a0 : Act), (putAll a0 ts us).tmps.size = a0.tmps.size
  | [], _ => rfl
  | t :: ts, a0 => by
    show (putAll (a0.put (some t) (us t)) ts us).tmps.size = _
    rw [putAll_size us ts, put_tmps_size]
theorem putAll_defers (us : Tmp → Value) : ∀ (ts : List Tmp) (a0 : Act), (putAll a0 ts us).defers = a0.defers
  | [], _ => rfl
  | t :: ts, a0 => by
    show (putAll (a0.put (some t) (us t)) ts us).defers = _
    rw [putAll_defers us ts, put_defers_same]
theorem putAll_eval (us : Tmp → Value) (i : Tmp) : ∀ (ts : List Tmp) (a0 : Act), i < a0.tmps.size → (putAll a0 ts us).eval (.tmp i) = if i ∈ ts then us i else a0.eval (.tmp i)
  | [], _, _ => by simp [putAll]
  | t :: ts, a0, h => by
    show (putAll (a0.put (some t) (us t)) ts us).eval (.tmp i) = _
    rw [putAll_eval us i ts _ (by rw [put_tmps_size]; exact h)]
    by_cases e : i = t
    · subst e
      rw [eval_put_same h]
      simp
    · rw [eval_put_other (fun h => e (by injection h with h; exact h.symm))]
      simp [e]
theorem eval_at (a : Act) (i : Nat) (h : i < a.tmps.size) : a.eval (.tmp i) = a.tmps[i] := by simp [Act.eval, Array.getD, h]
theorem act_ext {a b : Act} (hs : a.tmps.size = b.tmps.size) (hd : a.defers = b.defers) (h : ∀ i, i < b.tmps.size → a.eval (.tmp i) = b.eval (.tmp i)) : a = b := by
  have h1 : a.tmps = b.tmps := Array.ext hs (fun i h1 h2 => by rw [← eval_at a i h1, ← eval_at b i h2]; exact h i h2)
  cases a; cases b
  simp at h1 hd
  rw [h1, hd]
theorem putAll_of {a a0 : Act} (ts : List Tmp) (hs : a.tmps.size = a0.tmps.size) (hd : a.defers = a0.defers) (hk : ∀ t, t ∉ ts → a.eval (.tmp t) = a0.eval (.tmp t)) : ∃ us, a = putAll a0 ts us := by
  refine ⟨fun t => a.eval (.tmp t), act_ext (by rw [putAll_size]; exact hs) (by rw [putAll_defers]; exact hd) (fun i hi => ?_)⟩
  rw [putAll_size] at hi
  rw [putAll_eval _ i ts a0 hi]
  by_cases h : i ∈ ts
  · rw [if_pos h]
  · rw [if_neg h]; exact hk i h
end Go.Proofs.YtkmpjoiefcjbnaaDoor
