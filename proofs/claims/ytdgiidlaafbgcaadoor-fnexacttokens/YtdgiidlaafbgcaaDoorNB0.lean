/- Plain facts on texts: runs of letters, numbers of the language, their values. -/
namespace Nb
def digB (c : UInt8) : Bool := decide (48 ≤ c) && decide (c ≤ 57)
def valB (c : UInt8) : Bool := digB c || (decide (97 ≤ c) && decide (c ≤ 102)) || c == 120 || c == 122
def baseB (c : UInt8) : Bool := c == 98 || c == 111 || c == 104 || c == 100
/-- Where the run of p's letters ends that begins at i. -/
def runE (p : UInt8 → Bool) (l : List UInt8) (i : Nat) : Nat := i + ((l.drop i).takeWhile p).length
theorem runE_step {p : UInt8 → Bool} {l : List UInt8} {i : Nat} (h : i < l.length) (hp : p l[i] = true) : runE p l i = runE p l (i + 1) := by
  unfold runE
  rw [List.drop_eq_getElem_cons h, List.takeWhile_cons, if_pos hp, List.length_cons]; omega
theorem runE_stop {p : UInt8 → Bool} {l : List UInt8} {i : Nat} (h : i < l.length) (hp : p l[i] = false) : runE p l i = i := by
  unfold runE
  rw [List.drop_eq_getElem_cons h, List.takeWhile_cons, if_neg (by rw [hp]; decide)]; rfl
theorem runE_end {p : UInt8 → Bool} {l : List UInt8} {i : Nat} (h : l.length ≤ i) : runE p l i = i := by
  unfold runE
  rw [List.drop_of_length_le h]; rfl
theorem takeWhile_le (p : UInt8 → Bool) (l : List UInt8) : (l.takeWhile p).length ≤ l.length := by
  induction l with
  | nil => exact Nat.le_refl _
  | cons c t ih => rw [List.takeWhile_cons]; split <;> simp <;> omega
theorem runE_le {p : UInt8 → Bool} {l : List UInt8} {i : Nat} (h : i ≤ l.length) : runE p l i ≤ l.length := by
  unfold runE
  have := takeWhile_le p (l.drop i)
  rw [List.length_drop] at this; omega
theorem le_runE (p : UInt8 → Bool) (l : List UInt8) (i : Nat) : i ≤ runE p l i := by unfold runE; omega
theorem runE_all {p : UInt8 → Bool} {l : List UInt8} : ∀ {i j : Nat}, i ≤ j → j < runE p l i → p (l.getD j 0) = true := by
  intro i j hij hj
  unfold runE at hj
  have key : ∀ (m : List UInt8) (k : Nat), k < (m.takeWhile p).length → p (m.getD k 0) = true := by
    intro m
    induction m with
    | nil => intro k h; simp at h
    | cons c t ih =>
      intro k h
      rw [List.takeWhile_cons] at h
      by_cases hc : p c = true
      · rw [if_pos hc] at h
        cases k with
        | zero => exact hc
        | succ k => exact ih k (by simpa using h)
      · rw [if_neg hc] at h; simp at h
  have := key (l.drop i) (j - i) (by omega)
  rwa [List.getD_eq_getElem?_getD, List.getElem?_drop, show i + (j - i) = j by omega, ← List.getD_eq_getElem?_getD] at this
theorem runE_drop (p : UInt8 → Bool) (l : List UInt8) (a i : Nat) : runE p (l.drop a) i + a = runE p l (a + i) := by
  unfold runE
  rw [List.drop_drop]; omega
theorem getD_drop (l : List UInt8) (a i : Nat) : (l.drop a).getD i 0 = l.getD (a + i) 0 := by
  rw [List.getD_eq_getElem?_getD, List.getElem?_drop, ← List.getD_eq_getElem?_getD]
/-- The end of the number that begins at a, and whether it is one. -/
def numE (l : List UInt8) (a : Nat) : Nat × Bool :=
  if runE digB l a = a ∨ runE digB l a = l.length ∨ l.getD (runE digB l a) 0 ≠ 39 then (runE digB l a, decide (a < runE digB l a))
  else if l.getD (runE digB l a + 1) 0 = 115 then
    (if runE digB l a + 2 = l.length ∨ baseB (l.getD (runE digB l a + 2) 0) = false then (runE digB l a + 2, false)
     else (runE valB l (runE digB l a + 3), decide (runE digB l a + 3 < runE valB l (runE digB l a + 3))))
  else
    (if runE digB l a + 1 = l.length ∨ baseB (l.getD (runE digB l a + 1) 0) = false then (runE digB l a + 1, false)
     else (runE valB l (runE digB l a + 2), decide (runE digB l a + 2 < runE valB l (runE digB l a + 2))))
theorem getD_lt {l : List UInt8} {i : Nat} (h : l.getD i 0 ≠ 0) : i < l.length := by
  by_cases hi : i < l.length
  · exact hi
  · rw [List.getD_eq_getElem?_getD, List.getElem?_eq_none (by omega)] at h; simp at h
/-- What numberSize answers. -/
def numZ (l : List UInt8) : Nat := if (numE l 0).2 = true then (numE l 0).1 else 0
theorem numE_drop (l : List UInt8) (a : Nat) (ha : a ≤ l.length) : (numE l a).1 = (numE (l.drop a) 0).1 + a ∧ (numE l a).2 = (numE (l.drop a) 0).2 := by
  have r1 := runE_drop digB l a 0
  have g := fun i => getD_drop l a i
  have r2 := fun i => runE_drop valB l a i
  have hl : (l.drop a).length = l.length - a := List.length_drop
  rw [Nat.add_zero] at r1
  have hle := runE_le (p := digB) ha
  have hge := le_runE digB l a
  unfold numE
  generalize hD : runE digB (l.drop a) 0 = D at *
  rw [← r1] at hle hge ⊢
  have e1 : l.getD (D + a) 0 = (l.drop a).getD D 0 := by rw [g, Nat.add_comm]
  have e2 : l.getD (D + a + 1) 0 = (l.drop a).getD (D + 1) 0 := by rw [g]; congr 1; omega
  have e3 : l.getD (D + a + 2) 0 = (l.drop a).getD (D + 2) 0 := by rw [g]; congr 1; omega
  have f2 : runE valB l (D + a + 2) = runE valB (l.drop a) (D + 2) + a := by rw [r2]; congr 1; omega
  have f3 : runE valB l (D + a + 3) = runE valB (l.drop a) (D + 3) + a := by rw [r2]; congr 1; omega
  rw [e1, e2, e3, f2, f3, hl]
  by_cases h1 : D = 0 ∨ D = l.length - a ∨ (l.drop a).getD D 0 ≠ 39
  · rw [if_pos h1, if_pos (by rcases h1 with h | h | h; exact .inl (by omega); exact .inr (.inl (by omega)); exact .inr (.inr h))]
    exact ⟨rfl, by show decide (a < D + a) = decide (0 < D); rw [decide_eq_decide]; omega⟩
  · rw [if_neg h1, if_neg (by intro h; apply h1; rcases h with h | h | h; exact .inl (by omega); exact .inr (.inl (by omega)); exact .inr (.inr h))]
    by_cases h2 : (l.drop a).getD (D + 1) 0 = 115
    · rw [if_pos h2, if_pos h2]
      by_cases h3 : D + 2 = l.length - a ∨ baseB ((l.drop a).getD (D + 2) 0) = false
      · rw [if_pos h3, if_pos (by rcases h3 with h | h; exact .inl (by omega); exact .inr h)]
        exact ⟨by show D + a + 2 = D + 2 + a; omega, rfl⟩
      · rw [if_neg h3, if_neg (by intro h; apply h3; rcases h with h | h; exact .inl (by omega); exact .inr h)]
        exact ⟨rfl, by show decide _ = decide _; rw [decide_eq_decide]; omega⟩
    · rw [if_neg h2, if_neg h2]
      by_cases h3 : D + 1 = l.length - a ∨ baseB ((l.drop a).getD (D + 1) 0) = false
      · rw [if_pos h3, if_pos (by rcases h3 with h | h; exact .inl (by omega); exact .inr h)]
        exact ⟨by show D + a + 1 = D + 1 + a; omega, rfl⟩
      · rw [if_neg h3, if_neg (by intro h; apply h3; rcases h with h | h; exact .inl (by omega); exact .inr h)]
        exact ⟨rfl, by show decide _ = decide _; rw [decide_eq_decide]; omega⟩
theorem all_of_getD {p : UInt8 → Bool} : ∀ {l : List UInt8}, (∀ j, j < l.length → p (l.getD j 0) = true) → l.all p = true
  | [], _ => rfl
  | c :: t, h => by
    rw [List.all_cons, show p c = true from h 0 (by simp), all_of_getD (l := t) fun j hj => h (j + 1) (by simpa using hj)]; rfl
theorem split_at {l : List UInt8} {i : Nat} {c : UInt8} (h : l.getD i 0 = c) (hc : c ≠ 0) : l = l.take i ++ c :: l.drop (i + 1) := by
  have hi := getD_lt (l := l) (i := i) (by rw [h]; exact hc)
  have e : l[i] = c := by rw [← h, List.getD_eq_getElem?_getD, List.getElem?_eq_getElem hi]; rfl
  conv => lhs; rw [← List.take_append_drop i l, List.drop_eq_getElem_cons hi, e]
/-- A number's text, taken apart. -/
theorem num_form {l : List UInt8} (h1 : (numE l 0).2 = true) (h2 : (numE l 0).1 = l.length) : (l ≠ [] ∧ l.all digB = true) ∨ ∃ (d : List UInt8) (sg : Bool) (b : UInt8) (v : List UInt8), d ≠ [] ∧ d.all digB = true ∧ baseB b = true ∧ v ≠ [] ∧ v.all valB = true ∧ l = d ++ 39 :: ((if sg = true then [115] else []) ++ b :: v) := by
  have hD : ∀ j, j < runE digB l 0 → digB (l.getD j 0) = true := fun j hj => runE_all (Nat.zero_le _) hj
  have hle := runE_le (p := digB) (l := l) (Nat.zero_le _)
  have hV : ∀ i j, i ≤ j → j < runE valB l i → valB (l.getD j 0) = true := fun i j a b => runE_all a b
  unfold numE at h1 h2
  generalize runE digB l 0 = D at *
  by_cases c1 : D = 0 ∨ D = l.length ∨ l.getD D 0 ≠ 39
  · rw [if_pos c1] at h1 h2
    have h1 : 0 < D := by simpa using h1
    have h2 : D = l.length := h2
    exact .inl ⟨by intro e; subst e; simp at h2; omega, all_of_getD fun j hj => hD j (by omega)⟩
  · rw [if_neg c1] at h1 h2
    have n1 : D ≠ 0 := fun e => c1 (.inl e)
    have n2 : l.getD D 0 = 39 := by
      by_cases e : l.getD D 0 = 39
      · exact e
      · exact absurd (.inr (.inr e)) c1
    have hd : (l.take D).all digB = true := all_of_getD fun j hj => by
      rw [List.length_take] at hj
      have := hD j (by omega)
      rwa [List.getD_eq_getElem?_getD, List.getElem?_take_of_lt (by omega), ← List.getD_eq_getElem?_getD]
    have hDl : D < l.length := getD_lt (by rw [n2]; decide)
    have hdn : l.take D ≠ [] := by
      intro e
      have := congrArg List.length e
      rw [List.length_take, List.length_nil] at this
      omega
    have tail : ∀ k, runE valB l k = l.length → k < l.length → l.drop k ≠ [] ∧ (l.drop k).all valB = true := fun k e hk => by
      refine ⟨by intro e2; have := congrArg List.length e2; rw [List.length_drop] at this; simp at this; omega, all_of_getD fun j hj => ?_⟩
      rw [List.length_drop] at hj
      rw [getD_drop]; exact hV k (k + j) (by omega) (by omega)
    refine .inr ⟨l.take D, ?_⟩
    by_cases c2 : l.getD (D + 1) 0 = 115
    · rw [if_pos c2] at h1 h2
      by_cases c3 : D + 2 = l.length ∨ baseB (l.getD (D + 2) 0) = false
      · rw [if_pos c3] at h1; simp at h1
      · rw [if_neg c3] at h1 h2
        have h2 : runE valB l (D + 3) = l.length := h2
        have h1 : D + 3 < runE valB l (D + 3) := by simpa using h1
        have hb : baseB (l.getD (D + 2) 0) = true := by
          cases e : baseB (l.getD (D + 2) 0)
          · exact absurd (.inr e) c3
          · rfl
        have t := tail (D + 3) h2 (by omega)
        refine ⟨true, l.getD (D + 2) 0, l.drop (D + 3), hdn, hd, hb, t.1, t.2, ?_⟩
        have b0 : l.getD (D + 2) 0 ≠ 0 := by intro e; rw [e] at hb; exact absurd hb (by decide)
        have s1 := split_at n2 (by decide)
        have s2 := split_at (l := l.drop (D + 1)) (i := 0) (c := 115) (by rw [getD_drop]; exact c2) (by decide)
        have s3 := split_at (l := l.drop (D + 2)) (i := 0) (c := l.getD (D + 2) 0) (by rw [getD_drop]) b0
        rw [List.take_zero, List.nil_append, List.drop_drop] at s2 s3
        rw [if_pos rfl]
        conv => lhs; rw [s1, s2, s3]
        rfl
    · rw [if_neg c2] at h1 h2
      by_cases c3 : D + 1 = l.length ∨ baseB (l.getD (D + 1) 0) = false
      · rw [if_pos c3] at h1; simp at h1
      · rw [if_neg c3] at h1 h2
        have h2 : runE valB l (D + 2) = l.length := h2
        have h1 : D + 2 < runE valB l (D + 2) := by simpa using h1
        have hb : baseB (l.getD (D + 1) 0) = true := by
          cases e : baseB (l.getD (D + 1) 0)
          · exact absurd (.inr e) c3
          · rfl
        have t := tail (D + 2) h2 (by omega)
        refine ⟨false, l.getD (D + 1) 0, l.drop (D + 2), hdn, hd, hb, t.1, t.2, ?_⟩
        have b0 : l.getD (D + 1) 0 ≠ 0 := by intro e; rw [e] at hb; exact absurd hb (by decide)
        have s1 := split_at n2 (by decide)
        have s2 := split_at (l := l.drop (D + 1)) (i := 0) (c := l.getD (D + 1) 0) (by rw [getD_drop]) b0
        rw [List.take_zero, List.nil_append, List.drop_drop] at s2
        rw [if_neg (by decide), List.nil_append]
        conv => lhs; rw [s1, s2]
/-- The number that digits spell. -/
def valD (l : List UInt8) : Nat := l.foldl (fun a c => 10 * a + (c.toNat - 48)) 0
theorem valD_snoc (l : List UInt8) (c : UInt8) : valD (l ++ [c]) = 10 * valD l + (c.toNat - 48) := by unfold valD; rw [List.foldl_append]; rfl
/-- The specification's count, with its lid. -/
def lidD (l : List UInt8) : Nat := l.foldl (fun a c => min (a * 10 + (c.toNat - 48)) 1099511627776) 0
theorem lidD_snoc (l : List UInt8) (c : UInt8) : lidD (l ++ [c]) = min (lidD l * 10 + (c.toNat - 48)) 1099511627776 := by unfold lidD; rw [List.foldl_append]; rfl
theorem lidD_is (l : List UInt8) : lidD l = min (valD l) 1099511627776 := by
  have key : ∀ (l : List UInt8) (a : Nat), l.foldl (fun a c => min (a * 10 + (c.toNat - 48)) 1099511627776) (min a 1099511627776) = min (l.foldl (fun a c => 10 * a + (c.toNat - 48)) a) 1099511627776 := by
    intro l
    induction l with
    | nil => intro a; rfl
    | cons c t ih =>
      intro a
      rw [List.foldl_cons, List.foldl_cons, ← ih]
      congr 1; omega
  exact key l 0
end Nb
