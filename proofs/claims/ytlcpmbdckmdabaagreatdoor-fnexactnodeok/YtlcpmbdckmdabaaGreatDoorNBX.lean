/- Plain facts on texts: runs of letters, numbers of the language, their values. What a number's text tells: the bits of its digits, of a width. The texts of numbers, put together and cut. A number's text taken apart at its places, and what NumberBits tells of any text. Plain facts on texts: names, marks and the tokens of a text, as both programs tell them. -/
import Derived.Test.YtlcpmbdckmdabaaGreatDoorBW
namespace Nb
def digB (c : UInt8) : Bool := decide (48 ≤ c) && decide (c ≤ 57)
def valB (c : UInt8) : Bool := digB c || (decide (97 ≤ c) && decide (c ≤ 102)) || c == 120 || c == 122
def baseB (c : UInt8) : Bool := c == 98 || c == 111 || c == 104 || c == 100
/-- Where the run of p's letters ends that begins at i. -/
def runE (p : UInt8 → Bool) (l : List UInt8) (i : Nat) : Nat := i + ((l.drop i).takeWhile p).length
theorem runE_step {p : UInt8 → Bool} {l : List UInt8} {i : Nat} (h : i < l.length) (hp : p l[i] = true) : runE p l i = runE p l (i + 1) := by
  unfold runE
  rw [List.drop_eq_getElem_cons h, List.takeWhile_cons, if_pos hp, List.length_cons]; omega
theorem runE_stop {p : UInt8 → Bool} {l : List UInt8} {i : Nat} (h : i < l.length) (hp : p l[i] = false) : runE p l i = i := by
  unfold runE
  rw [List.drop_eq_getElem_cons h, List.takeWhile_cons, if_neg (by rw [hp]; decide)]; rfl
theorem runE_end {p : UInt8 → Bool} {l : List UInt8} {i : Nat} (h : l.length ≤ i) : runE p l i = i := by
  unfold runE
  rw [List.drop_of_length_le h]; rfl
theorem takeWhile_le (p : UInt8 → Bool) (l : List UInt8) : (l.takeWhile p).length ≤ l.length := by
  induction l with
  | nil => exact Nat.le_refl _
  | cons c t ih => rw [List.takeWhile_cons]; split <;> simp <;> omega
theorem runE_le {p : UInt8 → Bool} {l : List UInt8} {i : Nat} (h : i ≤ l.length) : runE p l i ≤ l.length := by
  unfold runE
  have := takeWhile_le p (l.drop i)
  rw [List.length_drop] at this; omega
theorem le_runE (p : UInt8 → Bool) (l : List UInt8) (i : Nat) : i ≤ runE p l i := by unfold runE; omega
theorem runE_all {p : UInt8 → Bool} {l : List UInt8} : ∀ {i j : Nat}, i ≤ j → j < runE p l i → p (l.getD j 0) = true := by
  intro i j hij hj
  unfold runE at hj
  have key : ∀ (m : List UInt8) (k : Nat), k < (m.takeWhile p).length → p (m.getD k 0) = true := by
    intro m
    induction m with
    | nil => intro k h; simp at h
    | cons c t ih =>
      intro k h
      rw [List.takeWhile_cons] at h
      by_cases hc : p c = true
      · rw [if_pos hc] at h
        cases k with
        | zero => exact hc
        | succ k => exact ih k (by simpa using h)
      · rw [if_neg hc] at h; simp at h
  have := key (l.drop i) (j - i) (by omega)
  rwa [List.getD_eq_getElem?_getD, List.getElem?_drop, show i + (j - i) = j by omega, ← List.getD_eq_getElem?_getD] at this
theorem runE_drop (p : UInt8 → Bool) (l : List UInt8) (a i : Nat) : runE p (l.drop a) i + a = runE p l (a + i) := by
  unfold runE
  rw [List.drop_drop]; omega
theorem getD_drop (l : List UInt8) (a i : Nat) : (l.drop a).getD i 0 = l.getD (a + i) 0 := by
  rw [List.getD_eq_getElem?_getD, List.getElem?_drop, ← List.getD_eq_getElem?_getD]
/-- The end of the number that begins at a, and whether it is one. -/
def numE (l : List UInt8) (a : Nat) : Nat × Bool :=
  if runE digB l a = a ∨ runE digB l a = l.length ∨ l.getD (runE digB l a) 0 ≠ 39 then (runE digB l a, decide (a < runE digB l a))
  else if l.getD (runE digB l a + 1) 0 = 115 then
    (if runE digB l a + 2 = l.length ∨ baseB (l.getD (runE digB l a + 2) 0) = false then (runE digB l a + 2, false)
     else (runE valB l (runE digB l a + 3), decide (runE digB l a + 3 < runE valB l (runE digB l a + 3))))
  else
    (if runE digB l a + 1 = l.length ∨ baseB (l.getD (runE digB l a + 1) 0) = false then (runE digB l a + 1, false)
     else (runE valB l (runE digB l a + 2), decide (runE digB l a + 2 < runE valB l (runE digB l a + 2))))
theorem getD_lt {l : List UInt8} {i : Nat} (h : l.getD i 0 ≠ 0) : i < l.length := by
  by_cases hi : i < l.length
  · exact hi
  · rw [List.getD_eq_getElem?_getD, List.getElem?_eq_none (by omega)] at h; simp at h
/-- What numberSize answers. -/
def numZ (l : List UInt8) : Nat := if (numE l 0).2 = true then (numE l 0).1 else 0
theorem numE_drop (l : List UInt8) (a : Nat) (ha : a ≤ l.length) : (numE l a).1 = (numE (l.drop a) 0).1 + a ∧ (numE l a).2 = (numE (l.drop a) 0).2 := by
  have r1 := runE_drop digB l a 0
  have g := fun i => getD_drop l a i
  have r2 := fun i => runE_drop valB l a i
  have hl : (l.drop a).length = l.length - a := List.length_drop
  rw [Nat.add_zero] at r1
  have hle := runE_le (p := digB) ha
  have hge := le_runE digB l a
  unfold numE
  generalize hD : runE digB (l.drop a) 0 = D at *
  rw [← r1] at hle hge ⊢
  have e1 : l.getD (D + a) 0 = (l.drop a).getD D 0 := by rw [g, Nat.add_comm]
  have e2 : l.getD (D + a + 1) 0 = (l.drop a).getD (D + 1) 0 := by rw [g]; congr 1; omega
  have e3 : l.getD (D + a + 2) 0 = (l.drop a).getD (D + 2) 0 := by rw [g]; congr 1; omega
  have f2 : runE valB l (D + a + 2) = runE valB (l.drop a) (D + 2) + a := by rw [r2]; congr 1; omega
  have f3 : runE valB l (D + a + 3) = runE valB (l.drop a) (D + 3) + a := by rw [r2]; congr 1; omega
  rw [e1, e2, e3, f2, f3, hl]
  by_cases h1 : D = 0 ∨ D = l.length - a ∨ (l.drop a).getD D 0 ≠ 39
  · rw [if_pos h1, if_pos (by rcases h1 with h | h | h; exact .inl (by omega); exact .inr (.inl (by omega)); exact .inr (.inr h))]
    exact ⟨rfl, by show decide (a < D + a) = decide (0 < D); rw [decide_eq_decide]; omega⟩
  · rw [if_neg h1, if_neg (by intro h; apply h1; rcases h with h | h | h; exact .inl (by omega); exact .inr (.inl (by omega)); exact .inr (.inr h))]
    by_cases h2 : (l.drop a).getD (D + 1) 0 = 115
    · rw [if_pos h2, if_pos h2]
      by_cases h3 : D + 2 = l.length - a ∨ baseB ((l.drop a).getD (D + 2) 0) = false
      · rw [if_pos h3, if_pos (by rcases h3 with h | h; exact .inl (by omega); exact .inr h)]
        exact ⟨by show D + a + 2 = D + 2 + a; omega, rfl⟩
      · rw [if_neg h3, if_neg (by intro h; apply h3; rcases h with h | h; exact .inl (by omega); exact .inr h)]
        exact ⟨rfl, by show decide _ = decide _; rw [decide_eq_decide]; omega⟩
    · rw [if_neg h2, if_neg h2]
      by_cases h3 : D + 1 = l.length - a ∨ baseB ((l.drop a).getD (D + 1) 0) = false
      · rw [if_pos h3, if_pos (by rcases h3 with h | h; exact .inl (by omega); exact .inr h)]
        exact ⟨by show D + a + 1 = D + 1 + a; omega, rfl⟩
      · rw [if_neg h3, if_neg (by intro h; apply h3; rcases h with h | h; exact .inl (by omega); exact .inr h)]
        exact ⟨rfl, by show decide _ = decide _; rw [decide_eq_decide]; omega⟩
theorem all_of_getD {p : UInt8 → Bool} : ∀ {l : List UInt8}, (∀ j, j < l.length → p (l.getD j 0) = true) → l.all p = true
  | [], _ => rfl
  | c :: t, h => by
    rw [List.all_cons, show p c = true from h 0 (by simp), all_of_getD (l := t) fun j hj => h (j + 1) (by simpa using hj)]; rfl
theorem split_at {l : List UInt8} {i : Nat} {c : UInt8} (h : l.getD i 0 = c) (hc : c ≠ 0) : l = l.take i ++ c :: l.drop (i + 1) := by
  have hi := getD_lt (l := l) (i := i) (by rw [h]; exact hc)
  have e : l[i] = c := by rw [← h, List.getD_eq_getElem?_getD, List.getElem?_eq_getElem hi]; rfl
  conv => lhs; rw [← List.take_append_drop i l, List.drop_eq_getElem_cons hi, e]
/-- A number's text, taken apart. -/
theorem num_form {l : List UInt8} (h1 : (numE l 0).2 = true) (h2 : (numE l 0).1 = l.length) : (l ≠ [] ∧ l.all digB = true) ∨ ∃ (d : List UInt8) (sg : Bool) (b : UInt8) (v : List UInt8), d ≠ [] ∧ d.all digB = true ∧ baseB b = true ∧ v ≠ [] ∧ v.all valB = true ∧ l = d ++ 39 :: ((if sg = true then [115] else []) ++ b :: v) := by
  have hD : ∀ j, j < runE digB l 0 → digB (l.getD j 0) = true := fun j hj => runE_all (Nat.zero_le _) hj
  have hle := runE_le (p := digB) (l := l) (Nat.zero_le _)
  have hV : ∀ i j, i ≤ j → j < runE valB l i → valB (l.getD j 0) = true := fun i j a b => runE_all a b
  unfold numE at h1 h2
  generalize runE digB l 0 = D at *
  by_cases c1 : D = 0 ∨ D = l.length ∨ l.getD D 0 ≠ 39
  · rw [if_pos c1] at h1 h2
    have h1 : 0 < D := by simpa using h1
    have h2 : D = l.length := h2
    exact .inl ⟨by intro e; subst e; simp at h2; omega, all_of_getD fun j hj => hD j (by omega)⟩
  · rw [if_neg c1] at h1 h2
    have n1 : D ≠ 0 := fun e => c1 (.inl e)
    have n2 : l.getD D 0 = 39 := by
      by_cases e : l.getD D 0 = 39
      · exact e
      · exact absurd (.inr (.inr e)) c1
    have hd : (l.take D).all digB = true := all_of_getD fun j hj => by
      rw [List.length_take] at hj
      have := hD j (by omega)
      rwa [List.getD_eq_getElem?_getD, List.getElem?_take_of_lt (by omega), ← List.getD_eq_getElem?_getD]
    have hDl : D < l.length := getD_lt (by rw [n2]; decide)
    have hdn : l.take D ≠ [] := by
      intro e
      have := congrArg List.length e
      rw [List.length_take, List.length_nil] at this
      omega
    have tail : ∀ k, runE valB l k = l.length → k < l.length → l.drop k ≠ [] ∧ (l.drop k).all valB = true := fun k e hk => by
      refine ⟨by intro e2; have := congrArg List.length e2; rw [List.length_drop] at this; simp at this; omega, all_of_getD fun j hj => ?_⟩
      rw [List.length_drop] at hj
      rw [getD_drop]; exact hV k (k + j) (by omega) (by omega)
    refine .inr ⟨l.take D, ?_⟩
    by_cases c2 : l.getD (D + 1) 0 = 115
    · rw [if_pos c2] at h1 h2
      by_cases c3 : D + 2 = l.length ∨ baseB (l.getD (D + 2) 0) = false
      · rw [if_pos c3] at h1; simp at h1
      · rw [if_neg c3] at h1 h2
        have h2 : runE valB l (D + 3) = l.length := h2
        have h1 : D + 3 < runE valB l (D + 3) := by simpa using h1
        have hb : baseB (l.getD (D + 2) 0) = true := by
          cases e : baseB (l.getD (D + 2) 0)
          · exact absurd (.inr e) c3
          · rfl
        have t := tail (D + 3) h2 (by omega)
        refine ⟨true, l.getD (D + 2) 0, l.drop (D + 3), hdn, hd, hb, t.1, t.2, ?_⟩
        have b0 : l.getD (D + 2) 0 ≠ 0 := by intro e; rw [e] at hb; exact absurd hb (by decide)
        have s1 := split_at n2 (by decide)
        have s2 := split_at (l := l.drop (D + 1)) (i := 0) (c := 115) (by rw [getD_drop]; exact c2) (by decide)
        have s3 := split_at (l := l.drop (D + 2)) (i := 0) (c := l.getD (D + 2) 0) (by rw [getD_drop]) b0
        rw [List.take_zero, List.nil_append, List.drop_drop] at s2 s3
        rw [if_pos rfl]
        conv => lhs; rw [s1, s2, s3]
        rfl
    · rw [if_neg c2] at h1 h2
      by_cases c3 : D + 1 = l.length ∨ baseB (l.getD (D + 1) 0) = false
      · rw [if_pos c3] at h1; simp at h1
      · rw [if_neg c3] at h1 h2
        have h2 : runE valB l (D + 2) = l.length := h2
        have h1 : D + 2 < runE valB l (D + 2) := by simpa using h1
        have hb : baseB (l.getD (D + 1) 0) = true := by
          cases e : baseB (l.getD (D + 1) 0)
          · exact absurd (.inr e) c3
          · rfl
        have t := tail (D + 2) h2 (by omega)
        refine ⟨false, l.getD (D + 1) 0, l.drop (D + 2), hdn, hd, hb, t.1, t.2, ?_⟩
        have b0 : l.getD (D + 1) 0 ≠ 0 := by intro e; rw [e] at hb; exact absurd hb (by decide)
        have s1 := split_at n2 (by decide)
        have s2 := split_at (l := l.drop (D + 1)) (i := 0) (c := l.getD (D + 1) 0) (by rw [getD_drop]) b0
        rw [List.take_zero, List.nil_append, List.drop_drop] at s2
        rw [if_neg (by decide), List.nil_append]
        conv => lhs; rw [s1, s2]
/-- The number that digits spell. -/
def valD (l : List UInt8) : Nat := l.foldl (fun a c => 10 * a + (c.toNat - 48)) 0
theorem valD_snoc (l : List UInt8) (c : UInt8) : valD (l ++ [c]) = 10 * valD l + (c.toNat - 48) := by unfold valD; rw [List.foldl_append]; rfl
/-- The specification's count, with its lid. -/
def lidD (l : List UInt8) : Nat := l.foldl (fun a c => min (a * 10 + (c.toNat - 48)) 1099511627776) 0
theorem lidD_snoc (l : List UInt8) (c : UInt8) : lidD (l ++ [c]) = min (lidD l * 10 + (c.toNat - 48)) 1099511627776 := by unfold lidD; rw [List.foldl_append]; rfl
theorem lidD_is (l : List UInt8) : lidD l = min (valD l) 1099511627776 := by
  have key : ∀ (l : List UInt8) (a : Nat), l.foldl (fun a c => min (a * 10 + (c.toNat - 48)) 1099511627776) (min a 1099511627776) = min (l.foldl (fun a c => 10 * a + (c.toNat - 48)) a) 1099511627776 := by
    intro l
    induction l with
    | nil => intro a; rfl
    | cons c t ih =>
      intro a
      rw [List.foldl_cons, List.foldl_cons, ← ih]
      congr 1; omega
  exact key l 0
end Nb
namespace Nb
/-- What a digit of base 2, 8 or 16 is worth. -/
def hexV (c : UInt8) : Nat := if digB c = true then c.toNat - 48 else c.toNat - 87
/-- The bits of one digit, none where it is too great. -/
def digT (size : Nat) (c : UInt8) : Option (List UInt8) :=
  if c = 120 ∨ c = 122 then some (List.replicate size c) else if 2 ^ size ≤ hexV c then none else some (Vb.nTxt size (hexV c))
def digsA (size : Nat) : List UInt8 → List UInt8 → Option (List UInt8)
  | acc, [] => some acc
  | acc, c :: t => match digT size c with
    | none => none
    | some x => digsA size (acc ++ x) t
def padC (v : List UInt8) : UInt8 := if v.headD 0 = 120 ∨ v.headD 0 = 122 then v.headD 0 else 48
/-- A text made n letters long. -/
def fitT (n : Nat) (pad : UInt8) (all : List UInt8) : Option (List UInt8) :=
  if n < all.length then (if (all.take (all.length - n)).all (fun c => c == 48) = true then some (all.drop (all.length - n)) else none)
  else some (List.replicate (n - all.length) pad ++ all)
def baseN (b : UInt8) : Nat := if b = 111 then 3 else if b = 104 then 4 else 1
/-- What a number of a width tells. -/
def based (n : Nat) (sg : Bool) (b : UInt8) (v : List UInt8) : List UInt8 × Bool × Nat :=
  if b = 100 then (if v.all digB = true then (if 2 ^ n ≤ valD v then ([], false, 11) else (Vb.nTxt n (valD v), sg, 0)) else ([], false, 3))
  else match digsA (baseN b) [] v with
    | none => ([], false, 3)
    | some all => match fitT n (padC v) all with
      | none => ([], false, 11)
      | some r => (r, sg, 0)
def plain (d : List UInt8) : List UInt8 × Bool × Nat := if 2147483647 < valD d then ([], false, 11) else (Vb.nTxt 32 (valD d), true, 0)
def widthed (d : List UInt8) (sg : Bool) (b : UInt8) (v : List UInt8) : List UInt8 × Bool × Nat := if valD d < 1 ∨ 64 < valD d then ([], false, 7) else based (valD d) sg b v
theorem digsA_app (size : Nat) : ∀ (v acc u : List UInt8), digsA size acc (v ++ u) = (match digsA size acc v with | none => none | some x => digsA size x u)
  | [], acc, u => rfl
  | c :: t, acc, u => by
    rw [List.cons_append, digsA, digsA]
    cases digT size c with
    | none => rfl
    | some x => exact digsA_app size t _ u
theorem digsA_snoc (size : Nat) (v acc : List UInt8) (c : UInt8) {x : List UInt8} (h : digsA size acc v = some x) : digsA size acc (v ++ [c]) = (match digT size c with | none => none | some y => some (x ++ y)) := by
  rw [digsA_app, h]
  show (match digT size c with | none => none | some y => digsA size (x ++ y) []) = _
  cases digT size c <;> rfl
theorem digsA_bad (size : Nat) (v acc u : List UInt8) (h : digsA size acc v = none) : digsA size acc (v ++ u) = none := by
  rw [digsA_app, h]
theorem digT_len {size : Nat} {c : UInt8} {x : List UInt8} (h : digT size c = some x) : x.length = size := by
  unfold digT at h
  by_cases h1 : c = 120 ∨ c = 122
  · rw [if_pos h1] at h; cases h; simp
  · rw [if_neg h1] at h
    by_cases h2 : 2 ^ size ≤ hexV c
    · rw [if_pos h2] at h; cases h
    · rw [if_neg h2] at h; cases h; exact Vb.nTxt_len _ _
theorem digsA_len (size : Nat) : ∀ (v acc : List UInt8) {x : List UInt8}, digsA size acc v = some x → x.length = acc.length + size * v.length
  | [], acc, x, h => by cases h; simp
  | c :: t, acc, x, h => by
    rw [digsA] at h
    cases hd : digT size c with
    | none => rw [hd] at h; cases h
    | some y =>
      rw [hd] at h
      have := digsA_len size t _ h
      rw [List.length_append, digT_len hd] at this
      rw [this, List.length_cons, Nat.mul_add]; omega
theorem digT_head {size : Nat} (hs : 1 ≤ size) {c : UInt8} {x : List UInt8} (h : digT size c = some x) : x.headD 0 = (if c = 120 ∨ c = 122 then c else x.headD 0) ∧ ((c = 120 ∨ c = 122) ∨ x.headD 0 = 48 ∨ x.headD 0 = 49) := by
  unfold digT at h
  by_cases h1 : c = 120 ∨ c = 122
  · rw [if_pos h1] at h; cases h
    rw [if_pos h1]
    refine ⟨?_, .inl h1⟩
    cases size with
    | zero => omega
    | succ k => rfl
  · rw [if_neg h1] at h
    rw [if_neg h1]
    refine ⟨rfl, .inr ?_⟩
    by_cases h2 : 2 ^ size ≤ hexV c
    · rw [if_pos h2] at h; cases h
    · rw [if_neg h2] at h; cases h
      have hk := Vb.nTxt_known size (hexV c)
      have hl := Vb.nTxt_len size (hexV c)
      cases hx : Vb.nTxt size (hexV c) with
      | nil => rw [hx] at hl; simp at hl; omega
      | cons e t =>
        rw [hx] at hk; simp [Vb.knB] at hk
        exact hk.1
/-- The letter that is put ahead, by the digits and by the bits. -/
theorem pad_is {size : Nat} (hs : 1 ≤ size) {v all : List UInt8} (hv : v ≠ []) (h : digsA size [] v = some all) : (if all.headD 0 = 49 then 48 else all.headD 0) = padC v := by
  cases v with
  | nil => exact absurd rfl hv
  | cons c t =>
    rw [digsA] at h
    cases hd : digT size c with
    | none => rw [hd] at h; cases h
    | some y =>
      rw [hd] at h
      have hy := digT_len hd
      have hh := digT_head hs hd
      have key : ∀ (t acc x : List UInt8), acc ≠ [] → digsA size acc t = some x → x.headD 0 = acc.headD 0 := by
        intro t
        induction t with
        | nil => intro acc x _ h; cases h; rfl
        | cons e t ih =>
          intro acc x ha h
          rw [digsA] at h
          cases he : digT size e with
          | none => rw [he] at h; cases h
          | some z =>
            rw [he] at h
            have := ih (acc ++ z) x (by simp [ha]) h
            rw [this]
            cases acc with
            | nil => exact absurd rfl ha
            | cons _ _ => rfl
      have hyn : y ≠ [] := by intro e; rw [e] at hy; simp at hy; omega
      have e := key t ([] ++ y) all (by simpa using hyn) h
      rw [List.nil_append] at e
      rw [e]
      unfold padC
      show _ = if c = 120 ∨ c = 122 then c else 48
      by_cases h1 : c = 120 ∨ c = 122
      · rw [if_pos h1]
        have h2 := hh.1
        rw [if_pos h1] at h2
        rw [h2, if_neg (by rcases h1 with rfl | rfl <;> decide)]
      · rw [if_neg h1]
        rcases hh.2 with h3 | h3 | h3
        · exact absurd h3 h1
        · rw [h3]; rfl
        · rw [h3]; rfl
/-- Ten times a number and a digit, modulo a power of two. -/
theorem ten_step (v d P : Nat) (hP : 0 < P) (hd : d ≤ 9) : (10 * (v % P) + d) % P = (10 * v + d) % P ∧ ((P ≤ v ∨ P ≤ 10 * (v % P) + d) ↔ P ≤ 10 * v + d) ∧ 10 * (v % P) + d < 16 * P := by
  have hlt := Nat.mod_lt v hP
  have e := Nat.div_add_mod v P
  refine ⟨?_, ?_, by omega⟩
  · conv => rhs; rw [← e]
    rw [Nat.mul_add, Nat.add_assoc, show 10 * (P * (v / P)) = P * (10 * (v / P)) by rw [← Nat.mul_assoc, Nat.mul_comm 10 P, Nat.mul_assoc], Nat.mul_add_mod]
  · constructor
    · rintro (h | h)
      · omega
      · have := Nat.mod_le v P; omega
    · intro h
      by_cases hv : P ≤ v
      · exact .inl hv
      · right; rw [Nat.mod_eq_of_lt (by omega)]; exact h
end Nb
namespace Nb
theorem num_rep48 (k : Nat) : Vb.num (List.replicate k 48) = 0 := by
  induction k with
  | zero => rfl
  | succ k ih => rw [List.replicate_succ, Vb.num_cons, ih, show (Vb.oneB 48).toNat = 0 from rfl, Nat.zero_mul]
theorem kn_rep48 (k : Nat) : (List.replicate k (48 : UInt8)).all Vb.knB = true := by
  rw [List.all_replicate]; simp; right; rfl
theorem split_nTxt (k n X : Nat) : Vb.nTxt (k + n) X = Vb.nTxt k (X / 2 ^ n) ++ Vb.nTxt n X := by
  refine Vb.known_ext (Vb.nTxt_known _ _) (by rw [List.all_append, Vb.nTxt_known, Vb.nTxt_known]; rfl) (by rw [List.length_append, Vb.nTxt_len, Vb.nTxt_len, Vb.nTxt_len]) ?_
  rw [Vb.num_append, Vb.num_nTxt, Vb.num_nTxt, Vb.num_nTxt, Vb.nTxt_len, Nat.add_comm k n, Nat.pow_add]
  rw [Nat.mod_mul, Nat.mul_comm (X / 2 ^ n % 2 ^ k)]; omega
theorem pad_nTxt (k n X : Nat) (h : X < 2 ^ n) : List.replicate k 48 ++ Vb.nTxt n X = Vb.nTxt (k + n) X := by
  rw [split_nTxt, Nat.div_eq_of_lt h]
  congr 1
  exact Vb.known_ext (kn_rep48 k) (Vb.nTxt_known _ _) (by rw [List.length_replicate, Vb.nTxt_len]) (by rw [num_rep48, Vb.num_nTxt, Nat.zero_mod])
end Nb
namespace Nb
/-- What NumberBits tells of a text. -/
def nbL (l : List UInt8) : List UInt8 × Bool × Nat :=
  if 1000 < l.length then ([], false, 2)
  else if ¬ ((numE l 0).2 = true ∧ (numE l 0).1 = l.length) then ([], false, 3)
  else if l.all digB = true then plain l
  else if l.getD (runE digB l 0 + 1) 0 = 115 then widthed (l.take (runE digB l 0)) true (l.getD (runE digB l 0 + 2) 0) (l.drop (runE digB l 0 + 3))
  else widthed (l.take (runE digB l 0)) false (l.getD (runE digB l 0 + 1) 0) (l.drop (runE digB l 0 + 2))
theorem num_parts {l : List UInt8} (h1 : (numE l 0).2 = true) (h2 : (numE l 0).1 = l.length) (hn : l.all digB = false) :
    1 ≤ runE digB l 0 ∧ runE digB l 0 + 1 < l.length ∧ (l.take (runE digB l 0)).all digB = true ∧ l.getD (runE digB l 0) 0 = 39 ∧
    ((l.getD (runE digB l 0 + 1) 0 = 115 ∧ runE digB l 0 + 2 < l.length ∧ baseB (l.getD (runE digB l 0 + 2) 0) = true ∧ l.drop (runE digB l 0 + 3) ≠ [] ∧ (l.drop (runE digB l 0 + 3)).all valB = true) ∨
     (l.getD (runE digB l 0 + 1) 0 ≠ 115 ∧ baseB (l.getD (runE digB l 0 + 1) 0) = true ∧ l.drop (runE digB l 0 + 2) ≠ [] ∧ (l.drop (runE digB l 0 + 2)).all valB = true)) := by
  have hD : ∀ j, j < runE digB l 0 → digB (l.getD j 0) = true := fun j hj => runE_all (Nat.zero_le _) hj
  have hle := runE_le (p := digB) (l := l) (Nat.zero_le _)
  have hV : ∀ i j, i ≤ j → j < runE valB l i → valB (l.getD j 0) = true := fun i j a b => runE_all a b
  unfold numE at h1 h2
  generalize runE digB l 0 = D at *
  by_cases c1 : D = 0 ∨ D = l.length ∨ l.getD D 0 ≠ 39
  · rw [if_pos c1] at h1 h2
    have h2 : D = l.length := h2
    rw [all_of_getD fun j hj => hD j (by omega)] at hn
    exact absurd hn (by decide)
  · rw [if_neg c1] at h1 h2
    have n1 : D ≠ 0 := fun e => c1 (.inl e)
    have n2 : l.getD D 0 = 39 := by
      by_cases e : l.getD D 0 = 39
      · exact e
      · exact absurd (.inr (.inr e)) c1
    have hd : (l.take D).all digB = true := all_of_getD fun j hj => by
      rw [List.length_take] at hj
      have := hD j (by omega)
      rwa [List.getD_eq_getElem?_getD, List.getElem?_take_of_lt (by omega), ← List.getD_eq_getElem?_getD]
    have tail : ∀ k, runE valB l k = l.length → k < l.length → l.drop k ≠ [] ∧ (l.drop k).all valB = true := fun k e hk => by
      refine ⟨by intro e2; have := congrArg List.length e2; rw [List.length_drop] at this; simp at this; omega, all_of_getD fun j hj => ?_⟩
      rw [List.length_drop] at hj
      rw [getD_drop]; exact hV k (k + j) (by omega) (by omega)
    by_cases c2 : l.getD (D + 1) 0 = 115
    · rw [if_pos c2] at h1 h2
      by_cases c3 : D + 2 = l.length ∨ baseB (l.getD (D + 2) 0) = false
      · rw [if_pos c3] at h1; simp at h1
      · rw [if_neg c3] at h1 h2
        have h2 : runE valB l (D + 3) = l.length := h2
        have h1 : D + 3 < runE valB l (D + 3) := by simpa using h1
        have hb : baseB (l.getD (D + 2) 0) = true := by
          cases e : baseB (l.getD (D + 2) 0)
          · exact absurd (.inr e) c3
          · rfl
        have t := tail (D + 3) h2 (by omega)
        exact ⟨by omega, by omega, hd, n2, .inl ⟨c2, by omega, hb, t.1, t.2⟩⟩
    · rw [if_neg c2] at h1 h2
      by_cases c3 : D + 1 = l.length ∨ baseB (l.getD (D + 1) 0) = false
      · rw [if_pos c3] at h1; simp at h1
      · rw [if_neg c3] at h1 h2
        have h2 : runE valB l (D + 2) = l.length := h2
        have h1 : D + 2 < runE valB l (D + 2) := by simpa using h1
        have hb : baseB (l.getD (D + 1) 0) = true := by
          cases e : baseB (l.getD (D + 1) 0)
          · exact absurd (.inr e) c3
          · rfl
        have t := tail (D + 2) h2 (by omega)
        exact ⟨by omega, by omega, hd, n2, .inr ⟨c2, hb, t.1, t.2⟩⟩
theorem base_cases {b : UInt8} (h : baseB b = true) : b = 98 ∨ b = 111 ∨ b = 104 ∨ b = 100 := by
  unfold baseB at h; simp at h; rcases h with ((h | h) | h) | h <;> simp [h]
end Nb
namespace Nb
def letB (c : UInt8) : Bool := (decide (97 ≤ c) && decide (c ≤ 122)) || (decide (65 ≤ c) && decide (c ≤ 90)) || c == 95
def nmB (c : UInt8) : Bool := letB c || digB c
/-- The length of the name that a text begins with. -/
def nameL : List UInt8 → Nat
  | [] => 0
  | c :: t => if letB c = true then 1 + (t.takeWhile nmB).length else 0
theorem nameL_cons (c : UInt8) (t : List UInt8) : nameL (c :: t) = if letB c = true then 1 + (t.takeWhile nmB).length else 0 := rfl
theorem nameL_pos {c : UInt8} {t : List UInt8} : 0 < nameL (c :: t) ↔ letB c = true := by
  rw [nameL_cons]
  by_cases h : letB c = true
  · rw [if_pos h]; exact ⟨fun _ => h, fun _ => by omega⟩
  · rw [if_neg h]; exact ⟨fun h' => by omega, fun h' => absurd h' h⟩
theorem nameL_le (l : List UInt8) : nameL l ≤ l.length := by
  cases l with
  | nil => exact Nat.le_refl _
  | cons c t =>
    rw [nameL_cons]
    have := takeWhile_le nmB t
    rw [List.length_cons]
    split <;> omega
/-- The name that begins at a place ends where the run of letters and digits behind its first letter ends. -/
theorem nameL_run {l : List UInt8} {a : Nat} (h : a < l.length) (hc : letB l[a] = true) : a + nameL (l.drop a) = runE nmB l (a + 1) := by
  rw [List.drop_eq_getElem_cons h, nameL_cons]
  unfold runE
  rw [if_pos hc]; omega
theorem nameL_none {l : List UInt8} {a : Nat} (h : a < l.length) (hc : letB l[a] = false) : nameL (l.drop a) = 0 := by
  rw [List.drop_eq_getElem_cons h, nameL_cons, if_neg (by rw [hc]; decide)]
def marksL : List (List UInt8) := [[61, 61, 61], [62, 62, 62], [60, 61], [62, 61], [61, 61], [33, 61], [60, 60], [62, 62], [38, 38], [124, 124], [46, 46], [43], [45], [42], [47], [37], [38], [124], [94], [126], [33], [60], [62], [61], [63], [58], [59], [44], [46], [40], [41], [91], [93], [123], [125], [35]]
def markL (l : List UInt8) : Option (List UInt8) := marksL.find? (·.isPrefixOf l)
theorem marksL_pos : marksL.all (fun m => decide (0 < m.length) && decide (m.length ≤ 3)) = true := by decide
theorem markL_some {l m : List UInt8} (h : markL l = some m) : m ∈ marksL ∧ m.isPrefixOf l = true := ⟨List.mem_of_find?_eq_some h, List.find?_some (p := fun m : List UInt8 => m.isPrefixOf l) h⟩
theorem markL_len {l m : List UInt8} (h : markL l = some m) : 0 < m.length ∧ m.length ≤ l.length ∧ l.take m.length = m := by
  obtain ⟨h1, h2⟩ := markL_some h
  have h3 := List.all_eq_true.1 marksL_pos m h1
  rw [Bool.and_eq_true, decide_eq_true_eq] at h3
  have h4 := List.isPrefixOf_iff_prefix.1 h2
  exact ⟨h3.1, h4.length_le, (List.prefix_iff_eq_take.1 h4).symm⟩
theorem marksL_dig : marksL.all (fun m => !(digB (m.getD 0 0))) = true := by decide
/-- No mark begins with a digit. -/
theorem markL_dig {c : UInt8} {t : List UInt8} (h : digB c = true) : markL (c :: t) = none := by
  unfold markL
  rw [List.find?_eq_none]
  intro m hm hp
  have h1 := List.all_eq_true.1 marksL_dig m hm
  have h2 := List.all_eq_true.1 marksL_pos m hm
  rw [Bool.and_eq_true, decide_eq_true_eq] at h2
  cases m with
  | nil => simp at h2
  | cons d m' =>
    have h4 := List.isPrefixOf_iff_prefix.1 hp
    obtain ⟨r, hr⟩ := h4
    rw [List.cons_append] at hr
    have : d = c := by injection hr
    subst this
    simp [h] at h1
/-- The token that a text begins with: its code, its kind and its size. -/
def tokL (l : List UInt8) : Nat × Nat × Nat :=
  if 0 < nameL l then (if 24 < nameL l then (5, 0, 0) else (0, 1, nameL l))
  else if 0 < numZ l then (0, 2, numZ l)
  else match markL l with
    | some m => (0, 3, m.length)
    | none => (3, 0, 0)
structure Tk where
  kind : Nat
  text : List UInt8
  at_ : Nat
theorem numE_le (l : List UInt8) (a : Nat) (ha : a ≤ l.length) : a ≤ (numE l a).1 ∧ (numE l a).1 ≤ l.length := by
  have h0 := le_runE digB l a
  have h1 := runE_le (p := digB) ha
  unfold numE
  by_cases c1 : runE digB l a = a ∨ runE digB l a = l.length ∨ l.getD (runE digB l a) 0 ≠ 39
  · rw [if_pos c1]; exact ⟨h0, h1⟩
  · rw [if_neg c1]
    have k1 : runE digB l a < l.length := by
      have : runE digB l a ≠ l.length := fun h => c1 (.inr (.inl h))
      omega
    by_cases c2 : l.getD (runE digB l a + 1) 0 = 115
    · have k2 := getD_lt (l := l) (i := runE digB l a + 1) (by rw [c2]; decide)
      rw [if_pos c2]
      by_cases c3 : runE digB l a + 2 = l.length ∨ baseB (l.getD (runE digB l a + 2) 0) = false
      · rw [if_pos c3]; exact ⟨by show a ≤ runE digB l a + 2; omega, by show runE digB l a + 2 ≤ l.length; omega⟩
      · rw [if_neg c3]
        have k3 : runE digB l a + 3 ≤ l.length := by
          have : runE digB l a + 2 ≠ l.length := fun h => c3 (.inl h)
          omega
        have := le_runE valB l (runE digB l a + 3)
        exact ⟨by show a ≤ runE valB l (runE digB l a + 3); omega, runE_le k3⟩
    · rw [if_neg c2]
      by_cases c3 : runE digB l a + 1 = l.length ∨ baseB (l.getD (runE digB l a + 1) 0) = false
      · rw [if_pos c3]; exact ⟨by show a ≤ runE digB l a + 1; omega, by show runE digB l a + 1 ≤ l.length; omega⟩
      · rw [if_neg c3]
        have k3 : runE digB l a + 2 ≤ l.length := by
          have : runE digB l a + 1 ≠ l.length := fun h => c3 (.inl h)
          omega
        have := le_runE valB l (runE digB l a + 2)
        exact ⟨by show a ≤ runE valB l (runE digB l a + 2); omega, runE_le k3⟩
theorem numZ_le (l : List UInt8) : numZ l ≤ l.length := by
  unfold numZ
  split
  · exact (numE_le l 0 (Nat.zero_le _)).2
  · omega
/-- A number begins with a digit. -/
theorem numE_dig {l : List UInt8} {a : Nat} (h : a < l.length) (hc : digB l[a] = false) : numE l a = (a, false) := by
  unfold numE
  rw [runE_stop h hc, if_pos (.inl rfl)]
  simp
theorem numZ_dig {c : UInt8} {t : List UInt8} (hc : digB c = false) : numZ (c :: t) = 0 := by
  unfold numZ
  rw [numE_dig (l := c :: t) (a := 0) (by simp) (by simpa using hc)]
  rfl
/-- A number that is one is not empty. -/
theorem numE_pos {l : List UInt8} {a : Nat} (h : (numE l a).2 = true) : a < (numE l a).1 := by
  have h0 := le_runE digB l a
  revert h
  unfold numE
  by_cases c1 : runE digB l a = a ∨ runE digB l a = l.length ∨ l.getD (runE digB l a) 0 ≠ 39
  · rw [if_pos c1]; intro h; exact of_decide_eq_true h
  · rw [if_neg c1]
    by_cases c2 : l.getD (runE digB l a + 1) 0 = 115
    · rw [if_pos c2]
      by_cases c3 : runE digB l a + 2 = l.length ∨ baseB (l.getD (runE digB l a + 2) 0) = false
      · rw [if_pos c3]; intro h; cases h
      · rw [if_neg c3]; intro h
        have : runE digB l a + 3 < runE valB l (runE digB l a + 3) := of_decide_eq_true h
        show a < runE valB l (runE digB l a + 3); omega
    · rw [if_neg c2]
      by_cases c3 : runE digB l a + 1 = l.length ∨ baseB (l.getD (runE digB l a + 1) 0) = false
      · rw [if_pos c3]; intro h; cases h
      · rw [if_neg c3]; intro h
        have : runE digB l a + 2 < runE valB l (runE digB l a + 2) := of_decide_eq_true h
        show a < runE valB l (runE digB l a + 2); omega
theorem tokL_fit {l : List UInt8} (h : (tokL l).1 = 0) : 0 < (tokL l).2.2 ∧ (tokL l).2.2 ≤ l.length := by
  revert h
  unfold tokL
  by_cases c1 : 0 < nameL l
  · rw [if_pos c1]
    by_cases c2 : 24 < nameL l
    · rw [if_pos c2]; intro h; cases h
    · rw [if_neg c2]; intro _; exact ⟨c1, nameL_le l⟩
  · rw [if_neg c1]
    by_cases c2 : 0 < numZ l
    · rw [if_pos c2]; intro _; exact ⟨c2, numZ_le l⟩
    · rw [if_neg c2]
      cases hm : markL l with
      | none => intro h; cases h
      | some m => intro _; have := markL_len hm; exact ⟨this.1, this.2.1⟩
/-- What the specification's switch says of the token at a place: three ways. -/
theorem tokL_name {l : List UInt8} {a : Nat} (h : a < l.length) (hc : letB l[a] = true) :
    tokL (l.drop a) = if 24 < runE nmB l (a + 1) - a then (5, 0, 0) else (0, 1, runE nmB l (a + 1) - a) := by
  have e := nameL_run h hc
  have p : 0 < nameL (l.drop a) := by rw [List.drop_eq_getElem_cons h]; exact nameL_pos.2 hc
  unfold tokL
  rw [if_pos p, show runE nmB l (a + 1) - a = nameL (l.drop a) by omega]
theorem let_not_dig {c : UInt8} (h : digB c = true) : letB c = false := by
  have key : ∀ n : Fin 256, (!(digB (UInt8.ofNat n.val)) || !(letB (UInt8.ofNat n.val))) = true := by decide +kernel
  have := key ⟨c.toNat, c.toNat_lt⟩
  simp only [UInt8.ofNat_toNat, h, Bool.not_true, Bool.false_or] at this
  simpa using this
theorem tokL_num {l : List UInt8} {a : Nat} (h : a < l.length) (hc : digB l[a] = true) :
    tokL (l.drop a) = if (numE l a).2 = true then (0, 2, (numE l a).1 - a) else (3, 0, 0) := by
  obtain ⟨e1, e2⟩ := numE_drop l a (by omega)
  have n0 := nameL_none h (let_not_dig hc)
  unfold tokL
  rw [if_neg (by omega)]
  by_cases hn : (numE l a).2 = true
  · have hp := numE_pos hn
    have z : numZ (l.drop a) = (numE l a).1 - a := by unfold numZ; rw [if_pos (by rw [← e2]; exact hn)]; omega
    rw [if_pos hn, z, if_pos (by omega)]
  · have z : numZ (l.drop a) = 0 := by unfold numZ; rw [if_neg (by rw [← e2]; exact hn)]
    rw [if_neg hn, z, if_neg (by omega), List.drop_eq_getElem_cons h, markL_dig hc]
theorem tokL_mark {l : List UInt8} {a : Nat} (h : a < l.length) (hc : letB l[a] = false) (hd : digB l[a] = false) :
    tokL (l.drop a) = match markL (l.drop a) with | some m => (0, 3, m.length) | none => (3, 0, 0) := by
  have n0 := nameL_none h hc
  have z : numZ (l.drop a) = 0 := by rw [List.drop_eq_getElem_cons h]; exact numZ_dig hd
  unfold tokL
  rw [if_neg (by omega), if_neg (by omega)]
/-- The tokens of a text from a place on, behind those that were found. -/
def toksL (l : List UInt8) (a : Nat) (out : List Tk) : List Tk × Nat × Nat :=
  if h : a < l.length then
    if l[a] = 32 ∨ l[a] = 10 then toksL l (a + 1) out
    else if (tokL (l.drop a)).1 ≠ 0 then ([], (tokL (l.drop a)).1, a)
    else if out.length = 16384 then ([], 10, a)
    else if (tokL (l.drop a)).2.2 = 0 then ([], 0, 0)
    else toksL l (a + (tokL (l.drop a)).2.2) (out ++ [⟨(tokL (l.drop a)).2.1, (l.drop a).take (tokL (l.drop a)).2.2, a⟩])
  else (out, 0, 0)
  termination_by l.length - a
theorem toksL_end {l : List UInt8} {a : Nat} {out : List Tk} (h : l.length ≤ a) : toksL l a out = (out, 0, 0) := by
  rw [toksL, dif_neg (by omega)]
theorem toksL_skip {l : List UInt8} {a : Nat} {out : List Tk} (h : a < l.length) (hc : l[a] = 32 ∨ l[a] = 10) : toksL l a out = toksL l (a + 1) out := by
  rw [toksL, dif_pos h, if_pos hc]
theorem toksL_bad {l : List UInt8} {a : Nat} {out : List Tk} (h : a < l.length) (hc : ¬ (l[a] = 32 ∨ l[a] = 10)) (ht : (tokL (l.drop a)).1 ≠ 0) : toksL l a out = ([], (tokL (l.drop a)).1, a) := by
  rw [toksL, dif_pos h, if_neg hc, if_pos ht]
theorem toksL_many {l : List UInt8} {a : Nat} {out : List Tk} (h : a < l.length) (hc : ¬ (l[a] = 32 ∨ l[a] = 10)) (ht : (tokL (l.drop a)).1 = 0) (ho : out.length = 16384) : toksL l a out = ([], 10, a) := by
  rw [toksL, dif_pos h, if_neg hc, if_neg (by rw [ht]; decide), if_pos ho]
theorem toksL_step {l : List UInt8} {a : Nat} {out : List Tk} (h : a < l.length) (hc : ¬ (l[a] = 32 ∨ l[a] = 10)) (ht : (tokL (l.drop a)).1 = 0) (ho : out.length ≠ 16384) :
    toksL l a out = toksL l (a + (tokL (l.drop a)).2.2) (out ++ [⟨(tokL (l.drop a)).2.1, (l.drop a).take (tokL (l.drop a)).2.2, a⟩]) := by
  have := tokL_fit ht
  rw [toksL, dif_pos h, if_neg hc, if_neg (by rw [ht]; decide), if_neg ho, if_neg (by omega)]
/-- Never more tokens than the bound. -/
theorem toksL_len {l : List UInt8} : ∀ (n a : Nat) (out : List Tk), l.length - a ≤ n → out.length ≤ 16384 → (toksL l a out).1.length ≤ 16384 := by
  intro n
  induction n with
  | zero => intro a out h ho; rw [toksL_end (by omega)]; exact ho
  | succ n ih =>
    intro a out h ho
    by_cases h1 : a < l.length
    · by_cases h2 : l[a] = 32 ∨ l[a] = 10
      · rw [toksL_skip h1 h2]; exact ih _ _ (by omega) ho
      · by_cases h3 : (tokL (l.drop a)).1 = 0
        · by_cases h4 : out.length = 16384
          · rw [toksL_many h1 h2 h3 h4]; exact Nat.zero_le _
          · rw [toksL_step h1 h2 h3 h4]
            have := tokL_fit h3
            exact ih _ _ (by omega) (by rw [List.length_append, List.length_singleton]; omega)
        · rw [toksL_bad h1 h2 h3]; exact Nat.zero_le _
    · rw [toksL_end (by omega)]; exact ho
end Nb
