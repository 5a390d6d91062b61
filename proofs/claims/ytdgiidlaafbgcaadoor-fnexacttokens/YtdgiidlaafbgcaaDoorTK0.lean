/- Plain facts on texts: names, marks and the tokens of a text, as both programs tell them. -/
import Derived.Test.YtdgiidlaafbgcaaDoorNB0
namespace Nb
def letB (c : UInt8) : Bool := (decide (97 ≤ c) && decide (c ≤ 122)) || (decide (65 ≤ c) && decide (c ≤ 90)) || c == 95
def nmB (c : UInt8) : Bool := letB c || digB c
/-- The length of the name that a text begins with. -/
def nameL : List UInt8 → Nat
  | [] => 0
  | c :: t => if letB c = true then 1 + (t.takeWhile nmB).length else 0
theorem nameL_cons (c : UInt8) (t : List UInt8) : nameL (c :: t) = if letB c = true then 1 + (t.takeWhile nmB).length else 0 := rfl
theorem nameL_pos {c : UInt8} {t : List UInt8} : 0 < nameL (c :: t) ↔ letB c = true := by
  rw [nameL_cons]
  by_cases h : letB c = true
  · rw [if_pos h]; exact ⟨fun _ => h, fun _ => by omega⟩
  · rw [if_neg h]; exact ⟨fun h' => by omega, fun h' => absurd h' h⟩
theorem nameL_le (l : List UInt8) : nameL l ≤ l.length := by
  cases l with
  | nil => exact Nat.le_refl _
  | cons c t =>
    rw [nameL_cons]
    have := takeWhile_le nmB t
    rw [List.length_cons]
    split <;> omega
/-- The name that begins at a place ends where the run of letters and digits behind its first letter ends. -/
theorem nameL_run {l : List UInt8} {a : Nat} (h : a < l.length) (hc : letB l[a] = true) : a + nameL (l.drop a) = runE nmB l (a + 1) := by
  rw [List.drop_eq_getElem_cons h, nameL_cons]
  unfold runE
  rw [if_pos hc]; omega
theorem nameL_none {l : List UInt8} {a : Nat} (h : a < l.length) (hc : letB l[a] = false) : nameL (l.drop a) = 0 := by
  rw [List.drop_eq_getElem_cons h, nameL_cons, if_neg (by rw [hc]; decide)]
def marksL : List (List UInt8) := [[61, 61, 61], [62, 62, 62], [60, 61], [62, 61], [61, 61], [33, 61], [60, 60], [62, 62], [38, 38], [124, 124], [46, 46], [43], [45], [42], [47], [37], [38], [124], [94], [126], [33], [60], [62], [61], [63], [58], [59], [44], [46], [40], [41], [91], [93], [123], [125], [35]]
def markL (l : List UInt8) : Option (List UInt8) := marksL.find? (·.isPrefixOf l)
theorem marksL_pos : marksL.all (fun m => decide (0 < m.length) && decide (m.length ≤ 3)) = true := by decide
theorem markL_some {l m : List UInt8} (h : markL l = some m) : m ∈ marksL ∧ m.isPrefixOf l = true := ⟨List.mem_of_find?_eq_some h, List.find?_some (p := fun m : List UInt8 => m.isPrefixOf l) h⟩
theorem markL_len {l m : List UInt8} (h : markL l = some m) : 0 < m.length ∧ m.length ≤ l.length ∧ l.take m.length = m := by
  obtain ⟨h1, h2⟩ := markL_some h
  have h3 := List.all_eq_true.1 marksL_pos m h1
  rw [Bool.and_eq_true, decide_eq_true_eq] at h3
  have h4 := List.isPrefixOf_iff_prefix.1 h2
  exact ⟨h3.1, h4.length_le, (List.prefix_iff_eq_take.1 h4).symm⟩
theorem marksL_dig : marksL.all (fun m => !(digB (m.getD 0 0))) = true := by decide
/-- No mark begins with a digit. -/
theorem markL_dig {c : UInt8} {t : List UInt8} (h : digB c = true) : markL (c :: t) = none := by
  unfold markL
  rw [List.find?_eq_none]
  intro m hm hp
  have h1 := List.all_eq_true.1 marksL_dig m hm
  have h2 := List.all_eq_true.1 marksL_pos m hm
  rw [Bool.and_eq_true, decide_eq_true_eq] at h2
  cases m with
  | nil => simp at h2
  | cons d m' =>
    have h4 := List.isPrefixOf_iff_prefix.1 hp
    obtain ⟨r, hr⟩ := h4
    rw [List.cons_append] at hr
    have : d = c := by injection hr
    subst this
    simp [h] at h1
/-- The token that a text begins with: its code, its kind and its size. -/
def tokL (l : List UInt8) : Nat × Nat × Nat :=
  if 0 < nameL l then (if 24 < nameL l then (5, 0, 0) else (0, 1, nameL l))
  else if 0 < numZ l then (0, 2, numZ l)
  else match markL l with
    | some m => (0, 3, m.length)
    | none => (3, 0, 0)
structure Tk where
  kind : Nat
  text : List UInt8
  at_ : Nat
theorem numE_le (l : List UInt8) (a : Nat) (ha : a ≤ l.length) : a ≤ (numE l a).1 ∧ (numE l a).1 ≤ l.length := by
  have h0 := le_runE digB l a
  have h1 := runE_le (p := digB) ha
  unfold numE
  by_cases c1 : runE digB l a = a ∨ runE digB l a = l.length ∨ l.getD (runE digB l a) 0 ≠ 39
  · rw [if_pos c1]; exact ⟨h0, h1⟩
  · rw [if_neg c1]
    have k1 : runE digB l a < l.length := by
      have : runE digB l a ≠ l.length := fun h => c1 (.inr (.inl h))
      omega
    by_cases c2 : l.getD (runE digB l a + 1) 0 = 115
    · have k2 := getD_lt (l := l) (i := runE digB l a + 1) (by rw [c2]; decide)
      rw [if_pos c2]
      by_cases c3 : runE digB l a + 2 = l.length ∨ baseB (l.getD (runE digB l a + 2) 0) = false
      · rw [if_pos c3]; exact ⟨by show a ≤ runE digB l a + 2; omega, by show runE digB l a + 2 ≤ l.length; omega⟩
      · rw [if_neg c3]
        have k3 : runE digB l a + 3 ≤ l.length := by
          have : runE digB l a + 2 ≠ l.length := fun h => c3 (.inl h)
          omega
        have := le_runE valB l (runE digB l a + 3)
        exact ⟨by show a ≤ runE valB l (runE digB l a + 3); omega, runE_le k3⟩
    · rw [if_neg c2]
      by_cases c3 : runE digB l a + 1 = l.length ∨ baseB (l.getD (runE digB l a + 1) 0) = false
      · rw [if_pos c3]; exact ⟨by show a ≤ runE digB l a + 1; omega, by show runE digB l a + 1 ≤ l.length; omega⟩
      · rw [if_neg c3]
        have k3 : runE digB l a + 2 ≤ l.length := by
          have : runE digB l a + 1 ≠ l.length := fun h => c3 (.inl h)
          omega
        have := le_runE valB l (runE digB l a + 2)
        exact ⟨by show a ≤ runE valB l (runE digB l a + 2); omega, runE_le k3⟩
theorem numZ_le (l : List UInt8) : numZ l ≤ l.length := by
  unfold numZ
  split
  · exact (numE_le l 0 (Nat.zero_le _)).2
  · omega
/-- A number begins with a digit. -/
theorem numE_dig {l : List UInt8} {a : Nat} (h : a < l.length) (hc : digB l[a] = false) : numE l a = (a, false) := by
  unfold numE
  rw [runE_stop h hc, if_pos (.inl rfl)]
  simp
theorem numZ_dig {c : UInt8} {t : List UInt8} (hc : digB c = false) : numZ (c :: t) = 0 := by
  unfold numZ
  rw [numE_dig (l := c :: t) (a := 0) (by simp) (by simpa using hc)]
  rfl
/-- A number that is one is not empty. -/
theorem numE_pos {l : List UInt8} {a : Nat} (h : (numE l a).2 = true) : a < (numE l a).1 := by
  have h0 := le_runE digB l a
  revert h
  unfold numE
  by_cases c1 : runE digB l a = a ∨ runE digB l a = l.length ∨ l.getD (runE digB l a) 0 ≠ 39
  · rw [if_pos c1]; intro h; exact of_decide_eq_true h
  · rw [if_neg c1]
    by_cases c2 : l.getD (runE digB l a + 1) 0 = 115
    · rw [if_pos c2]
      by_cases c3 : runE digB l a + 2 = l.length ∨ baseB (l.getD (runE digB l a + 2) 0) = false
      · rw [if_pos c3]; intro h; cases h
      · rw [if_neg c3]; intro h
        have : runE digB l a + 3 < runE valB l (runE digB l a + 3) := of_decide_eq_true h
        show a < runE valB l (runE digB l a + 3); omega
    · rw [if_neg c2]
      by_cases c3 : runE digB l a + 1 = l.length ∨ baseB (l.getD (runE digB l a + 1) 0) = false
      · rw [if_pos c3]; intro h; cases h
      · rw [if_neg c3]; intro h
        have : runE digB l a + 2 < runE valB l (runE digB l a + 2) := of_decide_eq_true h
        show a < runE valB l (runE digB l a + 2); omega
theorem tokL_fit {l : List UInt8} (h : (tokL l).1 = 0) : 0 < (tokL l).2.2 ∧ (tokL l).2.2 ≤ l.length := by
  revert h
  unfold tokL
  by_cases c1 : 0 < nameL l
  · rw [if_pos c1]
    by_cases c2 : 24 < nameL l
    · rw [if_pos c2]; intro h; cases h
    · rw [if_neg c2]; intro _; exact ⟨c1, nameL_le l⟩
  · rw [if_neg c1]
    by_cases c2 : 0 < numZ l
    · rw [if_pos c2]; intro _; exact ⟨c2, numZ_le l⟩
    · rw [if_neg c2]
      cases hm : markL l with
      | none => intro h; cases h
      | some m => intro _; have := markL_len hm; exact ⟨this.1, this.2.1⟩
/-- What the specification's switch says of the token at a place: three ways. -/
theorem tokL_name {l : List UInt8} {a : Nat} (h : a < l.length) (hc : letB l[a] = true) :
    tokL (l.drop a) = if 24 < runE nmB l (a + 1) - a then (5, 0, 0) else (0, 1, runE nmB l (a + 1) - a) := by
  have e := nameL_run h hc
  have p : 0 < nameL (l.drop a) := by rw [List.drop_eq_getElem_cons h]; exact nameL_pos.2 hc
  unfold tokL
  rw [if_pos p, show runE nmB l (a + 1) - a = nameL (l.drop a) by omega]
theorem let_not_dig {c : UInt8} (h : digB c = true) : letB c = false := by
  have key : ∀ n : Fin 256, (!(digB (UInt8.ofNat n.val)) || !(letB (UInt8.ofNat n.val))) = true := by decide +kernel
  have := key ⟨c.toNat, c.toNat_lt⟩
  simp only [UInt8.ofNat_toNat, h, Bool.not_true, Bool.false_or] at this
  simpa using this
theorem tokL_num {l : List UInt8} {a : Nat} (h : a < l.length) (hc : digB l[a] = true) :
    tokL (l.drop a) = if (numE l a).2 = true then (0, 2, (numE l a).1 - a) else (3, 0, 0) := by
  obtain ⟨e1, e2⟩ := numE_drop l a (by omega)
  have n0 := nameL_none h (let_not_dig hc)
  unfold tokL
  rw [if_neg (by omega)]
  by_cases hn : (numE l a).2 = true
  · have hp := numE_pos hn
    have z : numZ (l.drop a) = (numE l a).1 - a := by unfold numZ; rw [if_pos (by rw [← e2]; exact hn)]; omega
    rw [if_pos hn, z, if_pos (by omega)]
  · have z : numZ (l.drop a) = 0 := by unfold numZ; rw [if_neg (by rw [← e2]; exact hn)]
    rw [if_neg hn, z, if_neg (by omega), List.drop_eq_getElem_cons h, markL_dig hc]
theorem tokL_mark {l : List UInt8} {a : Nat} (h : a < l.length) (hc : letB l[a] = false) (hd : digB l[a] = false) :
    tokL (l.drop a) = match markL (l.drop a) with | some m => (0, 3, m.length) | none => (3, 0, 0) := by
  have n0 := nameL_none h hc
  have z : numZ (l.drop a) = 0 := by rw [List.drop_eq_getElem_cons h]; exact numZ_dig hd
  unfold tokL
  rw [if_neg (by omega), if_neg (by omega)]
/-- The tokens of a text from a place on, behind those that were found. -/
def toksL (l : List UInt8) (a : Nat) (out : List Tk) : List Tk × Nat × Nat :=
  if h : a < l.length then
    if l[a] = 32 ∨ l[a] = 10 then toksL l (a + 1) out
    else if (tokL (l.drop a)).1 ≠ 0 then ([], (tokL (l.drop a)).1, a)
    else if out.length = 16384 then ([], 10, a)
    else if (tokL (l.drop a)).2.2 = 0 then ([], 0, 0)
    else toksL l (a + (tokL (l.drop a)).2.2) (out ++ [⟨(tokL (l.drop a)).2.1, (l.drop a).take (tokL (l.drop a)).2.2, a⟩])
  else (out, 0, 0)
  termination_by l.length - a
theorem toksL_end {l : List UInt8} {a : Nat} {out : List Tk} (h : l.length ≤ a) : toksL l a out = (out, 0, 0) := by
  rw [toksL, dif_neg (by omega)]
theorem toksL_skip {l : List UInt8} {a : Nat} {out : List Tk} (h : a < l.length) (hc : l[a] = 32 ∨ l[a] = 10) : toksL l a out = toksL l (a + 1) out := by
  rw [toksL, dif_pos h, if_pos hc]
theorem toksL_bad {l : List UInt8} {a : Nat} {out : List Tk} (h : a < l.length) (hc : ¬ (l[a] = 32 ∨ l[a] = 10)) (ht : (tokL (l.drop a)).1 ≠ 0) : toksL l a out = ([], (tokL (l.drop a)).1, a) := by
  rw [toksL, dif_pos h, if_neg hc, if_pos ht]
theorem toksL_many {l : List UInt8} {a : Nat} {out : List Tk} (h : a < l.length) (hc : ¬ (l[a] = 32 ∨ l[a] = 10)) (ht : (tokL (l.drop a)).1 = 0) (ho : out.length = 16384) : toksL l a out = ([], 10, a) := by
  rw [toksL, dif_pos h, if_neg hc, if_neg (by rw [ht]; decide), if_pos ho]
theorem toksL_step {l : List UInt8} {a : Nat} {out : List Tk} (h : a < l.length) (hc : ¬ (l[a] = 32 ∨ l[a] = 10)) (ht : (tokL (l.drop a)).1 = 0) (ho : out.length ≠ 16384) :
    toksL l a out = toksL l (a + (tokL (l.drop a)).2.2) (out ++ [⟨(tokL (l.drop a)).2.1, (l.drop a).take (tokL (l.drop a)).2.2, a⟩]) := by
  have := tokL_fit ht
  rw [toksL, dif_pos h, if_neg hc, if_neg (by rw [ht]; decide), if_neg ho, if_neg (by omega)]
/-- Never more tokens than the bound. -/
theorem toksL_len {l : List UInt8} : ∀ (n a : Nat) (out : List Tk), l.length - a ≤ n → out.length ≤ 16384 → (toksL l a out).1.length ≤ 16384 := by
  intro n
  induction n with
  | zero => intro a out h ho; rw [toksL_end (by omega)]; exact ho
  | succ n ih =>
    intro a out h ho
    by_cases h1 : a < l.length
    · by_cases h2 : l[a] = 32 ∨ l[a] = 10
      · rw [toksL_skip h1 h2]; exact ih _ _ (by omega) ho
      · by_cases h3 : (tokL (l.drop a)).1 = 0
        · by_cases h4 : out.length = 16384
          · rw [toksL_many h1 h2 h3 h4]; exact Nat.zero_le _
          · rw [toksL_step h1 h2 h3 h4]
            have := tokL_fit h3
            exact ih _ _ (by omega) (by rw [List.length_append, List.length_singleton]; omega)
        · rw [toksL_bad h1 h2 h3]; exact Nat.zero_le _
    · rw [toksL_end (by omega)]; exact ho
end Nb
