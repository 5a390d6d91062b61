/- Plain facts on texts of four letters and words of 64 bits. -/
namespace Vb

/-- The letters 0, 1, x, z. -/
def isV (c : UInt8) : Bool := c == 48 || c == 49 || c == 120 || c == 122
def knB (c : UInt8) : Bool := c == 48 || c == 49
def whB (c : UInt8) : Bool := c == 49 || c == 122
def okV (l : List UInt8) : Bool := decide (1 ≤ l.length) && (decide (l.length ≤ 64) && l.all isV)
def letter (k h : Bool) : UInt8 := if k then (if h then 49 else 48) else (if h then 122 else 120)

theorem letter_of (c : UInt8) (h : isV c = true) : letter (knB c) (whB c) = c := by
  unfold isV at h
  simp only [Bool.or_eq_true, beq_iff_eq] at h
  rcases h with ((rfl | rfl) | rfl) | rfl <;> rfl

def push (p : UInt8 → Bool) (a : BitVec 64) (c : UInt8) : BitVec 64 := (a <<< 1) ||| (if p c then 1#64 else 0#64)
/-- The word whose bit i is p of the letter that stands i places from the right. -/
def word (p : UInt8 → Bool) (l : List UInt8) : BitVec 64 := l.foldl (push p) 0#64
theorem word_nil (p : UInt8 → Bool) : word p [] = 0#64 := rfl
theorem word_snoc (p : UInt8 → Bool) (l : List UInt8) (c : UInt8) : word p (l ++ [c]) = push p (word p l) c := by
  simp [word, List.foldl_append]

theorem getLsbD_push (p : UInt8 → Bool) (a : BitVec 64) (c : UInt8) (i : Nat) :
    (push p a c).getLsbD i = (decide (i < 64) && (if i = 0 then p c else a.getLsbD (i - 1))) := by
  unfold push
  rw [BitVec.getLsbD_or, BitVec.getLsbD_shiftLeft]
  rcases Nat.eq_zero_or_pos i with rfl | hi
  · cases p c <;> simp
  · have h0 : i ≠ 0 := by omega
    have h1 : ¬ i < 1 := by omega
    cases p c <;> simp [h0, h1, BitVec.getLsbD_one]

/-- The letter that stands i places from the right. -/
def rat (l : List UInt8) (i : Nat) : Option UInt8 := l.reverse[i]?

theorem rat_snoc (l : List UInt8) (c : UInt8) (i : Nat) : rat (l ++ [c]) i = if i = 0 then some c else rat l (i - 1) := by
  unfold rat
  rw [List.reverse_append]
  cases i <;> simp

theorem getLsbD_word (p : UInt8 → Bool) (l : List UInt8) (i : Nat) :
    (word p l).getLsbD i = (decide (i < 64) && ((rat l i).map p).getD false) := by
  have h : ∀ (r : List UInt8) (i : Nat), (word p r.reverse).getLsbD i = (decide (i < 64) && ((r[i]?).map p).getD false) := by
    intro r
    induction r with
    | nil => intro i; simp [word_nil]
    | cons c r ih =>
      intro i
      rw [List.reverse_cons, word_snoc, getLsbD_push]
      cases i with
      | zero => simp
      | succ i =>
        simp only [Nat.add_one_ne_zero, if_false, Nat.add_sub_cancel, ih, List.getElem?_cons_succ]
        by_cases h : i + 1 < 64
        · have : i < 64 := by omega
          simp [h, this]
        · simp [h]
  have := h l.reverse i
  rwa [List.reverse_reverse] at this

/-- The text of a vector: the highest bit first. -/
def txt : Nat → BitVec 64 → BitVec 64 → List UInt8
  | 0, _, _ => []
  | n + 1, k, h => letter (k.getLsbD n) (h.getLsbD n) :: txt n k h

theorem txt_len (n : Nat) (k h : BitVec 64) : (txt n k h).length = n := by
  induction n with
  | zero => rfl
  | succ n ih => simp [txt, ih]

theorem rat_cons (c : UInt8) (l : List UInt8) (i : Nat) : rat (c :: l) i = if i < l.length then rat l i else if i = l.length then some c else none := by
  unfold rat
  rw [List.reverse_cons, List.getElem?_append]
  simp only [List.length_reverse]
  by_cases h : i < l.length
  · simp [h]
  · by_cases e : i = l.length
    · subst e; simp
    · have : i - l.length ≠ 0 := by omega
      obtain ⟨m, hm⟩ := Nat.exists_eq_succ_of_ne_zero this
      simp [h, e, hm]

theorem rat_txt (n : Nat) (k h : BitVec 64) (i : Nat) : rat (txt n k h) i = if i < n then some (letter (k.getLsbD i) (h.getLsbD i)) else none := by
  induction n with
  | zero => simp [txt, rat]
  | succ n ih =>
    rw [txt, rat_cons, txt_len, ih]
    by_cases h1 : i < n
    · have : i < n + 1 := by omega
      simp [h1, this]
    · by_cases h2 : i = n
      · subst h2; simp
      · have : ¬ i < n + 1 := by omega
        simp [h1, h2, this]

theorem rat_ext {a b : List UInt8} (h : ∀ i, rat a i = rat b i) : a = b := by
  have : a.reverse = b.reverse := List.ext_getElem? h
  simpa using congrArg List.reverse this

theorem rat_none {l : List UInt8} {i : Nat} (h : l.length ≤ i) : rat l i = none := by
  unfold rat; simp [h]
theorem rat_some {l : List UInt8} {i : Nat} (h : i < l.length) : ∃ c, rat l i = some c ∧ c ∈ l := by
  unfold rat
  have h' : i < l.reverse.length := by simpa using h
  exact ⟨l.reverse[i], by rw [List.getElem?_eq_getElem h'], by simp⟩

def kn (l : List UInt8) : BitVec 64 := word knB l
def wh (l : List UInt8) : BitVec 64 := word whB l

theorem txt_of {l : List UInt8} (h : l.all isV = true) (hl : l.length ≤ 64) : txt l.length (kn l) (wh l) = l := by
  apply rat_ext
  intro i
  rw [rat_txt]
  by_cases hi : i < l.length
  · obtain ⟨c, hc, hm⟩ := rat_some hi
    have hv : isV c = true := by
      rw [List.all_eq_true] at h; exact h c hm
    have h64 : i < 64 := by omega
    simp only [hi, if_true, kn, wh, getLsbD_word, hc, h64, decide_true, Bool.true_and, Option.map_some, Option.getD_some]
    rw [letter_of c hv]
  · rw [if_neg hi, rat_none (by omega)]


def oneB (c : UInt8) : Bool := c == 49
/-- The number that a text of 0 and 1 tells. -/
def num (l : List UInt8) : Nat := l.foldl (fun a c => 2 * a + (oneB c).toNat) 0
theorem num_nil : num [] = 0 := rfl
theorem num_snoc (l : List UInt8) (c : UInt8) : num (l ++ [c]) = 2 * num l + (oneB c).toNat := by
  simp [num, List.foldl_append]
theorem num_append (a b : List UInt8) : num (a ++ b) = num a * 2 ^ b.length + num b := by
  have h : ∀ r : List UInt8, num (a ++ r.reverse) = num a * 2 ^ r.length + num r.reverse := by
    intro r
    induction r with
    | nil => simp [num_nil]
    | cons c r ih =>
      rw [List.reverse_cons, ← List.append_assoc, num_snoc, num_snoc, ih, List.length_cons, Nat.pow_succ, Nat.mul_add]
      have : 2 * (num a * 2 ^ r.length) = num a * (2 ^ r.length * 2) := by
        rw [Nat.mul_left_comm, Nat.mul_comm 2 (2 ^ r.length)]
      omega
  have := h b.reverse
  rwa [List.reverse_reverse, List.length_reverse] at this
theorem num_cons (c : UInt8) (l : List UInt8) : num (c :: l) = (oneB c).toNat * 2 ^ l.length + num l := by
  have := num_append [c] l
  simpa [num] using this
theorem num_lt (l : List UInt8) : num l < 2 ^ l.length := by
  induction l with
  | nil => simp [num_nil]
  | cons c l ih =>
    rw [num_cons, List.length_cons, Nat.pow_succ]
    cases oneB c <;> simp <;> omega
theorem testBit_num (l : List UInt8) (i : Nat) : (num l).testBit i = ((rat l i).map oneB).getD false := by
  have h : ∀ (r : List UInt8) (i : Nat), (num r.reverse).testBit i = ((r[i]?).map oneB).getD false := by
    intro r
    induction r with
    | nil => intro i; simp [num_nil]
    | cons c r ih =>
      intro i
      rw [List.reverse_cons, num_snoc]
      cases i with
      | zero => cases hc : oneB c <;> simp [Nat.testBit_zero, hc] <;> omega
      | succ i =>
        rw [Nat.testBit_succ]
        have e : (2 * num r.reverse + (oneB c).toNat) / 2 = num r.reverse := by cases oneB c <;> simp <;> omega
        rw [e, ih]; simp
  have := h l.reverse i
  rwa [List.reverse_reverse] at this
theorem known_bit {c : UInt8} (h : knB c = true) : c = if oneB c then 49 else 48 := by
  unfold knB at h
  simp only [Bool.or_eq_true, beq_iff_eq] at h
  rcases h with rfl | rfl <;> rfl
theorem known_ext {a b : List UInt8} (ha : a.all knB = true) (hb : b.all knB = true) (hl : a.length = b.length) (hn : num a = num b) : a = b := by
  apply rat_ext
  intro i
  by_cases hi : i < a.length
  · obtain ⟨c, hc, hm⟩ := rat_some hi
    obtain ⟨d, hd, hm'⟩ := rat_some (l := b) (i := i) (by omega)
    have h1 := testBit_num a i
    have h2 := testBit_num b i
    rw [hn, h2, hc, hd] at h1
    simp only [Option.map_some, Option.getD_some] at h1
    rw [hc, hd, known_bit (List.all_eq_true.1 ha c hm), known_bit (List.all_eq_true.1 hb d hm'), h1]
  · rw [rat_none (by omega), rat_none (by omega)]

/-- The text of a number's lowest n bits. -/
def nTxt : Nat → Nat → List UInt8
  | 0, _ => []
  | n + 1, v => (if v.testBit n then 49 else 48) :: nTxt n v
theorem nTxt_len (n v : Nat) : (nTxt n v).length = n := by
  induction n with
  | zero => rfl
  | succ n ih => simp [nTxt, ih]
theorem nTxt_known (n v : Nat) : (nTxt n v).all knB = true := by
  induction n with
  | zero => rfl
  | succ n ih =>
    rw [nTxt, List.all_cons, ih]
    cases v.testBit n <;> rfl
theorem num_nTxt (n v : Nat) : num (nTxt n v) = v % 2 ^ n := by
  induction n with
  | zero => simp [nTxt, num_nil, Nat.mod_one]
  | succ n ih =>
    rw [nTxt, num_cons, nTxt_len, ih]
    have h : v % 2 ^ (n + 1) = 2 ^ n * (v / 2 ^ n % 2) + v % 2 ^ n := by
      rw [Nat.pow_succ, Nat.mod_mul]; omega
    rw [h, Nat.testBit_eq_decide_div_mod_eq]
    have : v / 2 ^ n % 2 = 0 ∨ v / 2 ^ n % 2 = 1 := by omega
    rcases this with e | e <;> simp [e, oneB, Nat.mul_comm]
theorem eq_nTxt {l : List UInt8} {v : Nat} (h : l.all knB = true) (hn : num l = v % 2 ^ l.length) : l = nTxt l.length v :=
  known_ext h (nTxt_known _ _) (nTxt_len _ _).symm (by rw [num_nTxt, hn])
theorem nTxt_congr {n u v : Nat} (h : u % 2 ^ n = v % 2 ^ n) : nTxt n u = nTxt n v :=
  known_ext (nTxt_known _ _) (nTxt_known _ _) (by simp [nTxt_len]) (by rw [num_nTxt, num_nTxt, h])
theorem nTxt_num {l : List UInt8} (h : l.all knB = true) : nTxt l.length (num l) = l :=
  (eq_nTxt h (Nat.mod_eq_of_lt (num_lt l)).symm).symm
theorem rat_nTxt (n v i : Nat) : rat (nTxt n v) i = if i < n then some (if v.testBit i then 49 else 48) else none := by
  induction n with
  | zero => simp [nTxt, rat]
  | succ n ih =>
    rw [nTxt, rat_cons, nTxt_len, ih]
    by_cases h1 : i < n
    · have : i < n + 1 := by omega
      simp [h1, this]
    · by_cases h2 : i = n
      · subst h2; simp
      · have : ¬ i < n + 1 := by omega
        simp [h1, h2, this]

/-- The lowest n bits set. -/
def ones (n : Nat) : BitVec 64 := BitVec.ofNat 64 (2 ^ n - 1)
theorem getLsbD_ones (n i : Nat) : (ones n).getLsbD i = (decide (i < 64) && decide (i < n)) := by
  unfold ones
  rw [BitVec.getLsbD_ofNat, Nat.testBit_two_pow_sub_one]
theorem txt_known (n : Nat) (k h : BitVec 64) (hk : ∀ i, i < n → k.getLsbD i = true) : txt n k h = nTxt n h.toNat := by
  apply rat_ext
  intro i
  rw [rat_txt, rat_nTxt]
  by_cases hi : i < n
  · rw [if_pos hi, if_pos hi, hk i hi]
    simp [letter, BitVec.testBit_toNat]
  · rw [if_neg hi, if_neg hi]
theorem txt_congr {n : Nat} {k h k' h' : BitVec 64} (e : ∀ i, i < n → k.getLsbD i = k'.getLsbD i ∧ h.getLsbD i = h'.getLsbD i) : txt n k h = txt n k' h' := by
  apply rat_ext
  intro i
  rw [rat_txt, rat_txt]
  by_cases hi : i < n
  · rw [if_pos hi, if_pos hi, (e i hi).1, (e i hi).2]
  · rw [if_neg hi, if_neg hi]
/-- Known: the word of what is known has all bits of the width. -/
theorem kn_ones {l : List UInt8} (hl : l.length ≤ 64) : (kn l = ones l.length) ↔ l.all knB = true := by
  constructor
  · intro h
    rw [List.all_eq_true]
    intro c hc
    obtain ⟨j, hj, rfl⟩ := List.getElem_of_mem hc
    have h1 : (kn l).getLsbD (l.length - 1 - j) = (ones l.length).getLsbD (l.length - 1 - j) := by rw [h]
    have h64 : l.length - 1 - j < 64 := by omega
    have hlt : l.length - 1 - j < l.length := by omega
    rw [kn, getLsbD_word, getLsbD_ones] at h1
    have e : rat l (l.length - 1 - j) = some l[j] := by
      unfold rat
      rw [List.getElem?_reverse hlt, show l.length - 1 - (l.length - 1 - j) = j by omega, List.getElem?_eq_getElem hj]
    simpa [h64, hlt, e] using h1
  · intro h
    apply BitVec.eq_of_getLsbD_eq
    intro i hi
    rw [kn, getLsbD_word, getLsbD_ones]
    by_cases hl : i < l.length
    · obtain ⟨c, hc, hm⟩ := rat_some hl
      simp [hc, hl, hi, List.all_eq_true.1 h c hm]
    · rw [rat_none (by omega)]; simp [hl]
theorem wh_num {l : List UInt8} (h : l.all knB = true) : wh l = BitVec.ofNat 64 (num l) := by
  apply BitVec.eq_of_getLsbD_eq
  intro i hi
  rw [wh, getLsbD_word, BitVec.getLsbD_ofNat, testBit_num]
  by_cases hl : i < l.length
  · obtain ⟨c, hc, hm⟩ := rat_some hl
    have := List.all_eq_true.1 h c hm
    have e : whB c = oneB c := by
      rw [known_bit this]; cases oneB c <;> rfl
    simp [hc, e]
  · rw [rat_none (by omega)]; simp
theorem wh_toNat {l : List UInt8} (h : l.all knB = true) (hl : l.length ≤ 64) : (wh l).toNat = num l := by
  rw [wh_num h, BitVec.toNat_ofNat]
  apply Nat.mod_eq_of_lt
  exact Nat.lt_of_lt_of_le (num_lt l) (Nat.pow_le_pow_right (by omega) hl)
theorem ones_toNat (n : Nat) (hn : n ≤ 64) : (ones n).toNat = 2 ^ n - 1 := by
  unfold ones
  rw [BitVec.toNat_ofNat]
  apply Nat.mod_eq_of_lt
  have : 2 ^ n ≤ 2 ^ 64 := Nat.pow_le_pow_right (by omega) hn
  have : 0 < 2 ^ n := Nat.two_pow_pos n
  omega
theorem and_ones_toNat (x : BitVec 64) (n : Nat) (hn : n ≤ 64) : (x &&& ones n).toNat = x.toNat % 2 ^ n := by
  rw [BitVec.toNat_and, ones_toNat n hn, Nat.and_two_pow_sub_one_eq_mod]
/-- The text of a number's vector. -/
theorem num_txt (n : Nat) (x : BitVec 64) (hn : n ≤ 64) : txt n (ones n) (x &&& ones n) = nTxt n x.toNat := by
  rw [txt_known n _ _ (fun i hi => by rw [getLsbD_ones]; simp [hi]; omega)]
  apply nTxt_congr
  rw [and_ones_toNat x n hn, Nat.mod_mod]
end Vb
