/- What the words of the program's binary operations are as texts. -/
import Derived.Test.YtmbllgblbdfobaaL6
import Derived.Test.YtmbllgblbdfobaaUP
import Derived.Test.YtmbllgblbdfobaaJ2
import Derived.Test.YtmbllgblbdfobaaS15
import Derived.Test.YtmbllgblbdfobaaS18
import Derived.Test.YtmbllgblbdfobaaS20
import Derived.Test.YtmbllgblbdfobaaS21
namespace Go.Proofs.Ytmbllgblbdfobaa
open Go.RowKit
theorem and_txt {a b : List UInt8} (va : a.all Vb.isV = true) (vb : b.all Vb.isV = true) (hl : a.length = b.length) (h2 : a.length ≤ 64) :
    Vb.txt a.length (Vb.kn a &&& ~~~Vb.wh a ||| Vb.kn b &&& ~~~Vb.wh b ||| (Vb.kn a &&& Vb.wh a &&& (Vb.kn b &&& Vb.wh b))) (Vb.kn a &&& Vb.wh a &&& (Vb.kn b &&& Vb.wh b)) = List.zipWith andB a b := by
  apply txt_zip andB hl
  intro i x y hi hx hy
  have h64 : i < 64 := by omega
  obtain ⟨k1, w1⟩ := bits_at hx h64
  obtain ⟨k2, w2⟩ := bits_at hy h64
  simp only [BitVec.getLsbD_or, BitVec.getLsbD_and, BitVec.getLsbD_not, k1, k2, w1, w2, h64, decide_true, Bool.true_and]
  rcases four (List.all_eq_true.1 va x (rat_mem hx)) with rfl | rfl | rfl | rfl <;> rcases four (List.all_eq_true.1 vb y (rat_mem hy)) with rfl | rfl | rfl | rfl <;> rfl
theorem or_txt {a b : List UInt8} (va : a.all Vb.isV = true) (vb : b.all Vb.isV = true) (hl : a.length = b.length) (h2 : a.length ≤ 64) :
    Vb.txt a.length (Vb.kn a &&& ~~~Vb.wh a &&& (Vb.kn b &&& ~~~Vb.wh b) ||| (Vb.kn a &&& Vb.wh a ||| Vb.kn b &&& Vb.wh b)) (Vb.kn a &&& Vb.wh a ||| Vb.kn b &&& Vb.wh b) = List.zipWith orB a b := by
  apply txt_zip orB hl
  intro i x y hi hx hy
  have h64 : i < 64 := by omega
  obtain ⟨k1, w1⟩ := bits_at hx h64
  obtain ⟨k2, w2⟩ := bits_at hy h64
  simp only [BitVec.getLsbD_or, BitVec.getLsbD_and, BitVec.getLsbD_not, k1, k2, w1, w2, h64, decide_true, Bool.true_and]
  rcases four (List.all_eq_true.1 va x (rat_mem hx)) with rfl | rfl | rfl | rfl <;> rcases four (List.all_eq_true.1 vb y (rat_mem hy)) with rfl | rfl | rfl | rfl <;> rfl
theorem xor_txt {a b : List UInt8} (va : a.all Vb.isV = true) (vb : b.all Vb.isV = true) (hl : a.length = b.length) (h2 : a.length ≤ 64) :
    Vb.txt a.length (Vb.kn a &&& Vb.kn b &&& ~~~(Vb.wh a ^^^ Vb.wh b) ||| (Vb.kn a &&& Vb.kn b &&& (Vb.wh a ^^^ Vb.wh b))) (Vb.kn a &&& Vb.kn b &&& (Vb.wh a ^^^ Vb.wh b)) = List.zipWith xorB a b := by
  apply txt_zip xorB hl
  intro i x y hi hx hy
  have h64 : i < 64 := by omega
  obtain ⟨k1, w1⟩ := bits_at hx h64
  obtain ⟨k2, w2⟩ := bits_at hy h64
  simp only [BitVec.getLsbD_or, BitVec.getLsbD_and, BitVec.getLsbD_xor, BitVec.getLsbD_not, k1, k2, w1, w2, h64, decide_true, Bool.true_and]
  rcases four (List.all_eq_true.1 va x (rat_mem hx)) with rfl | rfl | rfl | rfl <;> rcases four (List.all_eq_true.1 vb y (rat_mem hy)) with rfl | rfl | rfl | rfl <;> rfl
/-- What is reckoned of two vectors of one width: the number's text where both are known, else nothing is known. -/
theorem reck_txt {a b : List UInt8} (hl : a.length = b.length) (h2 : a.length ≤ 64) (x : BitVec 64) :
    Vb.txt a.length (rkK a.length a.length (Vb.kn a) (Vb.kn b)) (rkH a.length a.length (Vb.kn a) (Vb.kn b) x) = if (a.all Vb.knB && b.all Vb.knB) = true then Vb.nTxt a.length x.toNat else List.replicate a.length 120 := by
  unfold rkK rkH
  have ka := Vb.kn_ones (l := a) h2
  have kb := Vb.kn_ones (l := b) (by omega)
  rw [← hl] at kb
  by_cases h : (a.all Vb.knB && b.all Vb.knB) = true
  · rw [Bool.and_eq_true] at h
    rw [if_pos ⟨ka.2 h.1, kb.2 h.2⟩, if_pos ⟨ka.2 h.1, kb.2 h.2⟩, if_pos (by rw [h.1, h.2]; rfl)]
    exact Vb.num_txt _ _ h2
  · rw [if_neg (fun e => h (by rw [ka.1 e.1, kb.1 e.2]; rfl)), if_neg (fun e => h (by rw [ka.1 e.1, kb.1 e.2]; rfl)), if_neg h]
    exact txt_x _
theorem pow_dvd64 {n : Nat} (h : n ≤ 64) : 2 ^ n ∣ 2 ^ 64 := Nat.pow_dvd_pow 2 h
theorem add_num {a b : List UInt8} (ka : a.all Vb.knB = true) (kb : b.all Vb.knB = true) (hl : a.length = b.length) (h2 : a.length ≤ 64) : Vb.nTxt a.length (Vb.wh a + Vb.wh b).toNat = Vb.nTxt a.length (Vb.num a + Vb.num b) := by
  apply Vb.nTxt_congr
  rw [BitVec.toNat_add, Vb.wh_toNat ka h2, Vb.wh_toNat kb (by omega), Nat.mod_mod_of_dvd _ (pow_dvd64 h2)]
theorem mul_num {a b : List UInt8} (ka : a.all Vb.knB = true) (kb : b.all Vb.knB = true) (hl : a.length = b.length) (h2 : a.length ≤ 64) : Vb.nTxt a.length (Vb.wh a * Vb.wh b).toNat = Vb.nTxt a.length (Vb.num a * Vb.num b) := by
  apply Vb.nTxt_congr
  rw [BitVec.toNat_mul, Vb.wh_toNat ka h2, Vb.wh_toNat kb (by omega), Nat.mod_mod_of_dvd _ (pow_dvd64 h2)]
theorem subw_num {a b : List UInt8} (ka : a.all Vb.knB = true) (kb : b.all Vb.knB = true) (hl : a.length = b.length) (h2 : a.length ≤ 64) : Vb.nTxt a.length (Vb.wh a - Vb.wh b).toNat = Vb.nTxt a.length (Vb.num a + (2 ^ a.length - Vb.num b)) := by
  apply Vb.nTxt_congr
  rw [BitVec.toNat_sub, Vb.wh_toNat ka h2, Vb.wh_toNat kb (by omega), Nat.mod_mod_of_dvd _ (pow_dvd64 h2)]
  have h1 := Vb.num_lt b
  rw [← hl] at h1
  obtain ⟨c, hc⟩ := pow_dvd64 h2
  have hc0 : 0 < c := by rcases Nat.eq_zero_or_pos c with h | h; · rw [h] at hc; simp at hc
                         · exact h
  have e : 2 ^ 64 - Vb.num b + Vb.num a = (Vb.num a + (2 ^ a.length - Vb.num b)) + 2 ^ a.length * (c - 1) := by
    have : 2 ^ a.length * c = 2 ^ a.length * (c - 1) + 2 ^ a.length := by
      conv => lhs; rw [show c = (c - 1) + 1 by omega, Nat.mul_add, Nat.mul_one]
    omega
  rw [e, Nat.add_mul_mod_self_left]
/-- Equal letter by letter: what the fold of the letters is. -/
theorem eq_letter (x y : UInt8) (hx : Vb.isV x = true) (hy : Vb.isV y = true) : notB (xorB x y) = if (Vb.knB x && Vb.knB y && (Vb.whB x ^^ Vb.whB y)) = true then 48 else if (Vb.knB x && Vb.knB y) = true then 49 else 120 := by
  rcases four hx with rfl | rfl | rfl | rfl <;> rcases four hy with rfl | rfl | rfl | rfl <;> rfl
theorem fold_eq (l : List UInt8) (h : ∀ c ∈ l, c = 48 ∨ c = 49 ∨ c = 120) (c : UInt8) (hc : c = 48 ∨ c = 49 ∨ c = 120) : l.foldl andB c = if c = 48 ∨ (48 : UInt8) ∈ l then 48 else if c = 49 ∧ ∀ d ∈ l, d = 49 then 49 else 120 := by
  induction l generalizing c with
  | nil => rcases hc with rfl | rfl | rfl <;> simp
  | cons d t ih =>
    have hd := h d (by simp)
    rw [List.foldl_cons, ih (fun c hc => h c (by simp [hc])) _ (by rcases hc with rfl | rfl | rfl <;> rcases hd with rfl | rfl | rfl <;> decide)]
    rcases hc with rfl | rfl | rfl <;> rcases hd with rfl | rfl | rfl <;> simp [andB]
theorem mem_rat {l : List UInt8} {c : UInt8} : c ∈ l ↔ ∃ i, Vb.rat l i = some c := by
  unfold Vb.rat
  rw [← List.mem_reverse, List.mem_iff_getElem?]
theorem eqs_valid {a b : List UInt8} (va : a.all Vb.isV = true) (vb : b.all Vb.isV = true) : ∀ c ∈ List.zipWith (fun x y => notB (xorB x y)) a b, c = 48 ∨ c = 49 ∨ c = 120 := by
  intro c hc
  rw [List.mem_iff_getElem?] at hc
  obtain ⟨i, hi⟩ := hc
  rw [List.getElem?_zipWith] at hi
  cases ha : a[i]? with
  | none => rw [ha] at hi; simp at hi
  | some x =>
    cases hb : b[i]? with
    | none => rw [ha, hb] at hi; simp at hi
    | some y =>
      rw [ha, hb] at hi
      have hx := List.all_eq_true.1 va x (List.mem_of_getElem? ha)
      have hy := List.all_eq_true.1 vb y (List.mem_of_getElem? hb)
      have e : notB (xorB x y) = c := by simpa using hi
      rw [← e, eq_letter x y hx hy]
      split
      · exact .inl rfl
      · split
        · exact .inr (.inl rfl)
        · exact .inr (.inr rfl)
theorem eq_txt {a b : List UInt8} (va : a.all Vb.isV = true) (vb : b.all Vb.isV = true) (hl : a.length = b.length) (h2 : a.length ≤ 64) : eqL a b = eqV a.length a.length (Vb.kn a) (Vb.wh a) (Vb.kn b) (Vb.wh b) := by
  unfold eqL eqV
  rw [fold_eq _ (eqs_valid va vb) 49 (.inr (.inl rfl))]
  have kb : (Vb.kn b = Vb.ones a.length) ↔ b.all Vb.knB = true := by rw [hl]; exact Vb.kn_ones (by omega)
  have ka : (Vb.kn a = Vb.ones a.length) ↔ a.all Vb.knB = true := Vb.kn_ones h2
  have h48 : (48 : UInt8) ∈ List.zipWith (fun x y => notB (xorB x y)) a b ↔ Vb.kn a &&& Vb.kn b &&& (Vb.wh a ^^^ Vb.wh b) ≠ 0#64 := by
    rw [mem_rat]
    constructor
    · rintro ⟨i, hi⟩ e
      rw [rat_zip _ hl] at hi
      by_cases hin : i < a.length
      · obtain ⟨x, hx, hxm⟩ := Vb.rat_some hin
        obtain ⟨y, hy, hym⟩ := Vb.rat_some (l := b) (i := i) (by omega)
        rw [hx, hy] at hi
        have h64 : i < 64 := by omega
        have e1 : (Vb.kn a &&& Vb.kn b &&& (Vb.wh a ^^^ Vb.wh b)).getLsbD i = false := by rw [e]; simp
        obtain ⟨k1, w1⟩ := bits_at hx h64
        obtain ⟨k2, w2⟩ := bits_at hy h64
        rw [BitVec.getLsbD_and, BitVec.getLsbD_and, BitVec.getLsbD_xor, k1, k2, w1, w2] at e1
        have e2 : notB (xorB x y) = 48 := by simpa using hi
        rw [eq_letter x y (List.all_eq_true.1 va x hxm) (List.all_eq_true.1 vb y hym), e1] at e2
        by_cases e3 : (Vb.knB x && Vb.knB y) = true
        · rw [if_neg (by decide), if_pos e3] at e2; exact absurd e2 (by decide)
        · rw [if_neg (by decide), if_neg e3] at e2; exact absurd e2 (by decide)
      · rw [Vb.rat_none (by omega)] at hi; simp at hi
    · intro h
      have : ∃ i, i < 64 ∧ (Vb.kn a &&& Vb.kn b &&& (Vb.wh a ^^^ Vb.wh b)).getLsbD i = true := by
        apply Classical.byContradiction
        intro hn
        apply h
        apply BitVec.eq_of_getLsbD_eq
        intro i hi
        rw [show (0#64).getLsbD i = false by simp]
        cases hg : (Vb.kn a &&& Vb.kn b &&& (Vb.wh a ^^^ Vb.wh b)).getLsbD i
        · rfl
        · exact absurd ⟨i, hi, hg⟩ hn
      obtain ⟨i, h64, hi⟩ := this
      rw [BitVec.getLsbD_and, BitVec.getLsbD_and, BitVec.getLsbD_xor] at hi
      by_cases hin : i < a.length
      · obtain ⟨x, hx, hxm⟩ := Vb.rat_some hin
        obtain ⟨y, hy, hym⟩ := Vb.rat_some (l := b) (i := i) (by omega)
        obtain ⟨k1, w1⟩ := bits_at hx h64
        obtain ⟨k2, w2⟩ := bits_at hy h64
        rw [k1, k2, w1, w2] at hi
        refine ⟨i, ?_⟩
        rw [rat_zip _ hl, hx, hy]
        show some (notB (xorB x y)) = some 48
        rw [eq_letter x y (List.all_eq_true.1 va x hxm) (List.all_eq_true.1 vb y hym), if_pos hi]
      · rw [Vb.kn, Vb.getLsbD_word, Vb.rat_none (by omega)] at hi; simp at hi
  by_cases h : (48 : UInt8) ∈ List.zipWith (fun x y => notB (xorB x y)) a b
  · rw [if_pos (.inr h), if_pos (h48.1 h)]
  · have e1 : ¬ ((49 : UInt8) = 48 ∨ (48 : UInt8) ∈ List.zipWith (fun x y => notB (xorB x y)) a b) := by
      rintro (e | e)
      · exact absurd e (by decide)
      · exact h e
    rw [if_neg e1, if_neg (fun e => h (h48.2 e))]
    have hall : (∀ d ∈ List.zipWith (fun x y => notB (xorB x y)) a b, d = 49) ↔ (a.all Vb.knB = true ∧ b.all Vb.knB = true) := by
      constructor
      · intro hd
        constructor
        · rw [List.all_eq_true]
          intro x hxm
          obtain ⟨i, hx⟩ := mem_rat.1 hxm
          have hin : i < a.length := by
            rcases Nat.lt_or_ge i a.length with h | h
            · exact h
            · rw [Vb.rat_none h] at hx; cases hx
          obtain ⟨y, hy, hym⟩ := Vb.rat_some (l := b) (i := i) (by omega)
          have := hd (notB (xorB x y)) (mem_rat.2 ⟨i, by rw [rat_zip _ hl, hx, hy]⟩)
          rw [eq_letter x y (List.all_eq_true.1 va x hxm) (List.all_eq_true.1 vb y hym)] at this
          cases hk : Vb.knB x
          · rw [hk] at this; simp at this
          · rfl
        · rw [List.all_eq_true]
          intro y hym
          obtain ⟨i, hy⟩ := mem_rat.1 hym
          have hin : i < b.length := by
            rcases Nat.lt_or_ge i b.length with h | h
            · exact h
            · rw [Vb.rat_none h] at hy; cases hy
          obtain ⟨x, hx, hxm⟩ := Vb.rat_some (l := a) (i := i) (by omega)
          have := hd (notB (xorB x y)) (mem_rat.2 ⟨i, by rw [rat_zip _ hl, hx, hy]⟩)
          rw [eq_letter x y (List.all_eq_true.1 va x hxm) (List.all_eq_true.1 vb y hym)] at this
          cases hk : Vb.knB y
          · rw [hk] at this; simp at this
          · rfl
      · rintro ⟨h1, h2'⟩ d hd
        obtain ⟨i, hi⟩ := mem_rat.1 hd
        rw [rat_zip _ hl] at hi
        by_cases hin : i < a.length
        · obtain ⟨x, hx, hxm⟩ := Vb.rat_some hin
          obtain ⟨y, hy, hym⟩ := Vb.rat_some (l := b) (i := i) (by omega)
          rw [hx, hy] at hi
          have e2 : notB (xorB x y) = d := by simpa using hi
          rw [eq_letter x y (List.all_eq_true.1 va x hxm) (List.all_eq_true.1 vb y hym), List.all_eq_true.1 h1 x hxm, List.all_eq_true.1 h2' y hym] at e2
          by_cases e3 : (true && true && (Vb.whB x ^^ Vb.whB y)) = true
          · rw [if_pos e3] at e2
            exact absurd (by rw [e2]; exact hd) h
          · rw [if_neg e3, if_pos (by decide)] at e2; exact e2.symm
        · rw [Vb.rat_none (by omega)] at hi; simp at hi
    by_cases hk : a.all Vb.knB = true ∧ b.all Vb.knB = true
    · rw [if_pos ⟨rfl, hall.2 hk⟩, if_pos ⟨ka.2 hk.1, kb.2 hk.2⟩]
    · rw [if_neg (fun e => hk (hall.1 e.2)), if_neg (fun e => hk ⟨ka.1 e.1, kb.1 e.2⟩)]
end Go.Proofs.Ytmbllgblbdfobaa
