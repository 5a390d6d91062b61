/- What the words of the program's binary operations are as texts: bit by bit, numbers, comparisons, moved bits, quotients, rests. -/
import Derived.Test.YtmbllgblbdfobaaG3IT
import Derived.Test.YtmbllgblbdfobaaG8U4
import Derived.Test.YtmbllgblbdfobaaJ2
import Derived.Test.YtmbllgblbdfobaaG12S12
import Derived.Test.YtmbllgblbdfobaaS18
import Derived.Test.YtmbllgblbdfobaaG15S19
namespace Go.Proofs.Ytmbllgblbdfobaa
open Go.RowKit
theorem and_txt {a b : List UInt8} (va : a.all Vb.isV = true) (vb : b.all Vb.isV = true) (hl : a.length = b.length) (h2 : a.length ≤ 64) :
    Vb.txt a.length (Vb.kn a &&& ~~~Vb.wh a ||| Vb.kn b &&& ~~~Vb.wh b ||| (Vb.kn a &&& Vb.wh a &&& (Vb.kn b &&& Vb.wh b))) (Vb.kn a &&& Vb.wh a &&& (Vb.kn b &&& Vb.wh b)) = List.zipWith andB a b := by
  apply txt_zip andB hl
  intro i x y hi hx hy
  have h64 : i < 64 := by omega
  obtain ⟨k1, w1⟩ := bits_at hx h64
  obtain ⟨k2, w2⟩ := bits_at hy h64
  simp only [BitVec.getLsbD_or, BitVec.getLsbD_and, BitVec.getLsbD_not, k1, k2, w1, w2, h64, decide_true, Bool.true_and]
  rcases four (List.all_eq_true.1 va x (rat_mem hx)) with rfl | rfl | rfl | rfl <;> rcases four (List.all_eq_true.1 vb y (rat_mem hy)) with rfl | rfl | rfl | rfl <;> rfl
theorem or_txt {a b : List UInt8} (va : a.all Vb.isV = true) (vb : b.all Vb.isV = true) (hl : a.length = b.length) (h2 : a.length ≤ 64) :
    Vb.txt a.length (Vb.kn a &&& ~~~Vb.wh a &&& (Vb.kn b &&& ~~~Vb.wh b) ||| (Vb.kn a &&& Vb.wh a ||| Vb.kn b &&& Vb.wh b)) (Vb.kn a &&& Vb.wh a ||| Vb.kn b &&& Vb.wh b) = List.zipWith orB a b := by
  apply txt_zip orB hl
  intro i x y hi hx hy
  have h64 : i < 64 := by omega
  obtain ⟨k1, w1⟩ := bits_at hx h64
  obtain ⟨k2, w2⟩ := bits_at hy h64
  simp only [BitVec.getLsbD_or, BitVec.getLsbD_and, BitVec.getLsbD_not, k1, k2, w1, w2, h64, decide_true, Bool.true_and]
  rcases four (List.all_eq_true.1 va x (rat_mem hx)) with rfl | rfl | rfl | rfl <;> rcases four (List.all_eq_true.1 vb y (rat_mem hy)) with rfl | rfl | rfl | rfl <;> rfl
theorem xor_txt {a b : List UInt8} (va : a.all Vb.isV = true) (vb : b.all Vb.isV = true) (hl : a.length = b.length) (h2 : a.length ≤ 64) :
    Vb.txt a.length (Vb.kn a &&& Vb.kn b &&& ~~~(Vb.wh a ^^^ Vb.wh b) ||| (Vb.kn a &&& Vb.kn b &&& (Vb.wh a ^^^ Vb.wh b))) (Vb.kn a &&& Vb.kn b &&& (Vb.wh a ^^^ Vb.wh b)) = List.zipWith xorB a b := by
  apply txt_zip xorB hl
  intro i x y hi hx hy
  have h64 : i < 64 := by omega
  obtain ⟨k1, w1⟩ := bits_at hx h64
  obtain ⟨k2, w2⟩ := bits_at hy h64
  simp only [BitVec.getLsbD_or, BitVec.getLsbD_and, BitVec.getLsbD_xor, BitVec.getLsbD_not, k1, k2, w1, w2, h64, decide_true, Bool.true_and]
  rcases four (List.all_eq_true.1 va x (rat_mem hx)) with rfl | rfl | rfl | rfl <;> rcases four (List.all_eq_true.1 vb y (rat_mem hy)) with rfl | rfl | rfl | rfl <;> rfl
/-- What is reckoned of two vectors of one width: the number's text where both are known, else nothing is known. -/
theorem reck_txt {a b : List UInt8} (hl : a.length = b.length) (h2 : a.length ≤ 64) (x : BitVec 64) :
    Vb.txt a.length (rkK a.length a.length (Vb.kn a) (Vb.kn b)) (rkH a.length a.length (Vb.kn a) (Vb.kn b) x) = if (a.all Vb.knB && b.all Vb.knB) = true then Vb.nTxt a.length x.toNat else List.replicate a.length 120 := by
  unfold rkK rkH
  have ka := Vb.kn_ones (l := a) h2
  have kb := Vb.kn_ones (l := b) (by omega)
  rw [← hl] at kb
  by_cases h : (a.all Vb.knB && b.all Vb.knB) = true
  · rw [Bool.and_eq_true] at h
    rw [if_pos ⟨ka.2 h.1, kb.2 h.2⟩, if_pos ⟨ka.2 h.1, kb.2 h.2⟩, if_pos (by rw [h.1, h.2]; rfl)]
    exact Vb.num_txt _ _ h2
  · rw [if_neg (fun e => h (by rw [ka.1 e.1, kb.1 e.2]; rfl)), if_neg (fun e => h (by rw [ka.1 e.1, kb.1 e.2]; rfl)), if_neg h]
    exact txt_x _
theorem pow_dvd64 {n : Nat} (h : n ≤ 64) : 2 ^ n ∣ 2 ^ 64 := Nat.pow_dvd_pow 2 h
theorem add_num {a b : List UInt8} (ka : a.all Vb.knB = true) (kb : b.all Vb.knB = true) (hl : a.length = b.length) (h2 : a.length ≤ 64) : Vb.nTxt a.length (Vb.wh a + Vb.wh b).toNat = Vb.nTxt a.length (Vb.num a + Vb.num b) := by
  apply Vb.nTxt_congr
  rw [BitVec.toNat_add, Vb.wh_toNat ka h2, Vb.wh_toNat kb (by omega), Nat.mod_mod_of_dvd _ (pow_dvd64 h2)]
theorem mul_num {a b : List UInt8} (ka : a.all Vb.knB = true) (kb : b.all Vb.knB = true) (hl : a.length = b.length) (h2 : a.length ≤ 64) : Vb.nTxt a.length (Vb.wh a * Vb.wh b).toNat = Vb.nTxt a.length (Vb.num a * Vb.num b) := by
  apply Vb.nTxt_congr
  rw [BitVec.toNat_mul, Vb.wh_toNat ka h2, Vb.wh_toNat kb (by omega), Nat.mod_mod_of_dvd _ (pow_dvd64 h2)]
theorem subw_num {a b : List UInt8} (ka : a.all Vb.knB = true) (kb : b.all Vb.knB = true) (hl : a.length = b.length) (h2 : a.length ≤ 64) : Vb.nTxt a.length (Vb.wh a - Vb.wh b).toNat = Vb.nTxt a.length (Vb.num a + (2 ^ a.length - Vb.num b)) := by
  apply Vb.nTxt_congr
  rw [BitVec.toNat_sub, Vb.wh_toNat ka h2, Vb.wh_toNat kb (by omega), Nat.mod_mod_of_dvd _ (pow_dvd64 h2)]
  have h1 := Vb.num_lt b
  rw [← hl] at h1
  obtain ⟨c, hc⟩ := pow_dvd64 h2
  have hc0 : 0 < c := by rcases Nat.eq_zero_or_pos c with h | h; · rw [h] at hc; simp at hc
                         · exact h
  have e : 2 ^ 64 - Vb.num b + Vb.num a = (Vb.num a + (2 ^ a.length - Vb.num b)) + 2 ^ a.length * (c - 1) := by
    have : 2 ^ a.length * c = 2 ^ a.length * (c - 1) + 2 ^ a.length := by
      conv => lhs; rw [show c = (c - 1) + 1 by omega, Nat.mul_add, Nat.mul_one]
    omega
  rw [e, Nat.add_mul_mod_self_left]
/-- Equal letter by letter: what the fold of the letters is. -/
theorem eq_letter (x y : UInt8) (hx : Vb.isV x = true) (hy : Vb.isV y = true) : notB (xorB x y) = if (Vb.knB x && Vb.knB y && (Vb.whB x ^^ Vb.whB y)) = true then 48 else if (Vb.knB x && Vb.knB y) = true then 49 else 120 := by
  rcases four hx with rfl | rfl | rfl | rfl <;> rcases four hy with rfl | rfl | rfl | rfl <;> rfl
theorem fold_eq (l : List UInt8) (h : ∀ c ∈ l, c = 48 ∨ c = 49 ∨ c = 120) (c : UInt8) (hc : c = 48 ∨ c = 49 ∨ c = 120) : l.foldl andB c = if c = 48 ∨ (48 : UInt8) ∈ l then 48 else if c = 49 ∧ ∀ d ∈ l, d = 49 then 49 else 120 := by
  induction l generalizing c with
  | nil => rcases hc with rfl | rfl | rfl <;> simp
  | cons d t ih =>
    have hd := h d (by simp)
    rw [List.foldl_cons, ih (fun c hc => h c (by simp [hc])) _ (by rcases hc with rfl | rfl | rfl <;> rcases hd with rfl | rfl | rfl <;> decide)]
    rcases hc with rfl | rfl | rfl <;> rcases hd with rfl | rfl | rfl <;> simp [andB]
theorem mem_rat {l : List UInt8} {c : UInt8} : c ∈ l ↔ ∃ i, Vb.rat l i = some c := by
  unfold Vb.rat
  rw [← List.mem_reverse, List.mem_iff_getElem?]
theorem eqs_valid {a b : List UInt8} (va : a.all Vb.isV = true) (vb : b.all Vb.isV = true) : ∀ c ∈ List.zipWith (fun x y => notB (xorB x y)) a b, c = 48 ∨ c = 49 ∨ c = 120 := by
  intro c hc
  rw [List.mem_iff_getElem?] at hc
  obtain ⟨i, hi⟩ := hc
  rw [List.getElem?_zipWith] at hi
  cases ha : a[i]? with
  | none => rw [ha] at hi; simp at hi
  | some x =>
    cases hb : b[i]? with
    | none => rw [ha, hb] at hi; simp at hi
    | some y =>
      rw [ha, hb] at hi
      have hx := List.all_eq_true.1 va x (List.mem_of_getElem? ha)
      have hy := List.all_eq_true.1 vb y (List.mem_of_getElem? hb)
      have e : notB (xorB x y) = c := by simpa using hi
      rw [← e, eq_letter x y hx hy]
      split
      · exact .inl rfl
      · split
        · exact .inr (.inl rfl)
        · exact .inr (.inr rfl)
theorem eq_txt {a b : List UInt8} (va : a.all Vb.isV = true) (vb : b.all Vb.isV = true) (hl : a.length = b.length) (h2 : a.length ≤ 64) : eqL a b = eqV a.length a.length (Vb.kn a) (Vb.wh a) (Vb.kn b) (Vb.wh b) := by
  unfold eqL eqV
  rw [fold_eq _ (eqs_valid va vb) 49 (.inr (.inl rfl))]
  have kb : (Vb.kn b = Vb.ones a.length) ↔ b.all Vb.knB = true := by rw [hl]; exact Vb.kn_ones (by omega)
  have ka : (Vb.kn a = Vb.ones a.length) ↔ a.all Vb.knB = true := Vb.kn_ones h2
  have h48 : (48 : UInt8) ∈ List.zipWith (fun x y => notB (xorB x y)) a b ↔ Vb.kn a &&& Vb.kn b &&& (Vb.wh a ^^^ Vb.wh b) ≠ 0#64 := by
    rw [mem_rat]
    constructor
    · rintro ⟨i, hi⟩ e
      rw [rat_zip _ hl] at hi
      by_cases hin : i < a.length
      · obtain ⟨x, hx, hxm⟩ := Vb.rat_some hin
        obtain ⟨y, hy, hym⟩ := Vb.rat_some (l := b) (i := i) (by omega)
        rw [hx, hy] at hi
        have h64 : i < 64 := by omega
        have e1 : (Vb.kn a &&& Vb.kn b &&& (Vb.wh a ^^^ Vb.wh b)).getLsbD i = false := by rw [e]; simp
        obtain ⟨k1, w1⟩ := bits_at hx h64
        obtain ⟨k2, w2⟩ := bits_at hy h64
        rw [BitVec.getLsbD_and, BitVec.getLsbD_and, BitVec.getLsbD_xor, k1, k2, w1, w2] at e1
        have e2 : notB (xorB x y) = 48 := by simpa using hi
        rw [eq_letter x y (List.all_eq_true.1 va x hxm) (List.all_eq_true.1 vb y hym), e1] at e2
        by_cases e3 : (Vb.knB x && Vb.knB y) = true
        · rw [if_neg (by decide), if_pos e3] at e2; exact absurd e2 (by decide)
        · rw [if_neg (by decide), if_neg e3] at e2; exact absurd e2 (by decide)
      · rw [Vb.rat_none (by omega)] at hi; simp at hi
    · intro h
      have : ∃ i, i < 64 ∧ (Vb.kn a &&& Vb.kn b &&& (Vb.wh a ^^^ Vb.wh b)).getLsbD i = true := by
        apply Classical.byContradiction
        intro hn
        apply h
        apply BitVec.eq_of_getLsbD_eq
        intro i hi
        rw [show (0#64).getLsbD i = false by simp]
        cases hg : (Vb.kn a &&& Vb.kn b &&& (Vb.wh a ^^^ Vb.wh b)).getLsbD i
        · rfl
        · exact absurd ⟨i, hi, hg⟩ hn
      obtain ⟨i, h64, hi⟩ := this
      rw [BitVec.getLsbD_and, BitVec.getLsbD_and, BitVec.getLsbD_xor] at hi
      by_cases hin : i < a.length
      · obtain ⟨x, hx, hxm⟩ := Vb.rat_some hin
        obtain ⟨y, hy, hym⟩ := Vb.rat_some (l := b) (i := i) (by omega)
        obtain ⟨k1, w1⟩ := bits_at hx h64
        obtain ⟨k2, w2⟩ := bits_at hy h64
        rw [k1, k2, w1, w2] at hi
        refine ⟨i, ?_⟩
        rw [rat_zip _ hl, hx, hy]
        show some (notB (xorB x y)) = some 48
        rw [eq_letter x y (List.all_eq_true.1 va x hxm) (List.all_eq_true.1 vb y hym), if_pos hi]
      · rw [Vb.kn, Vb.getLsbD_word, Vb.rat_none (by omega)] at hi; simp at hi
  by_cases h : (48 : UInt8) ∈ List.zipWith (fun x y => notB (xorB x y)) a b
  · rw [if_pos (.inr h), if_pos (h48.1 h)]
  · have e1 : ¬ ((49 : UInt8) = 48 ∨ (48 : UInt8) ∈ List.zipWith (fun x y => notB (xorB x y)) a b) := by
      rintro (e | e)
      · exact absurd e (by decide)
      · exact h e
    rw [if_neg e1, if_neg (fun e => h (h48.2 e))]
    have hall : (∀ d ∈ List.zipWith (fun x y => notB (xorB x y)) a b, d = 49) ↔ (a.all Vb.knB = true ∧ b.all Vb.knB = true) := by
      constructor
      · intro hd
        constructor
        · rw [List.all_eq_true]
          intro x hxm
          obtain ⟨i, hx⟩ := mem_rat.1 hxm
          have hin : i < a.length := by
            rcases Nat.lt_or_ge i a.length with h | h
            · exact h
            · rw [Vb.rat_none h] at hx; cases hx
          obtain ⟨y, hy, hym⟩ := Vb.rat_some (l := b) (i := i) (by omega)
          have := hd (notB (xorB x y)) (mem_rat.2 ⟨i, by rw [rat_zip _ hl, hx, hy]⟩)
          rw [eq_letter x y (List.all_eq_true.1 va x hxm) (List.all_eq_true.1 vb y hym)] at this
          cases hk : Vb.knB x
          · rw [hk] at this; simp at this
          · rfl
        · rw [List.all_eq_true]
          intro y hym
          obtain ⟨i, hy⟩ := mem_rat.1 hym
          have hin : i < b.length := by
            rcases Nat.lt_or_ge i b.length with h | h
            · exact h
            · rw [Vb.rat_none h] at hy; cases hy
          obtain ⟨x, hx, hxm⟩ := Vb.rat_some (l := a) (i := i) (by omega)
          have := hd (notB (xorB x y)) (mem_rat.2 ⟨i, by rw [rat_zip _ hl, hx, hy]⟩)
          rw [eq_letter x y (List.all_eq_true.1 va x hxm) (List.all_eq_true.1 vb y hym)] at this
          cases hk : Vb.knB y
          · rw [hk] at this; simp at this
          · rfl
      · rintro ⟨h1, h2'⟩ d hd
        obtain ⟨i, hi⟩ := mem_rat.1 hd
        rw [rat_zip _ hl] at hi
        by_cases hin : i < a.length
        · obtain ⟨x, hx, hxm⟩ := Vb.rat_some hin
          obtain ⟨y, hy, hym⟩ := Vb.rat_some (l := b) (i := i) (by omega)
          rw [hx, hy] at hi
          have e2 : notB (xorB x y) = d := by simpa using hi
          rw [eq_letter x y (List.all_eq_true.1 va x hxm) (List.all_eq_true.1 vb y hym), List.all_eq_true.1 h1 x hxm, List.all_eq_true.1 h2' y hym] at e2
          by_cases e3 : (true && true && (Vb.whB x ^^ Vb.whB y)) = true
          · rw [if_pos e3] at e2
            exact absurd (by rw [e2]; exact hd) h
          · rw [if_neg e3, if_pos (by decide)] at e2; exact e2.symm
        · rw [Vb.rat_none (by omega)] at hi; simp at hi
    by_cases hk : a.all Vb.knB = true ∧ b.all Vb.knB = true
    · rw [if_pos ⟨rfl, hall.2 hk⟩, if_pos ⟨ka.2 hk.1, kb.2 hk.2⟩]
    · rw [if_neg (fun e => hk (hall.1 e.2)), if_neg (fun e => hk ⟨ka.1 e.1, kb.1 e.2⟩)]
/-- The signed number of a known text. -/
def sI (l : List UInt8) : Int := (Vb.num l : Int) - (if Vb.oneB (l.headD 0) = true then ((2 ^ l.length : Nat) : Int) else 0)
theorem num_one (t : List UInt8) : Vb.num (49 :: t) = 2 ^ t.length + Vb.num t := by rw [Vb.num_cons, show (Vb.oneB 49).toNat = 1 from rfl, Nat.one_mul]
theorem num_zero (t : List UInt8) : Vb.num (48 :: t) = Vb.num t := by rw [Vb.num_cons, show (Vb.oneB 48).toNat = 0 from rfl, Nat.zero_mul, Nat.zero_add]
theorem pow_two (t : List UInt8) (c : UInt8) : 2 ^ (c :: t).length = 2 * 2 ^ t.length := by rw [List.length_cons, Nat.pow_succ, Nat.mul_comm]
theorem sI_one (t : List UInt8) : sI (49 :: t) = (Vb.num t : Int) - ((2 ^ t.length : Nat) : Int) := by
  unfold sI
  rw [if_pos (show Vb.oneB ((49 :: t).headD 0) = true from rfl), num_one, pow_two]; omega
theorem sI_zero (t : List UInt8) : sI (48 :: t) = (Vb.num t : Int) := by
  unfold sI
  rw [if_neg (show ¬ Vb.oneB ((48 :: t).headD 0) = true from (by decide : ¬ Vb.oneB 48 = true)), num_zero]; omega
theorem known_top {c : UInt8} (hc : Vb.knB c = true) : c = 49 ∨ c = 48 := by
  have := Vb.known_bit hc
  cases h : Vb.oneB c
  · rw [h] at this; exact .inr (by simpa using this)
  · rw [h] at this; exact .inl (by simpa using this)
theorem sgn_sI {l : List UInt8} (hk : l.all Vb.knB = true) (h1 : 1 ≤ l.length) (h2 : l.length ≤ 64) : sgn l.length (Vb.wh l) = sI l := by
  rw [sgn_num hk h1 h2]
  cases l with
  | nil => simp at h1
  | cons c t =>
    have hp : 2 ^ t.length ≤ 2 ^ 63 := Nat.pow_le_pow_right (by decide) (by simp at h2; omega)
    have ht := Vb.num_lt t
    rcases known_top (List.all_eq_true.1 hk c (by simp)) with rfl | rfl
    · have e : intL true (49 :: t) = wrap64 ((Vb.num (49 :: t) : Int) - 2 ^ (49 :: t).length) := by unfold intL; rw [if_pos (show (true && Vb.oneB ((49 :: t).headD 0)) = true from rfl)]
      have e2i : (2 : Int) ^ (49 :: t).length = ((2 ^ (49 :: t).length : Nat) : Int) := by rw [Int.natCast_pow]; rfl
      rw [e, sI_one, e2i, pow_two, num_one]
      generalize 2 ^ t.length = p at *
      unfold wrap64; omega
    · have e : intL true (48 :: t) = wrap64 (Vb.num (48 :: t) : Int) := intL_no (by rfl)
      rw [e, sI_zero, num_zero]
      generalize 2 ^ t.length = p at *
      unfold wrap64; omega
theorem lt_known {a b : List UInt8} (ka : a.all Vb.knB = true) (kb : b.all Vb.knB = true) (hl : a.length = b.length) (h1 : 1 ≤ a.length) (h2 : a.length ≤ 64) (sg : Bool) : ltV a.length a.length (Vb.wh a) (Vb.wh b) sg = ltL sg a b := by
  cases sg
  · rw [ltV_no]
    unfold ltL
    rw [if_neg (by simp)]
    rw [decide_eq_decide]
    unfold U
    rw [Vb.wh_toNat ka h2, Vb.wh_toNat kb (by omega)]
    omega
  · rw [ltV_sg, sgn_sI ka h1 h2]
    have hb := sgn_sI kb (by omega) (by omega)
    rw [← hl] at hb
    rw [hb]
    unfold ltL
    cases a with
    | nil => simp at h1
    | cons c t =>
      cases b with
      | nil => simp at hl
      | cons d u =>
        have hlu : t.length = u.length := by simpa using hl
        have ht := Vb.num_lt t
        have hu := Vb.num_lt u
        rcases known_top (List.all_eq_true.1 ka c (by simp)) with rfl | rfl <;> rcases known_top (List.all_eq_true.1 kb d (by simp)) with rfl | rfl
        · rw [if_neg (by simp), sI_one, sI_one, num_one, num_one, decide_eq_decide, hlu]; omega
        · rw [if_pos ⟨rfl, show (49 : UInt8) ≠ 48 by decide⟩, sI_one, sI_zero, decide_eq_decide]
          exact ⟨fun _ => rfl, fun _ => by omega⟩
        · rw [if_pos ⟨rfl, show (48 : UInt8) ≠ 49 by decide⟩, sI_one, sI_zero, decide_eq_decide]
          exact ⟨fun h => by omega, fun h => absurd h (show ¬ (48 : UInt8) = 49 by decide)⟩
        · rw [if_neg (by simp), sI_zero, sI_zero, num_zero, num_zero, decide_eq_decide]; omega
theorem same_words {a b : List UInt8} (va : a.all Vb.isV = true) (vb : b.all Vb.isV = true) (ha : a.length ≤ 64) (hb : b.length ≤ 64) : (a.length = b.length ∧ Vb.kn a = Vb.kn b ∧ Vb.wh a = Vb.wh b) ↔ a = b := by
  constructor
  · rintro ⟨h1, h2, h3⟩
    rw [← Vb.txt_of va ha, ← Vb.txt_of vb hb, h1, h2, h3]
  · rintro rfl; exact ⟨rfl, rfl, rfl⟩
theorem both_txt (x y : UInt8) (hx : Vb.isV x = true) (hy : Vb.isV y = true) :
    Vb.txt 1 (Vb.kn [x] &&& ~~~Vb.wh [x] ||| Vb.kn [y] &&& ~~~Vb.wh [y] ||| (Vb.kn [x] &&& Vb.wh [x] &&& (Vb.kn [y] &&& Vb.wh [y]))) (Vb.kn [x] &&& Vb.wh [x] &&& (Vb.kn [y] &&& Vb.wh [y])) = [andB x y] :=
  and_txt (a := [x]) (b := [y]) (by simp [hx]) (by simp [hy]) rfl (by simp)
theorem either_txt (x y : UInt8) (hx : Vb.isV x = true) (hy : Vb.isV y = true) :
    Vb.txt 1 (Vb.kn [x] &&& ~~~Vb.wh [x] &&& (Vb.kn [y] &&& ~~~Vb.wh [y]) ||| (Vb.kn [x] &&& Vb.wh [x] ||| Vb.kn [y] &&& Vb.wh [y])) (Vb.kn [x] &&& Vb.wh [x] ||| Vb.kn [y] &&& Vb.wh [y]) = [orB x y] :=
  or_txt (a := [x]) (b := [y]) (by simp [hx]) (by simp [hy]) rfl (by simp)
theorem rat_repl (n : Nat) (c : UInt8) (i : Nat) : Vb.rat (List.replicate n c) i = if i < n then some c else none := by
  unfold Vb.rat
  rw [List.reverse_replicate, List.getElem?_replicate]
theorem letter_at {l : List UInt8} (hv : l.all Vb.isV = true) {i : Nat} (hi : i < l.length) (h64 : l.length ≤ 64) : some (Vb.letter ((Vb.kn l).getLsbD i) ((Vb.wh l).getLsbD i)) = Vb.rat l i := by
  obtain ⟨x, hx, hm⟩ := Vb.rat_some hi
  obtain ⟨k1, w1⟩ := bits_at hx (by omega)
  rw [k1, w1, hx, Vb.letter_of x (List.all_eq_true.1 hv x hm)]
theorem up_txt {a : List UInt8} (va : a.all Vb.isV = true) (h2 : a.length ≤ 64) (s : Nat) :
    Vb.txt a.length ((Vb.kn a <<< s &&& Vb.ones a.length) &&& ~~~(Vb.ones a.length &&& Vb.ones s) ||| (Vb.ones a.length &&& Vb.ones s)) ((Vb.wh a <<< s &&& Vb.ones a.length) &&& ~~~(Vb.ones a.length &&& Vb.ones s)) = a.drop (min s a.length) ++ List.replicate (min s a.length) 48 := by
  apply Vb.rat_ext
  intro i
  rw [Vb.rat_txt, rat_append, List.length_replicate, rat_repl, rat_drop]
  by_cases hi : i < a.length
  · have h64 : i < 64 := by omega
    rw [if_pos hi]
    simp only [BitVec.getLsbD_or, BitVec.getLsbD_and, BitVec.getLsbD_not, BitVec.getLsbD_shiftLeft, Vb.getLsbD_ones, h64, hi, decide_true, Bool.true_and, Bool.and_true]
    by_cases his : i < s
    · rw [if_pos (by omega), if_pos (by omega)]
      simp [his, Vb.letter]
    · rw [if_neg (by omega), if_pos (by omega)]
      simp only [his, decide_false, Bool.not_false, Bool.true_and, Bool.or_false, Bool.and_true]
      rw [show min s a.length = s by omega]
      exact letter_at va (by omega) h2
  · rw [if_neg hi, if_neg (by omega), if_neg (by omega)]
theorem down_txt {a : List UInt8} (va : a.all Vb.isV = true) (h2 : a.length ≤ 64) (s : Nat) (r q : BitVec 64) :
    Vb.txt a.length (Vb.kn a >>> s &&& ~~~(Vb.ones a.length &&& ~~~(Vb.ones a.length >>> s)) ||| (if r.getLsbD 0 then (Vb.ones a.length &&& ~~~(Vb.ones a.length >>> s)) else 0#64)) (Vb.wh a >>> s &&& ~~~(Vb.ones a.length &&& ~~~(Vb.ones a.length >>> s)) ||| (if q.getLsbD 0 then (Vb.ones a.length &&& ~~~(Vb.ones a.length >>> s)) else 0#64)) = List.replicate (min s a.length) (Vb.letter (r.getLsbD 0) (q.getLsbD 0)) ++ a.take (a.length - min s a.length) := by
  apply Vb.rat_ext
  intro i
  have hlt : (a.take (a.length - min s a.length)).length = a.length - min s a.length := by rw [List.length_take]; omega
  rw [Vb.rat_txt, rat_append, hlt, rat_take, rat_repl]
  by_cases hi : i < a.length
  · have h64 : i < 64 := by omega
    rw [if_pos hi]
    have hm : (Vb.ones a.length &&& ~~~(Vb.ones a.length >>> s)).getLsbD i = !decide (s + i < a.length) := by
      simp only [BitVec.getLsbD_and, BitVec.getLsbD_not, BitVec.getLsbD_ushiftRight, Vb.getLsbD_ones, h64, hi, decide_true, Bool.true_and]
      by_cases hs : s + i < a.length
      · have : s + i < 64 := by omega
        simp [hs, this]
      · simp [hs]
    have hif : ∀ c : Bool, (if c = true then (Vb.ones a.length &&& ~~~(Vb.ones a.length >>> s)) else 0#64).getLsbD i = (c && !decide (s + i < a.length)) := by
      intro c; cases c
      · simp
      · rw [if_pos rfl, hm]; rfl
    simp only [BitVec.getLsbD_or, BitVec.getLsbD_and (x := Vb.kn a >>> s), BitVec.getLsbD_and (x := Vb.wh a >>> s), BitVec.getLsbD_not (x := Vb.ones a.length &&& ~~~(Vb.ones a.length >>> s)), BitVec.getLsbD_ushiftRight (x := Vb.kn a), BitVec.getLsbD_ushiftRight (x := Vb.wh a), hm, hif, h64, decide_true, Bool.true_and]
    by_cases hs : s + i < a.length
    · rw [if_pos (by omega)]
      simp only [hs, decide_true, Bool.not_true, Bool.not_false, Bool.and_true, Bool.and_false, Bool.or_false]
      rw [show a.length - (a.length - min s a.length) = s by omega, Nat.add_comm i s]
      exact letter_at va hs h2
    · rw [if_neg (by omega), if_pos (by omega)]
      simp only [hs, decide_false, Bool.not_false, Bool.not_true, Bool.and_true, Bool.and_false, Bool.false_or]
  · rw [if_neg hi, if_neg (by omega), if_neg (by omega)]
theorem divu_txt {a b : List UInt8} (ka : a.all Vb.knB = true) (kb : b.all Vb.knB = true) (hl : a.length = b.length) (h2 : a.length ≤ 64) :
    Vb.txt a.length (Vb.ones a.length) (Vb.wh a / Vb.wh b &&& Vb.ones a.length) = divL a.length false a b := by
  rw [Vb.num_txt _ _ h2, BitVec.toNat_udiv, Vb.wh_toNat ka h2, Vb.wh_toNat kb (by omega)]
  unfold divL absN
  rw [if_neg (by simp), if_neg (by simp), if_neg (by simp)]
theorem absN_one (t : List UInt8) : absN true (49 :: t) = 2 ^ (49 :: t).length - Vb.num (49 :: t) := by unfold absN; rw [if_pos ⟨rfl, rfl⟩]
theorem absN_zero (t : List UInt8) : absN true (48 :: t) = Vb.num (48 :: t) := by unfold absN; rw [if_neg (fun h => absurd h.2 (show ¬ (48 : UInt8) = 49 by decide))]
theorem sI_neg (t : List UInt8) : sI (49 :: t) = -((absN true (49 :: t) : Nat) : Int) := by
  have ht := Vb.num_lt t
  rw [sI_one, absN_one, pow_two, num_one]; omega
theorem sI_pos (t : List UInt8) : sI (48 :: t) = ((absN true (48 :: t) : Nat) : Int) := by rw [sI_zero, absN_zero, num_zero]
theorem ofInt_pos (n v : Nat) (h2 : n ≤ 64) : Vb.nTxt n (BitVec.ofInt 64 (v : Int)).toNat = Vb.nTxt n v := by
  apply Vb.nTxt_congr
  rw [BitVec.toNat_ofInt, show ((v : Int) % ((2 ^ 64 : Nat) : Int)).toNat = v % 2 ^ 64 by omega, Nat.mod_mod_of_dvd _ (pow_dvd64 h2)]
theorem ofInt_neg (n v : Nat) (h2 : n ≤ 64) (hv : v ≤ 2 ^ n) : Vb.nTxt n (BitVec.ofInt 64 (-(v : Int))).toNat = Vb.nTxt n (2 ^ n - v) := by
  apply Vb.nTxt_congr
  have hp : 2 ^ n ≤ 2 ^ 64 := Nat.pow_le_pow_right (by decide) h2
  have e : ((-(v : Int)) % ((2 ^ 64 : Nat) : Int)).toNat = (2 ^ 64 - v) % 2 ^ 64 := by omega
  rw [BitVec.toNat_ofInt, e, Nat.mod_mod_of_dvd _ (pow_dvd64 h2)]
  obtain ⟨c, hc⟩ := pow_dvd64 h2
  have hc0 : 0 < c := by
    rcases Nat.eq_zero_or_pos c with h | h
    · rw [h] at hc; simp at hc
    · exact h
  have e2 : 2 ^ 64 - v = (2 ^ n - v) + 2 ^ n * (c - 1) := by
    have : 2 ^ n * c = 2 ^ n * (c - 1) + 2 ^ n := by
      conv => lhs; rw [show c = (c - 1) + 1 by omega, Nat.mul_add, Nat.mul_one]
    omega
  rw [e2, Nat.add_mul_mod_self_left]
theorem divs_txt {a b : List UInt8} (ka : a.all Vb.knB = true) (kb : b.all Vb.knB = true) (hl : a.length = b.length) (h1 : 1 ≤ a.length) (h2 : a.length ≤ 64) :
    Vb.nTxt a.length (BitVec.ofInt 64 ((sI a).tdiv (sI b))).toNat = divL a.length true a b := by
  cases a with
  | nil => simp at h1
  | cons c t =>
    cases b with
    | nil => simp at hl
    | cons d u =>
      have hA := absN_lt true (c :: t)
      have hq : absN true (c :: t) / absN true (d :: u) ≤ 2 ^ (c :: t).length := Nat.le_trans (Nat.div_le_self _ _) (Nat.le_of_lt hA)
      unfold divL
      rcases known_top (List.all_eq_true.1 ka c (by simp)) with rfl | rfl <;> rcases known_top (List.all_eq_true.1 kb d (by simp)) with rfl | rfl
      · rw [if_neg (by simp), sI_neg, sI_neg, Int.neg_tdiv, Int.tdiv_neg, Int.neg_neg, ← Int.ofNat_tdiv]
        exact ofInt_pos _ _ h2
      · rw [if_pos ⟨rfl, show (49 : UInt8) ≠ 48 by decide⟩, sI_neg, sI_pos, Int.neg_tdiv, ← Int.ofNat_tdiv]
        exact ofInt_neg _ _ h2 hq
      · rw [if_pos ⟨rfl, show (48 : UInt8) ≠ 49 by decide⟩, sI_pos, sI_neg, Int.tdiv_neg, ← Int.ofNat_tdiv]
        exact ofInt_neg _ _ h2 hq
      · rw [if_neg (by simp), sI_pos, sI_pos, ← Int.ofNat_tdiv]
        exact ofInt_pos _ _ h2
/-- A quotient by -1 is the number with its sign turned. -/
theorem divm_txt {a b : List UInt8} (ka : a.all Vb.knB = true) (kb : b.all Vb.knB = true) (hl : a.length = b.length) (h1 : 1 ≤ a.length) (hb : sI b = -1) :
    Vb.nTxt a.length (2 ^ a.length - Vb.num a) = divL a.length true a b := by
  cases a with
  | nil => simp at h1
  | cons c t =>
    cases b with
    | nil => simp at hl
    | cons d u =>
      unfold divL
      rcases known_top (List.all_eq_true.1 kb d (by simp)) with rfl | rfl
      · have e : absN true (49 :: u) = 1 := by rw [sI_neg] at hb; omega
        rcases known_top (List.all_eq_true.1 ka c (by simp)) with rfl | rfl
        · rw [if_neg (by simp), e, Nat.div_one, absN_one]
        · rw [if_pos ⟨rfl, show (48 : UInt8) ≠ 49 by decide⟩, e, Nat.div_one, absN_zero]
      · rw [sI_pos] at hb; omega
theorem mod_ofInt {n u v : Nat} (h : (u : Int) % ((2 ^ n : Nat) : Int) = (v : Int) % ((2 ^ n : Nat) : Int)) : u % 2 ^ n = v % 2 ^ n := by
  have : ((u % 2 ^ n : Nat) : Int) = ((v % 2 ^ n : Nat) : Int) := by rw [Int.natCast_emod, Int.natCast_emod]; exact h
  omega
theorem dvd64i {n : Nat} (h : n ≤ 64) : ((2 ^ n : Nat) : Int) ∣ ((2 ^ 64 : Nat) : Int) := Int.natCast_dvd_natCast.2 (pow_dvd64 h)
/-- A number less a quotient times another one, reckoned in words, modulo 2 to the width. -/
theorem rest_core (n : Nat) (h2 : n ≤ 64) (H Q2 Q : BitVec 64) (a d b : Int) (v : Nat) (hH : (H.toNat : Int) % ((2 ^ n : Nat) : Int) = a % ((2 ^ n : Nat) : Int)) (hD : (Q2.toNat : Int) % ((2 ^ n : Nat) : Int) = d % ((2 ^ n : Nat) : Int)) (hQ : (Q.toNat : Int) % ((2 ^ n : Nat) : Int) = b % ((2 ^ n : Nat) : Int)) (hv : (v : Int) % ((2 ^ n : Nat) : Int) = (a - d * b) % ((2 ^ n : Nat) : Int)) :
    Vb.nTxt n (H - (Q2 * Q &&& Vb.ones n)).toNat = Vb.nTxt n v := by
  apply Vb.nTxt_congr
  apply mod_ofInt
  rw [hv, BitVec.toNat_sub, Vb.and_ones_toNat _ _ h2, BitVec.toNat_mul]
  have hm : ((Q2.toNat * Q.toNat % 2 ^ 64 % 2 ^ n : Nat) : Int) % ((2 ^ n : Nat) : Int) = (d * b) % ((2 ^ n : Nat) : Int) := by
    rw [Nat.mod_mod_of_dvd _ (pow_dvd64 h2), Int.natCast_emod, Int.emod_emod_of_dvd _ (Int.dvd_refl _), Int.natCast_mul, Int.mul_emod, hD, hQ, ← Int.mul_emod]
  have hlt : Q2.toNat * Q.toNat % 2 ^ 64 % 2 ^ n ≤ 2 ^ 64 := Nat.le_trans (Nat.le_of_lt (Nat.mod_lt _ (Nat.two_pow_pos n))) (Nat.pow_le_pow_right (by decide) h2)
  generalize Q2.toNat * Q.toNat % 2 ^ 64 % 2 ^ n = M at *
  rw [Int.natCast_emod, Int.emod_emod_of_dvd _ (dvd64i h2)]
  have e : ((2 ^ 64 - M + H.toNat : Nat) : Int) = ((H.toNat : Int) - (M : Int)) + ((2 ^ 64 : Nat) : Int) := by omega
  obtain ⟨c, hc⟩ := dvd64i h2
  rw [e, hc, Int.add_mul_emod_self_left, Int.sub_emod, hH, hm, ← Int.sub_emod]
theorem num_sI {l : List UInt8} (hk : l.all Vb.knB = true) (h1 : 1 ≤ l.length) : (Vb.num l : Int) % ((2 ^ l.length : Nat) : Int) = sI l % ((2 ^ l.length : Nat) : Int) := by
  cases l with
  | nil => simp at h1
  | cons c t =>
    rcases known_top (List.all_eq_true.1 hk c (by simp)) with rfl | rfl
    · have e : (Vb.num (49 :: t) : Int) = sI (49 :: t) + ((2 ^ (49 :: t).length : Nat) : Int) := by rw [sI_one, num_one, pow_two]; omega
      rw [e]; simp
    · rw [sI_zero, num_zero]
theorem rem_nat (A B : Nat) : ((A % B : Nat) : Int) = (A : Int) - (A : Int).tdiv (B : Int) * (B : Int) := by
  rw [← Int.ofNat_tdiv, ← Int.natCast_mul]
  have := Nat.div_add_mod A B
  rw [Nat.mul_comm] at this
  omega
theorem remu_txt {a b : List UInt8} (ka : a.all Vb.knB = true) (kb : b.all Vb.knB = true) (hl : a.length = b.length) (h2 : a.length ≤ 64) :
    Vb.nTxt a.length (Vb.wh a - ((Vb.wh a / Vb.wh b &&& Vb.ones a.length) * Vb.wh b &&& Vb.ones a.length)).toNat = remL a.length false a b := by
  have e : remL a.length false a b = Vb.nTxt a.length (Vb.num a % Vb.num b) := by unfold remL absN; rw [if_neg (by simp), if_neg (by simp), if_neg (by simp)]
  rw [e]
  refine rest_core a.length h2 _ _ _ (Vb.num a : Int) ((Vb.num a : Int).tdiv (Vb.num b : Int)) (Vb.num b : Int) _ (by rw [Vb.wh_toNat ka h2]) ?_ (by rw [Vb.wh_toNat kb (by omega)]) (by rw [rem_nat])
  rw [Vb.and_ones_toNat _ _ h2, BitVec.toNat_udiv, Vb.wh_toNat ka h2, Vb.wh_toNat kb (by omega), Int.natCast_emod, Int.emod_emod_of_dvd _ (Int.dvd_refl _), ← Int.ofNat_tdiv]
theorem rems_txt {a b : List UInt8} (ka : a.all Vb.knB = true) (kb : b.all Vb.knB = true) (hl : a.length = b.length) (h1 : 1 ≤ a.length) (h2 : a.length ≤ 64) (hz : 0 < Vb.num b) (Q2 : BitVec 64) (hQ2 : (Q2.toNat : Int) % ((2 ^ a.length : Nat) : Int) = (sI a).tdiv (sI b) % ((2 ^ a.length : Nat) : Int)) :
    Vb.nTxt a.length (Vb.wh a - (Q2 * Vb.wh b &&& Vb.ones a.length)).toNat = remL a.length true a b := by
  have hb : (Vb.num b : Int) % ((2 ^ a.length : Nat) : Int) = sI b % ((2 ^ a.length : Nat) : Int) := by rw [hl]; exact num_sI kb (by omega)
  have core := fun v hv => rest_core a.length h2 (Vb.wh a) Q2 (Vb.wh b) (sI a) ((sI a).tdiv (sI b)) (sI b) v (by rw [Vb.wh_toNat ka h2]; exact num_sI ka h1) hQ2 (by rw [Vb.wh_toNat kb (by omega)]; exact hb) hv
  have hpb := absN_pos true hz
  have hlb := absN_lt true b
  cases a with
  | nil => simp at h1
  | cons c t =>
    cases b with
    | nil => simp at hl
    | cons d u =>
      rw [← hl] at hlb
      have hr : absN true (c :: t) % absN true (d :: u) < 2 ^ (c :: t).length := Nat.lt_trans (Nat.mod_lt _ hpb) hlb
      have hs : sI (d :: u) = ((absN true (d :: u) : Nat) : Int) ∨ sI (d :: u) = -((absN true (d :: u) : Nat) : Int) := by
        rcases known_top (List.all_eq_true.1 kb d (by simp)) with rfl | rfl
        · exact .inr (sI_neg u)
        · exact .inl (sI_pos u)
      unfold remL
      rcases known_top (List.all_eq_true.1 ka c (by simp)) with rfl | rfl
      · rw [if_pos ⟨rfl, rfl⟩]
        apply core
        have e : sI (49 :: t) - (sI (49 :: t)).tdiv (sI (d :: u)) * sI (d :: u) = -((absN true (49 :: t) % absN true (d :: u) : Nat) : Int) := by
          rw [rem_nat, sI_neg]
          rcases hs with hs | hs <;> rw [hs]
          · rw [Int.neg_tdiv, Int.neg_mul]; omega
          · rw [Int.neg_tdiv, Int.tdiv_neg, Int.neg_neg, Int.mul_neg]; omega
        rw [e]
        have e3 : ((2 ^ (49 :: t).length - absN true (49 :: t) % absN true (d :: u) : Nat) : Int) = -((absN true (49 :: t) % absN true (d :: u) : Nat) : Int) + ((2 ^ (49 :: t).length : Nat) : Int) := by omega
        rw [e3]; simp
      · rw [if_neg (fun h => absurd h.2 (show ¬ (48 : UInt8) = 49 by decide))]
        apply core
        rw [rem_nat, sI_pos]
        rcases hs with hs | hs <;> rw [hs]
        rw [Int.tdiv_neg, Int.mul_neg, Int.neg_mul, Int.neg_neg]
end Go.Proofs.Ytmbllgblbdfobaa
