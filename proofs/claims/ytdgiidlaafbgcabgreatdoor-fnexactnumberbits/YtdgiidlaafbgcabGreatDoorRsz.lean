/- Plain facts: the resized vector's words tell the resized text. -/
import Derived.Test.YtdgiidlaafbgcabGreatDoorS4
namespace Go.Proofs.YtdgiidlaafbgcabGreatDoor
open Vb
theorem rat_append (a b : List UInt8) (i : Nat) : rat (a ++ b) i = if i < b.length then rat b i else rat a (i - b.length) := by
  unfold rat
  rw [List.reverse_append, List.getElem?_append]
  simp
theorem rat_replicate (n i : Nat) (c : UInt8) : rat (List.replicate n c) i = if i < n then some c else none := by
  unfold rat; rw [List.reverse_replicate, List.getElem?_replicate]
theorem rat_drop (l : List UInt8) (d i : Nat) : rat (l.drop d) i = if i < l.length - d then rat l i else none := by
  unfold rat
  rw [List.reverse_drop, List.getElem?_take]
theorem rat_take (l : List UInt8) (d i : Nat) : rat (l.take d) i = rat l (i + (l.length - d)) := by
  unfold rat
  rw [List.reverse_take, List.getElem?_drop, Nat.add_comm]
theorem rat_rsz (n : Nat) (b : Bool) (l : List UInt8) (i : Nat) : rat (rszL n b l) i = if i < n then (if i < l.length then rat l i else some (if b then l.headD 0 else 48)) else none := by
  unfold rszL
  rw [rat_drop, rat_append, rat_replicate, List.length_append, List.length_replicate]
  by_cases h : i < n
  · by_cases h2 : i < l.length
    · simp [h, h2]; omega
    · have h3 : i < n - l.length + l.length - (l.length - n) := by omega
      have h4 : i - l.length < n - l.length := by omega
      simp [h, h2, h3, h4]
  · have h3 : ¬ i < n - l.length + l.length - (l.length - n) := by omega
    simp [h, h3]
/-- Bit i of a text's words, where the text has it. -/
theorem letter_rat {l : List UInt8} (hv : l.all isV = true) {i : Nat} (hi : i < l.length) (h64 : i < 64) : some (letter ((kn l).getLsbD i) ((wh l).getLsbD i)) = rat l i := by
  obtain ⟨c, hc, hm⟩ := rat_some hi
  rw [kn, wh, getLsbD_word, getLsbD_word, hc]
  simp only [h64, decide_true, Bool.true_and, Option.map_some, Option.getD_some]
  rw [letter_of c (List.all_eq_true.1 hv c hm)]
theorem rat_head {l : List UInt8} (h : 1 ≤ l.length) : rat l (l.length - 1) = some (l.headD 0) := by
  unfold rat
  rw [List.getElem?_reverse (by omega), show l.length - 1 - (l.length - 1) = 0 by omega]
  cases l with
  | nil => simp at h
  | cons c t => rfl
theorem getLsbD_shr1 (k : BitVec 64) (m : Nat) : (k >>> m &&& ones 1).getLsbD 0 = k.getLsbD m := by
  rw [BitVec.getLsbD_and, BitVec.getLsbD_ushiftRight, getLsbD_ones]; simp
theorem high_bits (a b i : Nat) (hi : i < 64) : (ones a &&& ~~~ones b).getLsbD i = (decide (i < a) && !decide (i < b)) := by
  rw [BitVec.getLsbD_and, BitVec.getLsbD_not, getLsbD_ones, getLsbD_ones]; simp [hi]
theorem rsz_bit (k : BitVec 64) (m n i : Nat) (hi : i < m) (h64 : i < 64) : (k &&& ones m &&& ~~~(ones m &&& ~~~ones n)).getLsbD i = (k.getLsbD i && decide (i < n)) := by
  rw [BitVec.getLsbD_and, BitVec.getLsbD_and, BitVec.getLsbD_not, high_bits m n i h64, getLsbD_ones]
  simp only [h64, hi, decide_true, Bool.true_and, Bool.and_true, Bool.not_not]
theorem rsz_no {l : List UInt8} {m : Nat} (hv : l.all isV = true) (hm : m ≤ 64) :
    txt m (kn l &&& ones m &&& ~~~(ones m &&& ~~~ones l.length) ||| (ones m &&& ~~~ones l.length)) (wh l &&& ones m &&& ~~~(ones m &&& ~~~ones l.length)) = rszL m false l := by
  apply rat_ext
  intro i
  rw [rat_txt, rat_rsz]
  by_cases hi : i < m
  · have h64 : i < 64 := by omega
    rw [if_pos hi, if_pos hi]
    rw [BitVec.getLsbD_or, rsz_bit _ _ _ _ hi h64, rsz_bit _ _ _ _ hi h64, high_bits _ _ _ h64]
    by_cases hl : i < l.length
    · rw [if_pos hl, ← letter_rat hv hl h64]
      simp only [hi, hl, decide_true, Bool.and_true, Bool.not_true, Bool.and_false, Bool.or_false]
    · rw [if_neg hl]
      simp only [hi, hl, decide_true, decide_false, Bool.and_false, Bool.not_false, Bool.and_true, Bool.or_true, letter, Bool.false_eq_true, if_true, if_false]
  · rw [if_neg hi, if_neg hi]
theorem rsz_yes {l : List UInt8} {m : Nat} (hv : l.all isV = true) (h1 : 1 ≤ l.length) (h2 : l.length ≤ 64) (hm : m ≤ 64) :
    txt m (kn l &&& ones m &&& ~~~(ones m &&& ~~~ones l.length) ||| (if (kn l >>> (l.length - 1) &&& ones 1).getLsbD 0 then (ones m &&& ~~~ones l.length) else 0#64)) (wh l &&& ones m &&& ~~~(ones m &&& ~~~ones l.length) ||| (if (wh l >>> (l.length - 1) &&& ones 1).getLsbD 0 then (ones m &&& ~~~ones l.length) else 0#64)) = rszL m true l := by
  apply rat_ext
  intro i
  rw [rat_txt, rat_rsz, getLsbD_shr1, getLsbD_shr1]
  have hh := letter_rat hv (show l.length - 1 < l.length by omega) (by omega)
  rw [rat_head h1] at hh
  generalize hK : (kn l).getLsbD (l.length - 1) = A at *
  generalize hH : (wh l).getLsbD (l.length - 1) = B at *
  by_cases hi : i < m
  · have h64 : i < 64 := by omega
    rw [if_pos hi, if_pos hi]
    rw [BitVec.getLsbD_or, BitVec.getLsbD_or, rsz_bit _ _ _ _ hi h64, rsz_bit _ _ _ _ hi h64]
    have e : ∀ c : Bool, (if c then (ones m &&& ~~~ones l.length) else 0#64).getLsbD i = (c && !decide (i < l.length)) := by
      intro c
      cases c
      · simp
      · rw [if_pos rfl, high_bits _ _ _ h64]; simp [hi]
    rw [e, e]
    by_cases hl : i < l.length
    · rw [if_pos hl, ← letter_rat hv hl h64]
      simp only [hl, decide_true, Bool.and_true, Bool.not_true, Bool.and_false, Bool.or_false]
    · rw [if_neg hl, if_pos rfl, ← hh]
      simp only [hl, decide_false, Bool.and_false, Bool.not_false, Bool.and_true, Bool.false_or]
  · rw [if_neg hi, if_neg hi]
end Go.Proofs.YtdgiidlaafbgcabGreatDoor
