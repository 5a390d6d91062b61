/- Moved bits as texts. -/
import Derived.Test.YtmbllgblbdfobaaBM2
namespace Go.Proofs.Ytmbllgblbdfobaa
open Go.RowKit
theorem rat_repl (n : Nat) (c : UInt8) (i : Nat) : Vb.rat (List.replicate n c) i = if i < n then some c else none := by
  unfold Vb.rat
  rw [List.reverse_replicate, List.getElem?_replicate]
theorem letter_at {l : List UInt8} (hv : l.all Vb.isV = true) {i : Nat} (hi : i < l.length) (h64 : l.length ≤ 64) : some (Vb.letter ((Vb.kn l).getLsbD i) ((Vb.wh l).getLsbD i)) = Vb.rat l i := by
  obtain ⟨x, hx, hm⟩ := Vb.rat_some hi
  obtain ⟨k1, w1⟩ := bits_at hx (by omega)
  rw [k1, w1, hx, Vb.letter_of x (List.all_eq_true.1 hv x hm)]
theorem up_txt {a : List UInt8} (va : a.all Vb.isV = true) (h2 : a.length ≤ 64) (s : Nat) :
    Vb.txt a.length ((Vb.kn a <<< s &&& Vb.ones a.length) &&& ~~~(Vb.ones a.length &&& Vb.ones s) ||| (Vb.ones a.length &&& Vb.ones s)) ((Vb.wh a <<< s &&& Vb.ones a.length) &&& ~~~(Vb.ones a.length &&& Vb.ones s)) = a.drop (min s a.length) ++ List.replicate (min s a.length) 48 := by
  apply Vb.rat_ext
  intro i
  rw [Vb.rat_txt, rat_append, List.length_replicate, rat_repl, rat_drop]
  by_cases hi : i < a.length
  · have h64 : i < 64 := by omega
    rw [if_pos hi]
    simp only [BitVec.getLsbD_or, BitVec.getLsbD_and, BitVec.getLsbD_not, BitVec.getLsbD_shiftLeft, Vb.getLsbD_ones, h64, hi, decide_true, Bool.true_and, Bool.and_true]
    by_cases his : i < s
    · rw [if_pos (by omega), if_pos (by omega)]
      simp [his, Vb.letter]
    · rw [if_neg (by omega), if_pos (by omega)]
      simp only [his, decide_false, Bool.not_false, Bool.true_and, Bool.or_false, Bool.and_true]
      rw [show min s a.length = s by omega]
      exact letter_at va (by omega) h2
  · rw [if_neg hi, if_neg (by omega), if_neg (by omega)]
theorem down_txt {a : List UInt8} (va : a.all Vb.isV = true) (h2 : a.length ≤ 64) (s : Nat) (r q : BitVec 64) :
    Vb.txt a.length (Vb.kn a >>> s &&& ~~~(Vb.ones a.length &&& ~~~(Vb.ones a.length >>> s)) ||| (if r.getLsbD 0 then (Vb.ones a.length &&& ~~~(Vb.ones a.length >>> s)) else 0#64)) (Vb.wh a >>> s &&& ~~~(Vb.ones a.length &&& ~~~(Vb.ones a.length >>> s)) ||| (if q.getLsbD 0 then (Vb.ones a.length &&& ~~~(Vb.ones a.length >>> s)) else 0#64)) = List.replicate (min s a.length) (Vb.letter (r.getLsbD 0) (q.getLsbD 0)) ++ a.take (a.length - min s a.length) := by
  apply Vb.rat_ext
  intro i
  have hlt : (a.take (a.length - min s a.length)).length = a.length - min s a.length := by rw [List.length_take]; omega
  rw [Vb.rat_txt, rat_append, hlt, rat_take, rat_repl]
  by_cases hi : i < a.length
  · have h64 : i < 64 := by omega
    rw [if_pos hi]
    have hm : (Vb.ones a.length &&& ~~~(Vb.ones a.length >>> s)).getLsbD i = !decide (s + i < a.length) := by
      simp only [BitVec.getLsbD_and, BitVec.getLsbD_not, BitVec.getLsbD_ushiftRight, Vb.getLsbD_ones, h64, hi, decide_true, Bool.true_and]
      by_cases hs : s + i < a.length
      · have : s + i < 64 := by omega
        simp [hs, this]
      · simp [hs]
    have hif : ∀ c : Bool, (if c = true then (Vb.ones a.length &&& ~~~(Vb.ones a.length >>> s)) else 0#64).getLsbD i = (c && !decide (s + i < a.length)) := by
      intro c; cases c
      · simp
      · rw [if_pos rfl, hm]; rfl
    simp only [BitVec.getLsbD_or, BitVec.getLsbD_and (x := Vb.kn a >>> s), BitVec.getLsbD_and (x := Vb.wh a >>> s), BitVec.getLsbD_not (x := Vb.ones a.length &&& ~~~(Vb.ones a.length >>> s)), BitVec.getLsbD_ushiftRight (x := Vb.kn a), BitVec.getLsbD_ushiftRight (x := Vb.wh a), hm, hif, h64, decide_true, Bool.true_and]
    by_cases hs : s + i < a.length
    · rw [if_pos (by omega)]
      simp only [hs, decide_true, Bool.not_true, Bool.not_false, Bool.and_true, Bool.and_false, Bool.or_false]
      rw [show a.length - (a.length - min s a.length) = s by omega, Nat.add_comm i s]
      exact letter_at va hs h2
    · rw [if_neg (by omega), if_pos (by omega)]
      simp only [hs, decide_false, Bool.not_false, Bool.not_true, Bool.and_true, Bool.and_false, Bool.false_or]
  · rw [if_neg hi, if_neg (by omega), if_neg (by omega)]
end Go.Proofs.Ytmbllgblbdfobaa
