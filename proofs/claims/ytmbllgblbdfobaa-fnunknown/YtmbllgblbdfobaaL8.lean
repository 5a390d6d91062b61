/- The law FnExactBinary's walk: the program's Binary answers as the specification's. -/
import Derived.Test.YtmbllgblbdfobaaBM
import Derived.Test.YtmbllgblbdfobaaG17S16
import Derived.Test.YtmbllgblbdfobaaJ7
import Derived.Test.YtmbllgblbdfobaaJ8
namespace Go.Proofs.Ytmbllgblbdfobaa
open Go.RowKit
set_option linter.unusedVariables false
/-- Both answer the text R. -/
def Both (op : Int) (sg : Bool) (a b : ByteArray) : Prop := ∃ R : List UInt8, (∀ w, Calls Try.prog 28 #[.int .i64 op, .bool sg, .string a, .string b] w fun e w' => e = .returned (.string (S R)) ∧ Below w.heap.size w w') ∧ (∀ w, Calls Try.prog 19 #[.int .i64 op, .bool sg, .string a, .string b] w fun e w' => e = .returned (.string (S R)) ∧ Below w.heap.size w w')
theorem eqV_valid (n m : Nat) (k h p q : BitVec 64) : Vb.isV (eqV n m k h p q) = true := by
  unfold eqV
  split
  · rfl
  · split <;> rfl
theorem both1 {sg : Bool} {a b : ByteArray} {n : Nat} (ha : a.size ≤ maxLen) (hb : b.size ≤ maxLen) (va : Vb.okV (L a) = true) (vb : Vb.okV (L b) = true) (ea : a.size = n) (eb : b.size = n) : Both 1 sg a b := by
  obtain ⟨a1, a2, a3⟩ := (okV_iff a).1 va
  obtain ⟨b1, b2, b3⟩ := (okV_iff b).1 vb
  refine ⟨_, fun w => sBin1 sg a b n w ha hb va vb ea eb, fun w => iBin1 sg a b n n _ _ _ _ _ _ _ w ha hb va vb ea eb rfl rfl rfl rfl (by omega) (fun _ W _ => iAnd n n _ _ _ _ W) ?_⟩
  have := and_txt a3 b3 (by rw [L_len, L_len]; omega) (by rw [L_len]; exact a2)
  rw [L_len, ea] at this; exact this
theorem both2 {sg : Bool} {a b : ByteArray} {n : Nat} (ha : a.size ≤ maxLen) (hb : b.size ≤ maxLen) (va : Vb.okV (L a) = true) (vb : Vb.okV (L b) = true) (ea : a.size = n) (eb : b.size = n) : Both 2 sg a b := by
  obtain ⟨a1, a2, a3⟩ := (okV_iff a).1 va
  obtain ⟨b1, b2, b3⟩ := (okV_iff b).1 vb
  refine ⟨_, fun w => sBin2 sg a b n w ha hb va vb ea eb, fun w => iBin2 sg a b n n _ _ _ _ _ _ _ w ha hb va vb ea eb rfl rfl rfl rfl (by omega) (fun _ W _ => iOr n n _ _ _ _ W) ?_⟩
  have := or_txt a3 b3 (by rw [L_len, L_len]; omega) (by rw [L_len]; exact a2)
  rw [L_len, ea] at this; exact this
theorem both3 {sg : Bool} {a b : ByteArray} {n : Nat} (ha : a.size ≤ maxLen) (hb : b.size ≤ maxLen) (va : Vb.okV (L a) = true) (vb : Vb.okV (L b) = true) (ea : a.size = n) (eb : b.size = n) : Both 3 sg a b := by
  obtain ⟨a1, a2, a3⟩ := (okV_iff a).1 va
  obtain ⟨b1, b2, b3⟩ := (okV_iff b).1 vb
  refine ⟨_, fun w => sBin3 sg a b n w ha hb va vb ea eb, fun w => iBin3 sg a b n n _ _ _ _ _ _ _ w ha hb va vb ea eb rfl rfl rfl rfl (by omega) (fun _ W _ => iXor n n _ _ _ _ W) ?_⟩
  have := xor_txt a3 b3 (by rw [L_len, L_len]; omega) (by rw [L_len]; exact a2)
  rw [L_len, ea] at this; exact this
theorem both4 {sg : Bool} {a b : ByteArray} {n : Nat} (ha : a.size ≤ maxLen) (hb : b.size ≤ maxLen) (va : Vb.okV (L a) = true) (vb : Vb.okV (L b) = true) (ea : a.size = n) (eb : b.size = n) : Both 4 sg a b := by
  obtain ⟨a1, a2, a3⟩ := (okV_iff a).1 va
  have hl : (L a).length = (L b).length := by rw [L_len, L_len]; omega
  have hr := reck_txt hl (by rw [L_len]; exact a2) (Vb.wh (L a) + Vb.wh (L b))
  rw [L_len, ea] at hr
  by_cases hk : ((L a).all Vb.knB && (L b).all Vb.knB) = true
  · have hk' := hk
    rw [Bool.and_eq_true] at hk'
    have e := add_num hk'.1 hk'.2 hl (by rw [L_len]; exact a2)
    rw [L_len, ea] at e
    rw [if_pos hk, e] at hr
    exact ⟨_, fun w => sBin4 sg a b n w ha hb va vb ea eb hk'.1 hk'.2, fun w => iBin4 sg a b n n _ _ _ _ _ _ _ w ha hb va vb ea eb rfl rfl rfl rfl (by omega) (fun _ W _ => iAddV n n _ _ _ _ (by omega) (by omega) W) hr⟩
  · rw [if_neg hk] at hr
    exact ⟨_, fun w => sBin4u sg a b n w ha hb va vb ea eb (by simpa using hk), fun w => iBin4 sg a b n n _ _ _ _ _ _ _ w ha hb va vb ea eb rfl rfl rfl rfl (by omega) (fun _ W _ => iAddV n n _ _ _ _ (by omega) (by omega) W) hr⟩
theorem both5 {sg : Bool} {a b : ByteArray} {n : Nat} (ha : a.size ≤ maxLen) (hb : b.size ≤ maxLen) (va : Vb.okV (L a) = true) (vb : Vb.okV (L b) = true) (ea : a.size = n) (eb : b.size = n) : Both 5 sg a b := by
  obtain ⟨a1, a2, a3⟩ := (okV_iff a).1 va
  have hl : (L a).length = (L b).length := by rw [L_len, L_len]; omega
  have hr := reck_txt hl (by rw [L_len]; exact a2) (Vb.wh (L a) - Vb.wh (L b))
  rw [L_len, ea] at hr
  by_cases hk : ((L a).all Vb.knB && (L b).all Vb.knB) = true
  · have hk' := hk
    rw [Bool.and_eq_true] at hk'
    have e := subw_num hk'.1 hk'.2 hl (by rw [L_len]; exact a2)
    rw [L_len, ea] at e
    rw [if_pos hk, e] at hr
    exact ⟨_, fun w => sBin5 sg a b n w ha hb va vb ea eb hk'.1 hk'.2, fun w => iBin5 sg a b n n _ _ _ _ _ _ _ w ha hb va vb ea eb rfl rfl rfl rfl (by omega) (fun _ W _ => iSubV n n _ _ _ _ (by omega) (by omega) W) hr⟩
  · rw [if_neg hk] at hr
    exact ⟨_, fun w => sBin5u sg a b n w ha hb va vb ea eb (by simpa using hk), fun w => iBin5 sg a b n n _ _ _ _ _ _ _ w ha hb va vb ea eb rfl rfl rfl rfl (by omega) (fun _ W _ => iSubV n n _ _ _ _ (by omega) (by omega) W) hr⟩
theorem both6 {sg : Bool} {a b : ByteArray} {n : Nat} (ha : a.size ≤ maxLen) (hb : b.size ≤ maxLen) (va : Vb.okV (L a) = true) (vb : Vb.okV (L b) = true) (ea : a.size = n) (eb : b.size = n) : Both 6 sg a b := by
  obtain ⟨a1, a2, a3⟩ := (okV_iff a).1 va
  have hl : (L a).length = (L b).length := by rw [L_len, L_len]; omega
  have hr := reck_txt hl (by rw [L_len]; exact a2) (Vb.wh (L a) * Vb.wh (L b))
  rw [L_len, ea] at hr
  by_cases hk : ((L a).all Vb.knB && (L b).all Vb.knB) = true
  · have hk' := hk
    rw [Bool.and_eq_true] at hk'
    have e := mul_num hk'.1 hk'.2 hl (by rw [L_len]; exact a2)
    rw [L_len, ea] at e
    rw [if_pos hk, e] at hr
    exact ⟨_, fun w => sBin6 sg a b n w ha hb va vb ea eb hk'.1 hk'.2, fun w => iBin6 sg a b n n _ _ _ _ _ _ _ w ha hb va vb ea eb rfl rfl rfl rfl (by omega) (fun _ W _ => iMulV n n _ _ _ _ (by omega) (by omega) W) hr⟩
  · rw [if_neg hk] at hr
    exact ⟨_, fun w => sBin6u sg a b n w ha hb va vb ea eb (by simpa using hk), fun w => iBin6 sg a b n n _ _ _ _ _ _ _ w ha hb va vb ea eb rfl rfl rfl rfl (by omega) (fun _ W _ => iMulV n n _ _ _ _ (by omega) (by omega) W) hr⟩
theorem both9 {sg : Bool} {a b : ByteArray} {n : Nat} (ha : a.size ≤ maxLen) (hb : b.size ≤ maxLen) (va : Vb.okV (L a) = true) (vb : Vb.okV (L b) = true) (ea : a.size = n) (eb : b.size = n) : Both 9 sg a b := by
  obtain ⟨a1, a2, a3⟩ := (okV_iff a).1 va
  obtain ⟨b1, b2, b3⟩ := (okV_iff b).1 vb
  have e := eq_txt a3 b3 (by rw [L_len, L_len]; omega) (by rw [L_len]; exact a2)
  rw [L_len, ea] at e
  refine ⟨_, fun w => sBin9 sg a b n w ha hb va vb ea eb, fun w => iBin9 sg a b n 1 _ _ _ _ _ _ _ w ha hb va vb ea eb rfl rfl rfl rfl (by omega) (fun _ W _ => iEqual n n _ _ _ _ (by omega) (by omega) W) ?_⟩
  rw [e]
  exact txt_one _ (eqV_valid _ _ _ _ _ _)
theorem both10 {sg : Bool} {a b : ByteArray} {n : Nat} (ha : a.size ≤ maxLen) (hb : b.size ≤ maxLen) (va : Vb.okV (L a) = true) (vb : Vb.okV (L b) = true) (ea : a.size = n) (eb : b.size = n) : Both 10 sg a b := by
  obtain ⟨a1, a2, a3⟩ := (okV_iff a).1 va
  obtain ⟨b1, b2, b3⟩ := (okV_iff b).1 vb
  have e := eq_txt a3 b3 (by rw [L_len, L_len]; omega) (by rw [L_len]; exact a2)
  rw [L_len, ea] at e
  refine ⟨_, fun w => sBin10 sg a b n w ha hb va vb ea eb, fun w => iBin10 sg a b n 1 _ _ _ _ _ _ _ w ha hb va vb ea eb rfl rfl rfl rfl (by omega) (fun _ W _ => iUnequal n n _ _ _ _ (by omega) (by omega) W) ?_⟩
  rw [e]
  exact not_one _ (eqV_valid _ _ _ _ _ _)
theorem both11 {sg : Bool} {a b : ByteArray} {n : Nat} (ha : a.size ≤ maxLen) (hb : b.size ≤ maxLen) (va : Vb.okV (L a) = true) (vb : Vb.okV (L b) = true) (ea : a.size = n) (eb : b.size = n) : Both 11 sg a b := by
  obtain ⟨a1, a2, a3⟩ := (okV_iff a).1 va
  obtain ⟨b1, b2, b3⟩ := (okV_iff b).1 vb
  have e := same_words a3 b3 (by rw [L_len]; exact a2) (by rw [L_len]; exact b2)
  rw [L_len, L_len, ea, eb] at e
  refine ⟨_, fun w => sBin11 sg a b n w ha hb va vb ea eb, fun w => iBin11 sg a b n 1 _ _ _ _ _ _ _ w ha hb va vb ea eb rfl rfl rfl rfl (by omega) (fun _ W _ => iSame n n _ _ _ _ W) ?_⟩
  by_cases h : L a = L b
  · rw [if_pos (e.2 h), decide_eq_true h]; rfl
  · rw [if_neg (fun x => h (e.1 x)), decide_eq_false h]; rfl
theorem both17 {sg : Bool} {a b : ByteArray} {n m : Nat} (ha : a.size ≤ maxLen) (hb : b.size ≤ maxLen) (va : Vb.okV (L a) = true) (vb : Vb.okV (L b) = true) (ea : a.size = n) (eb : b.size = m) : Both 17 sg a b := by
  obtain ⟨a1, a2, a3⟩ := (okV_iff a).1 va
  obtain ⟨b1, b2, b3⟩ := (okV_iff b).1 vb
  have e1 := tru_truth a3 (by rw [L_len]; exact a2)
  have e2 := tru_truth b3 (by rw [L_len]; exact b2)
  rw [L_len, ea] at e1
  rw [L_len, eb] at e2
  refine ⟨_, fun w => sBin17 sg a b n m w ha hb va vb ea eb, fun w => iBin17 sg a b n m 1 _ _ _ _ _ _ _ w ha hb va vb ea eb rfl rfl rfl rfl (by omega) (fun _ W _ => iBoth n m _ _ _ _ (by omega) (by omega) _ _ (fun w => iAnd 1 1 _ _ _ _ w) W) ?_⟩
  rw [e1, e2]
  exact both_txt _ _ (truth_valid _) (truth_valid _)
theorem both18 {sg : Bool} {a b : ByteArray} {n m : Nat} (ha : a.size ≤ maxLen) (hb : b.size ≤ maxLen) (va : Vb.okV (L a) = true) (vb : Vb.okV (L b) = true) (ea : a.size = n) (eb : b.size = m) : Both 18 sg a b := by
  obtain ⟨a1, a2, a3⟩ := (okV_iff a).1 va
  obtain ⟨b1, b2, b3⟩ := (okV_iff b).1 vb
  have e1 := tru_truth a3 (by rw [L_len]; exact a2)
  have e2 := tru_truth b3 (by rw [L_len]; exact b2)
  rw [L_len, ea] at e1
  rw [L_len, eb] at e2
  refine ⟨_, fun w => sBin18 sg a b n m w ha hb va vb ea eb, fun w => iBin18 sg a b n m 1 _ _ _ _ _ _ _ w ha hb va vb ea eb rfl rfl rfl rfl (by omega) (fun _ W _ => iEither n m _ _ _ _ (by omega) (by omega) _ _ (fun w => iOr 1 1 _ _ _ _ w) W) ?_⟩
  rw [e1, e2]
  exact either_txt _ _ (truth_valid _) (truth_valid _)
theorem both14 {sg : Bool} {a b : ByteArray} {n m : Nat} (ha : a.size ≤ maxLen) (hb : b.size ≤ maxLen) (va : Vb.okV (L a) = true) (vb : Vb.okV (L b) = true) (ea : a.size = n) (eb : b.size = m) : Both 14 sg a b := by
  obtain ⟨a1, a2, a3⟩ := (okV_iff a).1 va
  obtain ⟨b1, b2, b3⟩ := (okV_iff b).1 vb
  have kb : (Vb.kn (L b) = Vb.ones m) ↔ (L b).all Vb.knB = true := by have := Vb.kn_ones (l := L b) (by rw [L_len]; exact b2); rw [L_len, eb] at this; exact this
  by_cases hk : (L b).all Vb.knB = true
  · refine ⟨_, fun w => sBin14 sg a b n m w ha hb va vb ea eb hk, fun w => iBin14 sg a b n m n _ _ _ _ _ _ _ w ha hb va vb ea eb rfl rfl rfl rfl (by omega) (fun _ W _ => iUp n m _ _ _ _ (by omega) (by omega) (kb.2 hk) W) ?_⟩
    have := up_txt a3 (by rw [L_len]; exact a2) (Vb.wh (L b)).toNat
    rw [L_len, ea, Vb.wh_toNat hk (by rw [L_len]; exact b2)] at this
    rw [Vb.wh_toNat hk (by rw [L_len]; exact b2)]
    exact this
  · exact ⟨_, fun w => sBin14u sg a b n m w ha hb va vb ea eb (by simpa using hk), fun w => iBin14 sg a b n m n _ _ _ _ _ _ _ w ha hb va vb ea eb rfl rfl rfl rfl (by omega) (fun _ W _ => iUpU n m _ _ _ _ (by omega) (fun h => hk (kb.1 h)) W) (txt_x _)⟩
theorem both15 {sg : Bool} {a b : ByteArray} {n m : Nat} (ha : a.size ≤ maxLen) (hb : b.size ≤ maxLen) (va : Vb.okV (L a) = true) (vb : Vb.okV (L b) = true) (ea : a.size = n) (eb : b.size = m) : Both 15 sg a b := by
  obtain ⟨a1, a2, a3⟩ := (okV_iff a).1 va
  obtain ⟨b1, b2, b3⟩ := (okV_iff b).1 vb
  have kb : (Vb.kn (L b) = Vb.ones m) ↔ (L b).all Vb.knB = true := by have := Vb.kn_ones (l := L b) (by rw [L_len]; exact b2); rw [L_len, eb] at this; exact this
  by_cases hk : (L b).all Vb.knB = true
  · refine ⟨_, fun w => sBin15 sg a b n m w ha hb va vb ea eb hk, fun w => iBin15 sg a b n m n _ _ _ _ _ _ _ w ha hb va vb ea eb rfl rfl rfl rfl (by omega) (fun _ W _ => iDownZero n m _ _ _ _ _ _ (fun w => iDown n m 1 _ _ _ _ 1#64 0#64 (by omega) (by omega) (kb.2 hk) w) W) ?_⟩
    have := down_txt a3 (by rw [L_len]; exact a2) (Vb.wh (L b)).toNat 1#64 0#64
    rw [L_len, ea, Vb.wh_toNat hk (by rw [L_len]; exact b2)] at this
    rw [Vb.wh_toNat hk (by rw [L_len]; exact b2)]
    exact this
  · exact ⟨_, fun w => sBin15u sg a b n m w ha hb va vb ea eb (by simpa using hk), fun w => iBin15 sg a b n m n _ _ _ _ _ _ _ w ha hb va vb ea eb rfl rfl rfl rfl (by omega) (fun _ W _ => iDownZero n m _ _ _ _ _ _ (fun w => iDownU n m 1 _ _ _ _ 1#64 0#64 (by omega) (fun h => hk (kb.1 h)) w) W) (txt_x _)⟩
theorem top_bit (x : BitVec 64) (k : Nat) : (x >>> k &&& Vb.ones 1).getLsbD 0 = x.getLsbD k := by
  rw [BitVec.getLsbD_and, Vb.getLsbD_ones, BitVec.getLsbD_ushiftRight]; simp
theorem head_letter {l : List UInt8} (hv : l.all Vb.isV = true) (h1 : 1 ≤ l.length) (h2 : l.length ≤ 64) : Vb.letter ((Vb.kn l).getLsbD (l.length - 1)) ((Vb.wh l).getLsbD (l.length - 1)) = l.headD 0 := by
  have h := letter_at hv (i := l.length - 1) (by omega) h2
  have e : Vb.rat l (l.length - 1) = some (l.headD 0) := by
    unfold Vb.rat
    rw [List.getElem?_reverse (by omega), show l.length - 1 - (l.length - 1) = 0 by omega]
    cases l with
    | nil => simp at h1
    | cons c t => rfl
  rw [e] at h
  exact Option.some.inj h
theorem lsV_valid (n m : Nat) (k h p q : BitVec 64) (sg : Bool) : Vb.isV (lsV n m k h p q sg) = true := by
  unfold lsV
  split
  · cases ltV n m h q sg <;> rfl
  · rfl
theorem sI_inj {a b : List UInt8} (ka : a.all Vb.knB = true) (kb : b.all Vb.knB = true) (hl : a.length = b.length) (h1 : 1 ≤ a.length) (h : sI a = sI b) : a = b := by
  apply Vb.known_ext ka kb hl
  have e1 := num_sI ka h1
  have e2 := num_sI kb (by omega)
  rw [h] at e1
  rw [← hl, ← e1] at e2
  have n1 := Vb.num_lt a
  have n2 := Vb.num_lt b
  rw [← hl] at n2
  have := mod_ofInt e2
  rw [Nat.mod_eq_of_lt n1, Nat.mod_eq_of_lt n2] at this
  exact this.symm
theorem le_known {a b : List UInt8} (ka : a.all Vb.knB = true) (kb : b.all Vb.knB = true) (hl : a.length = b.length) (h1 : 1 ≤ a.length) (h2 : a.length ≤ 64) (sg : Bool) : (!ltL sg b a) = (decide (a = b) || ltL sg a b) := by
  have e1 := lt_known ka kb hl h1 h2 sg
  have e2 := lt_known kb ka hl.symm (by omega) (by omega) sg
  rw [← e1, ← e2]
  cases sg
  · rw [ltV_no, ltV_no]
    unfold U
    rw [Vb.wh_toNat ka h2, Vb.wh_toNat kb (by omega)]
    by_cases h : a = b
    · subst h; simp
    · have hne : Vb.num a ≠ Vb.num b := fun e => h (Vb.known_ext ka kb hl e)
      rw [decide_eq_false h, Bool.false_or, Bool.eq_iff_iff]
      simp only [Bool.not_eq_true', decide_eq_false_iff_not, decide_eq_true_eq]
      omega
  · have s1 := sgn_sI ka h1 h2
    have s2 := sgn_sI kb (by omega) (by omega)
    rw [ltV_sg, ltV_sg, ← hl, s1]
    rw [← hl] at s2
    rw [s2]
    by_cases h : a = b
    · subst h; simp
    · have hne : sI a ≠ sI b := fun e => h (sI_inj ka kb hl h1 e)
      rw [decide_eq_false h, Bool.false_or, Bool.eq_iff_iff]
      simp only [Bool.not_eq_true', decide_eq_false_iff_not, decide_eq_true_eq]
      omega
theorem notB_bl (c : Bool) : notB (bl c) = bl (!c) := by cases c <;> rfl
theorem both16 {sg : Bool} {a b : ByteArray} {n m : Nat} (ha : a.size ≤ maxLen) (hb : b.size ≤ maxLen) (va : Vb.okV (L a) = true) (vb : Vb.okV (L b) = true) (ea : a.size = n) (eb : b.size = m) : Both 16 sg a b := by
  obtain ⟨a1, a2, a3⟩ := (okV_iff a).1 va
  obtain ⟨b1, b2, b3⟩ := (okV_iff b).1 vb
  have kb : (Vb.kn (L b) = Vb.ones m) ↔ (L b).all Vb.knB = true := by have := Vb.kn_ones (l := L b) (by rw [L_len]; exact b2); rw [L_len, eb] at this; exact this
  by_cases hk : (L b).all Vb.knB = true
  · refine ⟨_, fun w => sBin16 sg a b n m w ha hb va vb ea eb hk, fun w => iBin16 sg a b n m n _ _ _ _ _ _ _ w ha hb va vb ea eb rfl rfl rfl rfl (by omega) (fun _ W _ => iDownSign n m _ _ _ _ _ _ _ _ (fun w => iHighest n _ _ (by omega) (by omega) w) (fun w => iDown n m 1 _ _ _ _ _ _ (by omega) (by omega) (kb.2 hk) w) W) ?_⟩
    have := down_txt a3 (by rw [L_len]; exact a2) (Vb.wh (L b)).toNat (Vb.kn (L a) >>> (n - 1) &&& Vb.ones 1) (Vb.wh (L a) >>> (n - 1) &&& Vb.ones 1)
    have hh := head_letter a3 (by rw [L_len]; exact a1) (by rw [L_len]; exact a2)
    rw [L_len, ea] at hh
    rw [L_len, ea, Vb.wh_toNat hk (by rw [L_len]; exact b2), top_bit, top_bit, hh] at this
    rw [Vb.wh_toNat hk (by rw [L_len]; exact b2), top_bit, top_bit]
    exact this
  · exact ⟨_, fun w => sBin16u sg a b n m w ha hb va vb ea eb (by simpa using hk), fun w => iBin16 sg a b n m n _ _ _ _ _ _ _ w ha hb va vb ea eb rfl rfl rfl rfl (by omega) (fun _ W _ => iDownSign n m _ _ _ _ _ _ _ _ (fun w => iHighest n _ _ (by omega) (by omega) w) (fun w => iDownU n m 1 _ _ _ _ _ _ (by omega) (fun h => hk (kb.1 h)) w) W) (txt_x _)⟩
theorem both12 {sg : Bool} {a b : ByteArray} {n : Nat} (ha : a.size ≤ maxLen) (hb : b.size ≤ maxLen) (va : Vb.okV (L a) = true) (vb : Vb.okV (L b) = true) (ea : a.size = n) (eb : b.size = n) : Both 12 sg a b := by
  obtain ⟨a1, a2, a3⟩ := (okV_iff a).1 va
  obtain ⟨b1, b2, b3⟩ := (okV_iff b).1 vb
  have hl : (L a).length = (L b).length := by rw [L_len, L_len]; omega
  have kka : (Vb.kn (L a) = Vb.ones n) ↔ (L a).all Vb.knB = true := by have := Vb.kn_ones (l := L a) (by rw [L_len]; exact a2); rw [L_len, ea] at this; exact this
  have kkb : (Vb.kn (L b) = Vb.ones n) ↔ (L b).all Vb.knB = true := by have := Vb.kn_ones (l := L b) (by rw [L_len]; exact b2); rw [L_len, eb] at this; exact this
  by_cases hk : ((L a).all Vb.knB && (L b).all Vb.knB) = true
  · have hk' := hk
    rw [Bool.and_eq_true] at hk'
    have e := lt_known hk'.1 hk'.2 hl (by rw [L_len]; exact a1) (by rw [L_len]; exact a2) sg
    rw [L_len, ea] at e
    refine ⟨_, fun w => sBin12 sg a b n w ha hb va vb ea eb hk'.1 hk'.2, fun w => iBin12 sg a b n 1 _ _ _ _ _ _ _ w ha hb va vb ea eb rfl rfl rfl rfl (by omega) (fun b0 W hc => iCLt b0 n n 1 _ _ _ _ _ _ sg (fun w => iLess n n _ _ _ _ sg (by omega) (by omega) w) W hc) ?_⟩
    rw [txt_one _ (lsV_valid _ _ _ _ _ _ _)]
    unfold lsV
    rw [if_pos ⟨kka.2 hk'.1, kkb.2 hk'.2⟩, e]
  · refine ⟨_, fun w => sBin12u sg a b n w ha hb va vb ea eb (by simpa using hk), fun w => iBin12 sg a b n 1 _ _ _ _ _ _ _ w ha hb va vb ea eb rfl rfl rfl rfl (by omega) (fun b0 W hc => iCLt b0 n n 1 _ _ _ _ _ _ sg (fun w => iLess n n _ _ _ _ sg (by omega) (by omega) w) W hc) ?_⟩
    rw [txt_one _ (lsV_valid _ _ _ _ _ _ _)]
    unfold lsV
    rw [if_neg (fun h => hk (by rw [kka.1 h.1, kkb.1 h.2]; rfl))]
theorem both13 {sg : Bool} {a b : ByteArray} {n : Nat} (ha : a.size ≤ maxLen) (hb : b.size ≤ maxLen) (va : Vb.okV (L a) = true) (vb : Vb.okV (L b) = true) (ea : a.size = n) (eb : b.size = n) : Both 13 sg a b := by
  obtain ⟨a1, a2, a3⟩ := (okV_iff a).1 va
  obtain ⟨b1, b2, b3⟩ := (okV_iff b).1 vb
  have hl : (L a).length = (L b).length := by rw [L_len, L_len]; omega
  have kka : (Vb.kn (L a) = Vb.ones n) ↔ (L a).all Vb.knB = true := by have := Vb.kn_ones (l := L a) (by rw [L_len]; exact a2); rw [L_len, ea] at this; exact this
  have kkb : (Vb.kn (L b) = Vb.ones n) ↔ (L b).all Vb.knB = true := by have := Vb.kn_ones (l := L b) (by rw [L_len]; exact b2); rw [L_len, eb] at this; exact this
  by_cases hk : ((L a).all Vb.knB && (L b).all Vb.knB) = true
  · have hk' := hk
    rw [Bool.and_eq_true] at hk'
    have e := lt_known hk'.2 hk'.1 hl.symm (by rw [L_len]; exact b1) (by rw [L_len]; exact b2) sg
    rw [L_len, eb] at e
    have e2 := le_known hk'.1 hk'.2 hl (by rw [L_len]; exact a1) (by rw [L_len]; exact a2) sg
    refine ⟨_, fun w => sBin13 sg a b n w ha hb va vb ea eb hk'.1 hk'.2, fun w => iBin13 sg a b n 1 _ _ _ _ _ _ _ w ha hb va vb ea eb rfl rfl rfl rfl (by omega) (fun b0 W hc => iCLe b0 n n 1 _ _ _ _ _ _ sg (fun w => iAtMost n n _ _ _ _ sg (by omega) (by omega) w) W hc) ?_⟩
    rw [not_one _ (lsV_valid _ _ _ _ _ _ _)]
    unfold lsV
    rw [if_pos ⟨kkb.2 hk'.2, kka.2 hk'.1⟩, e, notB_bl, e2]
  · refine ⟨_, fun w => sBin13u sg a b n w ha hb va vb ea eb (by simpa using hk), fun w => iBin13 sg a b n 1 _ _ _ _ _ _ _ w ha hb va vb ea eb rfl rfl rfl rfl (by omega) (fun b0 W hc => iCLe b0 n n 1 _ _ _ _ _ _ sg (fun w => iAtMost n n _ _ _ _ sg (by omega) (by omega) w) W hc) ?_⟩
    rw [not_one _ (lsV_valid _ _ _ _ _ _ _)]
    unfold lsV
    rw [if_neg (fun h => hk (by rw [kkb.1 h.1, kka.1 h.2]; rfl))]
    rfl
theorem sI_range {l : List UInt8} (hk : l.all Vb.knB = true) (h1 : 1 ≤ l.length) (h2 : l.length ≤ 64) : -9223372036854775808 ≤ sI l ∧ sI l ≤ 9223372036854775807 := by
  cases l with
  | nil => simp at h1
  | cons c t =>
    have hp : 2 ^ t.length ≤ 2 ^ 63 := Nat.pow_le_pow_right (by decide) (by simp at h2; omega)
    have ht := Vb.num_lt t
    rcases known_top (List.all_eq_true.1 hk c (by simp)) with rfl | rfl
    · rw [sI_one]; omega
    · rw [sI_zero]; omega
theorem sI_ne0 {l : List UInt8} (hk : l.all Vb.knB = true) (h1 : 1 ≤ l.length) (hz : 0 < Vb.num l) : ¬ sI l = 0 := by
  cases l with
  | nil => simp at h1
  | cons c t =>
    have ht := Vb.num_lt t
    rcases known_top (List.all_eq_true.1 hk c (by simp)) with rfl | rfl
    · rw [sI_one]; omega
    · rw [sI_zero]; rw [num_zero] at hz; omega
theorem ones_ne0 {n : Nat} (h1 : 1 ≤ n) (h2 : n ≤ 64) : ¬ (0#64 = Vb.ones n) := by
  intro e
  have := congrArg BitVec.toNat e
  rw [Vb.ones_toNat n h2] at this
  have hp : 2 ^ 1 ≤ 2 ^ n := Nat.pow_le_pow_right (by decide) h1
  simp at this
  omega
theorem wh_zero {l : List UInt8} (hk : l.all Vb.knB = true) (h2 : l.length ≤ 64) : (Vb.wh l = 0#64) ↔ Vb.num l = 0 := by
  rw [← Vb.wh_toNat hk h2]
  constructor
  · intro h; rw [h]; rfl
  · intro h; exact BitVec.eq_of_toNat_eq (by rw [h]; rfl)
theorem negq_mod {a : List UInt8} (ka : a.all Vb.knB = true) (h1 : 1 ≤ a.length) (h2 : a.length ≤ 64) : (((0#64 - Vb.wh a &&& Vb.ones a.length)).toNat : Int) % ((2 ^ a.length : Nat) : Int) = (sI a).tdiv (-1) % ((2 ^ a.length : Nat) : Int) := by
  rw [Vb.and_ones_toNat _ _ h2, Int.natCast_emod, Int.emod_emod_of_dvd _ (Int.dvd_refl _), BitVec.toNat_sub, Int.natCast_emod, Int.emod_emod_of_dvd _ (dvd64i h2), Vb.wh_toNat ka h2, Int.tdiv_neg, Int.tdiv_one]
  have hn := Vb.num_lt a
  have hp : 2 ^ a.length ≤ 2 ^ 64 := Nat.pow_le_pow_right (by decide) h2
  have e : ((2 ^ 64 - Vb.num a + (0#64).toNat : Nat) : Int) = (0 - (Vb.num a : Int)) + ((2 ^ 64 : Nat) : Int) := by
    rw [show (0#64).toNat = 0 from rfl]; omega
  obtain ⟨c, hc⟩ := dvd64i h2
  rw [e, hc, Int.add_mul_emod_self_left, Int.sub_emod, num_sI ka h1, ← Int.sub_emod, Int.zero_sub]
theorem ofq_mod (n : Nat) (h2 : n ≤ 64) (v : Int) : (((BitVec.ofInt 64 v &&& Vb.ones n)).toNat : Int) % ((2 ^ n : Nat) : Int) = v % ((2 ^ n : Nat) : Int) := by
  rw [Vb.and_ones_toNat _ _ h2, Int.natCast_emod, Int.emod_emod_of_dvd _ (Int.dvd_refl _), BitVec.toNat_ofInt]
  have e : (((v % ((2 ^ 64 : Nat) : Int)).toNat : Nat) : Int) = v % ((2 ^ 64 : Nat) : Int) := by omega
  rw [e, Int.emod_emod_of_dvd _ (dvd64i h2)]
/-- What the quotient is: unknown, or words that are the text's and, modulo 2 to the width, the numbers'. -/
theorem quot_is {sg : Bool} {a b : ByteArray} {n : Nat} (ha : a.size ≤ maxLen) (hb : b.size ≤ maxLen) (va : Vb.okV (L a) = true) (vb : Vb.okV (L b) = true) (ea : a.size = n) (eb : b.size = n) : (((L a).all Vb.knB && (L b).all Vb.knB) = false ∨ Vb.num (L b) = 0) ∧ (∀ w, Calls Try.prog 88 #[V n (Vb.kn (L a)) (Vb.wh (L a)), V n (Vb.kn (L b)) (Vb.wh (L b)), .bool sg] w fun e w' => e = .returned (V n 0#64 0#64) ∧ Below w.heap.size w w') ∨
    (((L a).all Vb.knB = true ∧ (L b).all Vb.knB = true) ∧ 0 < Vb.num (L b)) ∧ ∃ Q2, (∀ w, Calls Try.prog 88 #[V n (Vb.kn (L a)) (Vb.wh (L a)), V n (Vb.kn (L b)) (Vb.wh (L b)), .bool sg] w fun e w' => e = .returned (V n (Vb.ones n) Q2) ∧ Below w.heap.size w w') ∧ Vb.txt n (Vb.ones n) Q2 = divL n sg (L a) (L b) ∧ Vb.nTxt n (Vb.wh (L a) - (Q2 * Vb.wh (L b) &&& Vb.ones n)).toNat = remL n sg (L a) (L b) := by
  obtain ⟨a1, a2, a3⟩ := (okV_iff a).1 va
  obtain ⟨b1, b2, b3⟩ := (okV_iff b).1 vb
  have la : (L a).length = n := by rw [L_len]; exact ea
  have lb : (L b).length = n := by rw [L_len]; exact eb
  have hl : (L a).length = (L b).length := by omega
  have h1 : 1 ≤ (L a).length := by omega
  have h2 : (L a).length ≤ 64 := by omega
  have kka : (Vb.kn (L a) = Vb.ones n) ↔ (L a).all Vb.knB = true := by have := Vb.kn_ones (l := L a) h2; rw [la] at this; exact this
  have kkb : (Vb.kn (L b) = Vb.ones n) ↔ (L b).all Vb.knB = true := by have := Vb.kn_ones (l := L b) (by omega); rw [lb] at this; exact this
  by_cases hA : (L a).all Vb.knB = true
  · by_cases hB : (L b).all Vb.knB = true
    · by_cases hz : Vb.num (L b) = 0
      · exact .inl ⟨.inr hz, fun w => iQuotC n n _ _ _ _ sg (by omega) (by omega) (kka.2 hA) (kkb.2 hB) ((wh_zero hB (by omega)).2 hz) w⟩
      · have hz' : 0 < Vb.num (L b) := by omega
        have hq : ¬ Vb.wh (L b) = 0#64 := fun h => hz ((wh_zero hB (by omega)).1 h)
        refine .inr ⟨⟨⟨hA, hB⟩, hz'⟩, ?_⟩
        cases sg
        · refine ⟨_, fun w => iQuotD n n _ _ _ _ (by omega) (by omega) (kka.2 hA) (kkb.2 hB) hq w, ?_, ?_⟩
          · have := divu_txt hA hB hl h2; rw [la] at this; exact this
          · have := remu_txt hA hB hl h2; rw [la] at this; exact this
        · have sX := sgn_sI hA h1 h2
          have sY := sgn_sI hB (by omega) (by omega)
          rw [la] at sX
          rw [lb] at sY
          by_cases hm : sI (L b) = -1
          · have hr := negq_mod hA h1 h2
            rw [← hm] at hr
            have e1 : rkK n n (Vb.ones n) (Vb.kn (L a)) = Vb.ones n := by unfold rkK; rw [if_pos ⟨rfl, kka.2 hA⟩]
            have e2 : rkH n n (Vb.ones n) (Vb.kn (L a)) (0#64 - Vb.wh (L a)) = 0#64 - Vb.wh (L a) &&& Vb.ones n := by unfold rkH; rw [if_pos ⟨rfl, kka.2 hA⟩]
            refine ⟨0#64 - Vb.wh (L a) &&& Vb.ones n, fun w => ?_, ?_, ?_⟩
            · have := iQuotE n n _ _ _ _ (by omega) (by omega) (kka.2 hA) (kkb.2 hB) hq _ _ sX sY hm w
              rw [e1, e2] at this; exact this
            · have ht := neg_txt (l := L a) h2
              rw [la, e1, e2, if_pos hA] at ht
              rw [ht]
              have := divm_txt hA hB hl h1 hm; rw [la] at this; exact this
            · have := rems_txt hA hB hl h1 h2 hz' _ hr; rw [la] at this; exact this
          · refine ⟨_, fun w => iQuotF n n _ _ _ _ (by omega) (by omega) (kka.2 hA) (kkb.2 hB) hq _ _ sX sY hm (sI_ne0 hB (by omega) hz') (sI_range hA h1 h2) (sI_range hB (by omega) (by omega)) w, ?_, ?_⟩
            · rw [Vb.num_txt _ _ (by omega)]
              have := divs_txt hA hB hl h1 h2; rw [la] at this; exact this
            · have hr := ofq_mod (L a).length h2 ((sI (L a)).tdiv (sI (L b)))
              have := rems_txt hA hB hl h1 h2 hz' _ hr; rw [la] at this; exact this
    · exact .inl ⟨.inl (by simp [hB]), fun w => iQuotB n n _ _ _ _ sg (by omega) (by omega) (kka.2 hA) (fun h => hB (kkb.1 h)) w⟩
  · exact .inl ⟨.inl (by simp [hA]), fun w => iQuotA n n _ _ _ _ sg (by omega) (by omega) (fun h => hA (kka.1 h)) w⟩
theorem both7 {sg : Bool} {a b : ByteArray} {n : Nat} (ha : a.size ≤ maxLen) (hb : b.size ≤ maxLen) (va : Vb.okV (L a) = true) (vb : Vb.okV (L b) = true) (ea : a.size = n) (eb : b.size = n) : Both 7 sg a b := by
  obtain ⟨a1, a2, a3⟩ := (okV_iff a).1 va
  rcases quot_is (sg := sg) ha hb va vb ea eb with ⟨hu, hq⟩ | ⟨⟨⟨hA, hB⟩, hz⟩, Q2, hq, ht, _⟩
  · by_cases hk : ((L a).all Vb.knB && (L b).all Vb.knB) = false
    · exact ⟨_, fun w => sBin7u sg a b n w ha hb va vb ea eb hk, fun w => iBin7 sg a b n n _ _ _ _ _ _ _ w ha hb va vb ea eb rfl rfl rfl rfl (by omega) (fun b0 W hc => iCDiv b0 n n n _ _ _ _ _ _ sg hq W hc) (txt_x _)⟩
    · have hz : Vb.num (L b) = 0 := hu.resolve_left hk
      have hk2 : (L a).all Vb.knB = true ∧ (L b).all Vb.knB = true := by simpa using hk
      exact ⟨_, fun w => sBin7z sg a b n w ha hb va vb ea eb hk2.1 hk2.2 hz, fun w => iBin7 sg a b n n _ _ _ _ _ _ _ w ha hb va vb ea eb rfl rfl rfl rfl (by omega) (fun b0 W hc => iCDiv b0 n n n _ _ _ _ _ _ sg hq W hc) (txt_x _)⟩
  · exact ⟨_, fun w => sBin7 sg a b n w ha hb va vb ea eb hA hB hz, fun w => iBin7 sg a b n n _ _ _ _ _ _ _ w ha hb va vb ea eb rfl rfl rfl rfl (by omega) (fun b0 W hc => iCDiv b0 n n n _ _ _ _ _ _ sg hq W hc) ht⟩
theorem both8 {sg : Bool} {a b : ByteArray} {n : Nat} (ha : a.size ≤ maxLen) (hb : b.size ≤ maxLen) (va : Vb.okV (L a) = true) (vb : Vb.okV (L b) = true) (ea : a.size = n) (eb : b.size = n) : Both 8 sg a b := by
  obtain ⟨a1, a2, a3⟩ := (okV_iff a).1 va
  obtain ⟨b1, b2, b3⟩ := (okV_iff b).1 vb
  have n1 : 1 ≤ n := by omega
  have n2 : n ≤ 64 := by omega
  have z0 := ones_ne0 n1 n2
  rcases quot_is (sg := sg) ha hb va vb ea eb with ⟨hu, hq⟩ | ⟨⟨⟨hA, hB⟩, hz⟩, Q2, hq, _, ht⟩
  · have m1 : rkK n n 0#64 (Vb.kn (L b)) = 0#64 := by unfold rkK; rw [if_neg (fun h => z0 h.1)]
    have m2 : rkH n n 0#64 (Vb.kn (L b)) (0#64 * Vb.wh (L b)) = 0#64 := by unfold rkH; rw [if_neg (fun h => z0 h.1)]
    have s1 : rkK n n (Vb.kn (L a)) 0#64 = 0#64 := by unfold rkK; rw [if_neg (fun h => z0 h.2)]
    have s2 : rkH n n (Vb.kn (L a)) 0#64 (Vb.wh (L a) - 0#64) = 0#64 := by unfold rkH; rw [if_neg (fun h => z0 h.2)]
    have hr : ∀ w, Calls Try.prog 90 #[V n (Vb.kn (L a)) (Vb.wh (L a)), V n (Vb.kn (L b)) (Vb.wh (L b)), .bool sg] w fun e w' => e = .returned (V n 0#64 0#64) ∧ Below w.heap.size w w' := fun w => by
      refine iRest n n _ _ _ _ 0#64 0#64 0#64 0#64 0#64 0#64 sg hq (fun w => ?_) (fun w => ?_) w
      · have := iMulV n n 0#64 0#64 (Vb.kn (L b)) (Vb.wh (L b)) n2 n2 w
        rw [m1, m2] at this; exact this
      · have := iSubV n n (Vb.kn (L a)) (Vb.wh (L a)) 0#64 0#64 n2 n2 w
        rw [s1, s2] at this; exact this
    by_cases hk : ((L a).all Vb.knB && (L b).all Vb.knB) = false
    · exact ⟨_, fun w => sBin8u sg a b n w ha hb va vb ea eb hk, fun w => iBin8 sg a b n n _ _ _ _ _ _ _ w ha hb va vb ea eb rfl rfl rfl rfl n2 (fun b0 W hc => iCRem b0 n n n _ _ _ _ _ _ sg hr W hc) (txt_x _)⟩
    · have hz : Vb.num (L b) = 0 := hu.resolve_left hk
      have hk2 : (L a).all Vb.knB = true ∧ (L b).all Vb.knB = true := by simpa using hk
      exact ⟨_, fun w => sBin8z sg a b n w ha hb va vb ea eb hk2.1 hk2.2 hz, fun w => iBin8 sg a b n n _ _ _ _ _ _ _ w ha hb va vb ea eb rfl rfl rfl rfl n2 (fun b0 W hc => iCRem b0 n n n _ _ _ _ _ _ sg hr W hc) (txt_x _)⟩
  · have kka : Vb.kn (L a) = Vb.ones n := by have := (Vb.kn_ones (l := L a) (by rw [L_len]; exact a2)).2 hA; rw [L_len, ea] at this; exact this
    have kkb : Vb.kn (L b) = Vb.ones n := by have := (Vb.kn_ones (l := L b) (by rw [L_len]; exact b2)).2 hB; rw [L_len, eb] at this; exact this
    have m1 : rkK n n (Vb.ones n) (Vb.kn (L b)) = Vb.ones n := by unfold rkK; rw [if_pos ⟨rfl, kkb⟩]
    have m2 : rkH n n (Vb.ones n) (Vb.kn (L b)) (Q2 * Vb.wh (L b)) = Q2 * Vb.wh (L b) &&& Vb.ones n := by unfold rkH; rw [if_pos ⟨rfl, kkb⟩]
    have s1 : rkK n n (Vb.kn (L a)) (Vb.ones n) = Vb.ones n := by unfold rkK; rw [if_pos ⟨kka, rfl⟩]
    have s2 : rkH n n (Vb.kn (L a)) (Vb.ones n) (Vb.wh (L a) - (Q2 * Vb.wh (L b) &&& Vb.ones n)) = (Vb.wh (L a) - (Q2 * Vb.wh (L b) &&& Vb.ones n)) &&& Vb.ones n := by unfold rkH; rw [if_pos ⟨kka, rfl⟩]
    have hr : ∀ w, Calls Try.prog 90 #[V n (Vb.kn (L a)) (Vb.wh (L a)), V n (Vb.kn (L b)) (Vb.wh (L b)), .bool sg] w fun e w' => e = .returned (V n (Vb.ones n) ((Vb.wh (L a) - (Q2 * Vb.wh (L b) &&& Vb.ones n)) &&& Vb.ones n)) ∧ Below w.heap.size w w' := fun w => by
      refine iRest n n _ _ _ _ (Vb.ones n) Q2 (Vb.ones n) (Q2 * Vb.wh (L b) &&& Vb.ones n) _ _ sg hq (fun w => ?_) (fun w => ?_) w
      · have := iMulV n n (Vb.ones n) Q2 (Vb.kn (L b)) (Vb.wh (L b)) n2 n2 w
        rw [m1, m2] at this; exact this
      · have := iSubV n n (Vb.kn (L a)) (Vb.wh (L a)) (Vb.ones n) (Q2 * Vb.wh (L b) &&& Vb.ones n) n2 n2 w
        rw [s1, s2] at this; exact this
    exact ⟨_, fun w => sBin8 sg a b n w ha hb va vb ea eb hA hB hz, fun w => iBin8 sg a b n n _ _ _ _ _ _ _ w ha hb va vb ea eb rfl rfl rfl rfl n2 (fun b0 W hc => iCRem b0 n n n _ _ _ _ _ _ sg hr W hc) (by rw [Vb.num_txt _ _ n2]; exact ht)⟩
set_option linter.unusedVariables false
set_option maxRecDepth 100000 in
set_option maxHeartbeats 400000 in
theorem sBinNoA (op : Int) (sg : Bool) (a b : ByteArray) (ha : a.size ≤ maxLen) (hb : b.size ≤ maxLen) (va : Vb.okV (L a) = false) (w : World) :
    Calls Try.prog 28 #[.int .i64 op, .bool sg, .string a, .string b] w fun e w' => e = .returned (.string (S [])) ∧ Below w.heap.size w w' := by
  have VA := hide va
  have HA := hide ha
  have HBB := hide hb
  clear va ha hb
  go_enter Try.func28, Try.ntmps28
  go_wp2_with (first | (go_at_call_of 35 (Value.string a); refine (sOK0 a _ (unhide HA) (unhide VA)).mono ?_; rintro e w' ⟨rfl, rfl⟩) | (go_at_call_of 35 (Value.string b); refine (sOK1 b _ (unhide HBB) (unhide VBB)).mono ?_; rintro e w' ⟨rfl, rfl⟩))
  go_ret
  exact ⟨rfl, brf _⟩
set_option maxRecDepth 100000 in
set_option maxHeartbeats 400000 in
theorem sBinNoB (op : Int) (sg : Bool) (a b : ByteArray) (ha : a.size ≤ maxLen) (hb : b.size ≤ maxLen) (va : Vb.okV (L a) = true) (vb : Vb.okV (L b) = false) (w : World) :
    Calls Try.prog 28 #[.int .i64 op, .bool sg, .string a, .string b] w fun e w' => e = .returned (.string (S [])) ∧ Below w.heap.size w w' := by
  have VA := hide va
  have HA := hide ha
  have HBB := hide hb
  have VBB := hide vb
  clear va ha hb vb
  go_enter Try.func28, Try.ntmps28
  go_wp2_with (first | (go_at_call_of 35 (Value.string a); refine (sOK1 a _ (unhide HA) (unhide VA)).mono ?_; rintro e w' ⟨rfl, rfl⟩) | (go_at_call_of 35 (Value.string b); refine (sOK0 b _ (unhide HBB) (unhide VBB)).mono ?_; rintro e w' ⟨rfl, rfl⟩))
  go_ret
  exact ⟨rfl, brf _⟩
set_option maxRecDepth 100000 in
set_option maxHeartbeats 400000 in
theorem sBinNoC (op : Int) (sg : Bool) (a b : ByteArray) (ha : a.size ≤ maxLen) (hb : b.size ≤ maxLen) (va : Vb.okV (L a) = true) (vb : Vb.okV (L b) = true) (h : op < 1) (w : World) :
    Calls Try.prog 28 #[.int .i64 op, .bool sg, .string a, .string b] w fun e w' => e = .returned (.string (S [])) ∧ Below w.heap.size w w' := by
  have VA := hide va
  have HA := hide ha
  have HBB := hide hb
  have VBB := hide vb
  clear va ha hb vb
  go_enter Try.func28, Try.ntmps28
  go_wp2_with (first | (go_at_call_of 35 (Value.string a); refine (sOK1 a _ (unhide HA) (unhide VA)).mono ?_; rintro e w' ⟨rfl, rfl⟩) | (go_at_call_of 35 (Value.string b); refine (sOK1 b _ (unhide HBB) (unhide VBB)).mono ?_; rintro e w' ⟨rfl, rfl⟩))
  go_ret
  exact ⟨rfl, brf _⟩
set_option maxRecDepth 100000 in
set_option maxHeartbeats 400000 in
theorem sBinNoD (op : Int) (sg : Bool) (a b : ByteArray) (ha : a.size ≤ maxLen) (hb : b.size ≤ maxLen) (va : Vb.okV (L a) = true) (vb : Vb.okV (L b) = true) (h : 18 < op) (w : World) :
    Calls Try.prog 28 #[.int .i64 op, .bool sg, .string a, .string b] w fun e w' => e = .returned (.string (S [])) ∧ Below w.heap.size w w' := by
  have h1 : ¬ op < 1 := by omega
  have VA := hide va
  have HA := hide ha
  have HBB := hide hb
  have VBB := hide vb
  clear va ha hb vb
  go_enter Try.func28, Try.ntmps28
  go_wp2_with (first | (go_at_call_of 35 (Value.string a); refine (sOK1 a _ (unhide HA) (unhide VA)).mono ?_; rintro e w' ⟨rfl, rfl⟩) | (go_at_call_of 35 (Value.string b); refine (sOK1 b _ (unhide HBB) (unhide VBB)).mono ?_; rintro e w' ⟨rfl, rfl⟩))
  go_ret
  exact ⟨rfl, brf _⟩
set_option maxRecDepth 100000 in
set_option maxHeartbeats 400000 in
theorem sBinNoE (op : Int) (sg : Bool) (a b : ByteArray) (ha : a.size ≤ maxLen) (hb : b.size ≤ maxLen) (va : Vb.okV (L a) = true) (vb : Vb.okV (L b) = true) (h1 : 1 ≤ op) (h2 : op ≤ 13) (hne : a.size ≠ b.size) (w : World) :
    Calls Try.prog 28 #[.int .i64 op, .bool sg, .string a, .string b] w fun e w' => e = .returned (.string (S [])) ∧ Below w.heap.size w w' := by
  have h3 : ¬ op < 1 := by omega
  have h4 : ¬ 18 < op := by omega
  have d1 : ((a.size : Int) != (b.size : Int)) = true := by rw [bne_iff_ne]; omega
  have VA := hide va
  have HA := hide ha
  have HBB := hide hb
  have VBB := hide vb
  clear va ha hb vb
  go_enter Try.func28, Try.ntmps28
  go_wp2_with (first | (go_at_call_of 35 (Value.string a); refine (sOK1 a _ (unhide HA) (unhide VA)).mono ?_; rintro e w' ⟨rfl, rfl⟩) | (go_at_call_of 35 (Value.string b); refine (sOK1 b _ (unhide HBB) (unhide VBB)).mono ?_; rintro e w' ⟨rfl, rfl⟩))
  go_ret
  exact ⟨rfl, brf _⟩
set_option maxHeartbeats 400000 in
theorem iAnyNo (j : Int) (w : World) (h2 : j ≤ 13) : Calls Try.prog 52 #[.int .i64 j] w fun e w' => e = .returned (.bool false) ∧ w = w' := by
  have h1 : ¬ 14 ≤ j := by omega
  go_enter Try.func52, Try.ntmps52
  go_wp2
  go_ret
  exact ⟨rfl, rfl⟩
set_option maxRecDepth 100000 in
set_option maxHeartbeats 400000 in
theorem iBinNoA (op : Int) (sg : Bool) (a b : ByteArray) (ha : a.size ≤ maxLen) (hb : b.size ≤ maxLen) (hv : (Vb.okV (L a) && Vb.okV (L b)) = false) (w : World) :
    Calls Try.prog 19 #[.int .i64 op, .bool sg, .string a, .string b] w fun e w' => e = .returned (.string (S [])) ∧ Below w.heap.size w w' := by
  have HV := hide hv
  clear hv
  go_enter Try.func19, Try.ntmps19
  go_wp2_with fail
  refine (iTwoOf_no a b _ ha hb (unhide HV)).mono ?_
  rintro e w1 ⟨⟨n, k, h, m, p, q, rfl⟩, hb1⟩
  unfold V
  go_wp2
  go_ret
  exact ⟨rfl, bal (bal hb1 _) _⟩
set_option maxRecDepth 100000 in
set_option maxHeartbeats 400000 in
theorem iBinNoC (op : Int) (sg : Bool) (a b : ByteArray) (ha : a.size ≤ maxLen) (hb : b.size ≤ maxLen) (va : Vb.okV (L a) = true) (vb : Vb.okV (L b) = true) (h : op < 1) (w : World) :
    Calls Try.prog 19 #[.int .i64 op, .bool sg, .string a, .string b] w fun e w' => e = .returned (.string (S [])) ∧ Below w.heap.size w w' := by
  have HT := hide (fun W => iTwoOf a b W ha hb va vb)
  clear va vb
  go_enter Try.func19, Try.ntmps19
  go_wp2_with fail
  refine (unhide HT _).mono ?_
  rintro e w1 ⟨rfl, hb1⟩
  unfold V
  go_wp2
  go_ret
  exact ⟨rfl, bal (bal hb1 _) _⟩
set_option maxRecDepth 100000 in
set_option maxHeartbeats 400000 in
theorem iBinNoD (op : Int) (sg : Bool) (a b : ByteArray) (ha : a.size ≤ maxLen) (hb : b.size ≤ maxLen) (va : Vb.okV (L a) = true) (vb : Vb.okV (L b) = true) (h : 18 < op) (w : World) :
    Calls Try.prog 19 #[.int .i64 op, .bool sg, .string a, .string b] w fun e w' => e = .returned (.string (S [])) ∧ Below w.heap.size w w' := by
  have h1 : ¬ op < 1 := by omega
  have HT := hide (fun W => iTwoOf a b W ha hb va vb)
  clear va vb
  go_enter Try.func19, Try.ntmps19
  go_wp2_with fail
  refine (unhide HT _).mono ?_
  rintro e w1 ⟨rfl, hb1⟩
  unfold V
  go_wp2
  go_ret
  exact ⟨rfl, bal (bal hb1 _) _⟩
set_option maxRecDepth 100000 in
set_option maxHeartbeats 400000 in
theorem iBinNoE (op : Int) (sg : Bool) (a b : ByteArray) (ha : a.size ≤ maxLen) (hb : b.size ≤ maxLen) (va : Vb.okV (L a) = true) (vb : Vb.okV (L b) = true) (h1 : 1 ≤ op) (h2 : op ≤ 13) (hne : a.size ≠ b.size) (w : World) :
    Calls Try.prog 19 #[.int .i64 op, .bool sg, .string a, .string b] w fun e w' => e = .returned (.string (S [])) ∧ Below w.heap.size w w' := by
  have h3 : ¬ op < 1 := by omega
  have h4 : ¬ 18 < op := by omega
  have d1 : ((a.size : Int) != (b.size : Int)) = true := by rw [bne_iff_ne]; omega
  have HT := hide (fun W => iTwoOf a b W ha hb va vb)
  clear va vb hne
  go_enter Try.func19, Try.ntmps19
  go_wp2_with fail
  refine (unhide HT _).mono ?_
  rintro e w1 ⟨rfl, hb1⟩
  unfold V
  go_wp2_with fail
  refine (iAnyNo op _ h2).mono ?_
  rintro e w2 ⟨rfl, rfl⟩
  go_wp2
  go_ret
  exact ⟨rfl, bal (bal hb1 _) _⟩
theorem bothAll (op : Int) (sg : Bool) (a b : ByteArray) (ha : a.size ≤ maxLen) (hb : b.size ≤ maxLen) : Both op sg a b := by
  by_cases va : Vb.okV (L a) = true
  · by_cases vb : Vb.okV (L b) = true
    · by_cases h1 : op < 1
      · exact ⟨[], sBinNoC op sg a b ha hb va vb h1, iBinNoC op sg a b ha hb va vb h1⟩
      by_cases h18 : 18 < op
      · exact ⟨[], sBinNoD op sg a b ha hb va vb h18, iBinNoD op sg a b ha hb va vb h18⟩
      by_cases h13 : op ≤ 13
      · by_cases hne : a.size = b.size
        · have hc : op = 1 ∨ op = 2 ∨ op = 3 ∨ op = 4 ∨ op = 5 ∨ op = 6 ∨ op = 7 ∨ op = 8 ∨ op = 9 ∨ op = 10 ∨ op = 11 ∨ op = 12 ∨ op = 13 := by omega
          rcases hc with rfl | rfl | rfl | rfl | rfl | rfl | rfl | rfl | rfl | rfl | rfl | rfl | rfl
          · exact both1 ha hb va vb rfl hne.symm
          · exact both2 ha hb va vb rfl hne.symm
          · exact both3 ha hb va vb rfl hne.symm
          · exact both4 ha hb va vb rfl hne.symm
          · exact both5 ha hb va vb rfl hne.symm
          · exact both6 ha hb va vb rfl hne.symm
          · exact both7 ha hb va vb rfl hne.symm
          · exact both8 ha hb va vb rfl hne.symm
          · exact both9 ha hb va vb rfl hne.symm
          · exact both10 ha hb va vb rfl hne.symm
          · exact both11 ha hb va vb rfl hne.symm
          · exact both12 ha hb va vb rfl hne.symm
          · exact both13 ha hb va vb rfl hne.symm
        · exact ⟨[], sBinNoE op sg a b ha hb va vb (by omega) h13 hne, iBinNoE op sg a b ha hb va vb (by omega) h13 hne⟩
      · have hc : op = 14 ∨ op = 15 ∨ op = 16 ∨ op = 17 ∨ op = 18 := by omega
        rcases hc with rfl | rfl | rfl | rfl | rfl
        · exact both14 ha hb va vb rfl rfl
        · exact both15 ha hb va vb rfl rfl
        · exact both16 ha hb va vb rfl rfl
        · exact both17 ha hb va vb rfl rfl
        · exact both18 ha hb va vb rfl rfl
    · have vb' : Vb.okV (L b) = false := by simpa using vb
      exact ⟨[], sBinNoB op sg a b ha hb va vb', iBinNoA op sg a b ha hb (by rw [vb', Bool.and_false])⟩
  · have va' : Vb.okV (L a) = false := by simpa using va
    exact ⟨[], sBinNoA op sg a b ha hb va', iBinNoA op sg a b ha hb (by rw [va', Bool.false_and])⟩
set_option maxRecDepth 100000 in
set_option maxHeartbeats 800000 in
theorem lBinary (op : Int) (sg : Bool) (a b : ByteArray) (w : World) (_hop : (Lit.int .i64 op).wf = true) (ha : a.size ≤ maxLen) (hb : b.size ≤ maxLen) :
    Calls Try.prog 15 #[.int .i64 op, .bool sg, .string a, .string b] w fun e w' => e = .returned (.bool true) ∧ Below w.heap.size w w' := by
  obtain ⟨R, hs, hi⟩ := bothAll op sg a b ha hb
  have HS := hide hs
  have HI := hide hi
  clear hs hi
  by_cases h : 1048576 < (a.size : Int)
  · go_enter Try.func15, Try.ntmps15
    go_wp2
    go_ret
    exact ⟨rfl, brf _⟩
  by_cases h' : 1048576 < (b.size : Int)
  · go_enter Try.func15, Try.ntmps15
    go_wp2
    go_ret
    exact ⟨rfl, brf _⟩
  · go_enter Try.func15, Try.ntmps15
    go_wp2_with fail
    refine (unhide HS _).mono ?_
    rintro e w1 ⟨rfl, hb1⟩
    go_wp2_with fail
    refine (unhide HI _).mono ?_
    rintro e w2 ⟨rfl, hb2⟩
    go_wp2
    go_ret
    exact ⟨rfl, btr hb1 hb2⟩
end Go.Proofs.Ytmbllgblbdfobaa
