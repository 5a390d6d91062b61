/- Specification's and program's Binary answer the same: bit by bit, sums, differences, products, equal, the same, both, either. -/
import Derived.Test.YtmbllgblbdfobaaBM5
import Derived.Test.YtmbllgblbdfobaaS16
import Derived.Test.YtmbllgblbdfobaaJ7
import Derived.Test.YtmbllgblbdfobaaJ8
namespace Go.Proofs.Ytmbllgblbdfobaa
open Go.RowKit
/-- Both answer the text R. -/
def Both (op : Int) (sg : Bool) (a b : ByteArray) : Prop := ∃ R : List UInt8, (∀ w, Calls Try.prog 28 #[.int .i64 op, .bool sg, .string a, .string b] w fun e w' => e = .returned (.string (S R)) ∧ Below w.heap.size w w') ∧ (∀ w, Calls Try.prog 19 #[.int .i64 op, .bool sg, .string a, .string b] w fun e w' => e = .returned (.string (S R)) ∧ Below w.heap.size w w')
theorem eqV_valid (n m : Nat) (k h p q : BitVec 64) : Vb.isV (eqV n m k h p q) = true := by
  unfold eqV
  split
  · rfl
  · split <;> rfl
section
variable {sg : Bool} {a b : ByteArray} {n : Nat} (ha : a.size ≤ maxLen) (hb : b.size ≤ maxLen) (va : Vb.okV (L a) = true) (vb : Vb.okV (L b) = true) (ea : a.size = n) (eb : b.size = n)
include ha hb va vb ea eb
theorem both1 : Both 1 sg a b := by
  obtain ⟨a1, a2, a3⟩ := (okV_iff a).1 va
  obtain ⟨b1, b2, b3⟩ := (okV_iff b).1 vb
  refine ⟨_, fun w => sBin1 sg a b n w ha hb va vb ea eb, fun w => iBin1 sg a b n n _ _ _ _ _ _ _ w ha hb va vb ea eb rfl rfl rfl rfl (by omega) (fun _ W _ => iAnd n n _ _ _ _ W) ?_⟩
  have := and_txt a3 b3 (by rw [L_len, L_len]; omega) (by rw [L_len]; exact a2)
  rw [L_len, ea] at this; exact this
theorem both2 : Both 2 sg a b := by
  obtain ⟨a1, a2, a3⟩ := (okV_iff a).1 va
  obtain ⟨b1, b2, b3⟩ := (okV_iff b).1 vb
  refine ⟨_, fun w => sBin2 sg a b n w ha hb va vb ea eb, fun w => iBin2 sg a b n n _ _ _ _ _ _ _ w ha hb va vb ea eb rfl rfl rfl rfl (by omega) (fun _ W _ => iOr n n _ _ _ _ W) ?_⟩
  have := or_txt a3 b3 (by rw [L_len, L_len]; omega) (by rw [L_len]; exact a2)
  rw [L_len, ea] at this; exact this
theorem both3 : Both 3 sg a b := by
  obtain ⟨a1, a2, a3⟩ := (okV_iff a).1 va
  obtain ⟨b1, b2, b3⟩ := (okV_iff b).1 vb
  refine ⟨_, fun w => sBin3 sg a b n w ha hb va vb ea eb, fun w => iBin3 sg a b n n _ _ _ _ _ _ _ w ha hb va vb ea eb rfl rfl rfl rfl (by omega) (fun _ W _ => iXor n n _ _ _ _ W) ?_⟩
  have := xor_txt a3 b3 (by rw [L_len, L_len]; omega) (by rw [L_len]; exact a2)
  rw [L_len, ea] at this; exact this
theorem both4 : Both 4 sg a b := by
  obtain ⟨a1, a2, a3⟩ := (okV_iff a).1 va
  have hl : (L a).length = (L b).length := by rw [L_len, L_len]; omega
  have hr := reck_txt hl (by rw [L_len]; exact a2) (Vb.wh (L a) + Vb.wh (L b))
  rw [L_len, ea] at hr
  by_cases hk : ((L a).all Vb.knB && (L b).all Vb.knB) = true
  · have hk' := hk
    rw [Bool.and_eq_true] at hk'
    have e := add_num hk'.1 hk'.2 hl (by rw [L_len]; exact a2)
    rw [L_len, ea] at e
    rw [if_pos hk, e] at hr
    exact ⟨_, fun w => sBin4 sg a b n w ha hb va vb ea eb hk'.1 hk'.2, fun w => iBin4 sg a b n n _ _ _ _ _ _ _ w ha hb va vb ea eb rfl rfl rfl rfl (by omega) (fun _ W _ => iAddV n n _ _ _ _ (by omega) (by omega) W) hr⟩
  · rw [if_neg hk] at hr
    exact ⟨_, fun w => sBin4u sg a b n w ha hb va vb ea eb (by simpa using hk), fun w => iBin4 sg a b n n _ _ _ _ _ _ _ w ha hb va vb ea eb rfl rfl rfl rfl (by omega) (fun _ W _ => iAddV n n _ _ _ _ (by omega) (by omega) W) hr⟩
theorem both5 : Both 5 sg a b := by
  obtain ⟨a1, a2, a3⟩ := (okV_iff a).1 va
  have hl : (L a).length = (L b).length := by rw [L_len, L_len]; omega
  have hr := reck_txt hl (by rw [L_len]; exact a2) (Vb.wh (L a) - Vb.wh (L b))
  rw [L_len, ea] at hr
  by_cases hk : ((L a).all Vb.knB && (L b).all Vb.knB) = true
  · have hk' := hk
    rw [Bool.and_eq_true] at hk'
    have e := subw_num hk'.1 hk'.2 hl (by rw [L_len]; exact a2)
    rw [L_len, ea] at e
    rw [if_pos hk, e] at hr
    exact ⟨_, fun w => sBin5 sg a b n w ha hb va vb ea eb hk'.1 hk'.2, fun w => iBin5 sg a b n n _ _ _ _ _ _ _ w ha hb va vb ea eb rfl rfl rfl rfl (by omega) (fun _ W _ => iSubV n n _ _ _ _ (by omega) (by omega) W) hr⟩
  · rw [if_neg hk] at hr
    exact ⟨_, fun w => sBin5u sg a b n w ha hb va vb ea eb (by simpa using hk), fun w => iBin5 sg a b n n _ _ _ _ _ _ _ w ha hb va vb ea eb rfl rfl rfl rfl (by omega) (fun _ W _ => iSubV n n _ _ _ _ (by omega) (by omega) W) hr⟩
theorem both6 : Both 6 sg a b := by
  obtain ⟨a1, a2, a3⟩ := (okV_iff a).1 va
  have hl : (L a).length = (L b).length := by rw [L_len, L_len]; omega
  have hr := reck_txt hl (by rw [L_len]; exact a2) (Vb.wh (L a) * Vb.wh (L b))
  rw [L_len, ea] at hr
  by_cases hk : ((L a).all Vb.knB && (L b).all Vb.knB) = true
  · have hk' := hk
    rw [Bool.and_eq_true] at hk'
    have e := mul_num hk'.1 hk'.2 hl (by rw [L_len]; exact a2)
    rw [L_len, ea] at e
    rw [if_pos hk, e] at hr
    exact ⟨_, fun w => sBin6 sg a b n w ha hb va vb ea eb hk'.1 hk'.2, fun w => iBin6 sg a b n n _ _ _ _ _ _ _ w ha hb va vb ea eb rfl rfl rfl rfl (by omega) (fun _ W _ => iMulV n n _ _ _ _ (by omega) (by omega) W) hr⟩
  · rw [if_neg hk] at hr
    exact ⟨_, fun w => sBin6u sg a b n w ha hb va vb ea eb (by simpa using hk), fun w => iBin6 sg a b n n _ _ _ _ _ _ _ w ha hb va vb ea eb rfl rfl rfl rfl (by omega) (fun _ W _ => iMulV n n _ _ _ _ (by omega) (by omega) W) hr⟩
theorem both9 : Both 9 sg a b := by
  obtain ⟨a1, a2, a3⟩ := (okV_iff a).1 va
  obtain ⟨b1, b2, b3⟩ := (okV_iff b).1 vb
  have e := eq_txt a3 b3 (by rw [L_len, L_len]; omega) (by rw [L_len]; exact a2)
  rw [L_len, ea] at e
  refine ⟨_, fun w => sBin9 sg a b n w ha hb va vb ea eb, fun w => iBin9 sg a b n 1 _ _ _ _ _ _ _ w ha hb va vb ea eb rfl rfl rfl rfl (by omega) (fun _ W _ => iEqual n n _ _ _ _ (by omega) (by omega) W) ?_⟩
  rw [e]
  exact txt_one _ (eqV_valid _ _ _ _ _ _)
theorem both10 : Both 10 sg a b := by
  obtain ⟨a1, a2, a3⟩ := (okV_iff a).1 va
  obtain ⟨b1, b2, b3⟩ := (okV_iff b).1 vb
  have e := eq_txt a3 b3 (by rw [L_len, L_len]; omega) (by rw [L_len]; exact a2)
  rw [L_len, ea] at e
  refine ⟨_, fun w => sBin10 sg a b n w ha hb va vb ea eb, fun w => iBin10 sg a b n 1 _ _ _ _ _ _ _ w ha hb va vb ea eb rfl rfl rfl rfl (by omega) (fun _ W _ => iUnequal n n _ _ _ _ (by omega) (by omega) W) ?_⟩
  rw [e]
  exact not_one _ (eqV_valid _ _ _ _ _ _)
theorem both11 : Both 11 sg a b := by
  obtain ⟨a1, a2, a3⟩ := (okV_iff a).1 va
  obtain ⟨b1, b2, b3⟩ := (okV_iff b).1 vb
  have e := same_words a3 b3 (by rw [L_len]; exact a2) (by rw [L_len]; exact b2)
  rw [L_len, L_len, ea, eb] at e
  refine ⟨_, fun w => sBin11 sg a b n w ha hb va vb ea eb, fun w => iBin11 sg a b n 1 _ _ _ _ _ _ _ w ha hb va vb ea eb rfl rfl rfl rfl (by omega) (fun _ W _ => iSame n n _ _ _ _ W) ?_⟩
  by_cases h : L a = L b
  · rw [if_pos (e.2 h), decide_eq_true h]; rfl
  · rw [if_neg (fun x => h (e.1 x)), decide_eq_false h]; rfl
end
section
variable {sg : Bool} {a b : ByteArray} {n m : Nat} (ha : a.size ≤ maxLen) (hb : b.size ≤ maxLen) (va : Vb.okV (L a) = true) (vb : Vb.okV (L b) = true) (ea : a.size = n) (eb : b.size = m)
include ha hb va vb ea eb
theorem both17 : Both 17 sg a b := by
  obtain ⟨a1, a2, a3⟩ := (okV_iff a).1 va
  obtain ⟨b1, b2, b3⟩ := (okV_iff b).1 vb
  have e1 := tru_truth a3 (by rw [L_len]; exact a2)
  have e2 := tru_truth b3 (by rw [L_len]; exact b2)
  rw [L_len, ea] at e1
  rw [L_len, eb] at e2
  refine ⟨_, fun w => sBin17 sg a b n m w ha hb va vb ea eb, fun w => iBin17 sg a b n m 1 _ _ _ _ _ _ _ w ha hb va vb ea eb rfl rfl rfl rfl (by omega) (fun _ W _ => iBoth n m _ _ _ _ (by omega) (by omega) _ _ (fun w => iAnd 1 1 _ _ _ _ w) W) ?_⟩
  rw [e1, e2]
  exact both_txt _ _ (truth_valid _) (truth_valid _)
theorem both18 : Both 18 sg a b := by
  obtain ⟨a1, a2, a3⟩ := (okV_iff a).1 va
  obtain ⟨b1, b2, b3⟩ := (okV_iff b).1 vb
  have e1 := tru_truth a3 (by rw [L_len]; exact a2)
  have e2 := tru_truth b3 (by rw [L_len]; exact b2)
  rw [L_len, ea] at e1
  rw [L_len, eb] at e2
  refine ⟨_, fun w => sBin18 sg a b n m w ha hb va vb ea eb, fun w => iBin18 sg a b n m 1 _ _ _ _ _ _ _ w ha hb va vb ea eb rfl rfl rfl rfl (by omega) (fun _ W _ => iEither n m _ _ _ _ (by omega) (by omega) _ _ (fun w => iOr 1 1 _ _ _ _ w) W) ?_⟩
  rw [e1, e2]
  exact either_txt _ _ (truth_valid _) (truth_valid _)
theorem both14 : Both 14 sg a b := by
  obtain ⟨a1, a2, a3⟩ := (okV_iff a).1 va
  obtain ⟨b1, b2, b3⟩ := (okV_iff b).1 vb
  have kb : (Vb.kn (L b) = Vb.ones m) ↔ (L b).all Vb.knB = true := by have := Vb.kn_ones (l := L b) (by rw [L_len]; exact b2); rw [L_len, eb] at this; exact this
  by_cases hk : (L b).all Vb.knB = true
  · refine ⟨_, fun w => sBin14 sg a b n m w ha hb va vb ea eb hk, fun w => iBin14 sg a b n m n _ _ _ _ _ _ _ w ha hb va vb ea eb rfl rfl rfl rfl (by omega) (fun _ W _ => iUp n m _ _ _ _ (by omega) (by omega) (kb.2 hk) W) ?_⟩
    have := up_txt a3 (by rw [L_len]; exact a2) (Vb.wh (L b)).toNat
    rw [L_len, ea, Vb.wh_toNat hk (by rw [L_len]; exact b2)] at this
    rw [Vb.wh_toNat hk (by rw [L_len]; exact b2)]
    exact this
  · exact ⟨_, fun w => sBin14u sg a b n m w ha hb va vb ea eb (by simpa using hk), fun w => iBin14 sg a b n m n _ _ _ _ _ _ _ w ha hb va vb ea eb rfl rfl rfl rfl (by omega) (fun _ W _ => iUpU n m _ _ _ _ (by omega) (fun h => hk (kb.1 h)) W) (txt_x _)⟩
theorem both15 : Both 15 sg a b := by
  obtain ⟨a1, a2, a3⟩ := (okV_iff a).1 va
  obtain ⟨b1, b2, b3⟩ := (okV_iff b).1 vb
  have kb : (Vb.kn (L b) = Vb.ones m) ↔ (L b).all Vb.knB = true := by have := Vb.kn_ones (l := L b) (by rw [L_len]; exact b2); rw [L_len, eb] at this; exact this
  by_cases hk : (L b).all Vb.knB = true
  · refine ⟨_, fun w => sBin15 sg a b n m w ha hb va vb ea eb hk, fun w => iBin15 sg a b n m n _ _ _ _ _ _ _ w ha hb va vb ea eb rfl rfl rfl rfl (by omega) (fun _ W _ => iDownZero n m _ _ _ _ _ _ (fun w => iDown n m 1 _ _ _ _ 1#64 0#64 (by omega) (by omega) (kb.2 hk) w) W) ?_⟩
    have := down_txt a3 (by rw [L_len]; exact a2) (Vb.wh (L b)).toNat 1#64 0#64
    rw [L_len, ea, Vb.wh_toNat hk (by rw [L_len]; exact b2)] at this
    rw [Vb.wh_toNat hk (by rw [L_len]; exact b2)]
    exact this
  · exact ⟨_, fun w => sBin15u sg a b n m w ha hb va vb ea eb (by simpa using hk), fun w => iBin15 sg a b n m n _ _ _ _ _ _ _ w ha hb va vb ea eb rfl rfl rfl rfl (by omega) (fun _ W _ => iDownZero n m _ _ _ _ _ _ (fun w => iDownU n m 1 _ _ _ _ 1#64 0#64 (by omega) (fun h => hk (kb.1 h)) w) W) (txt_x _)⟩
end
end Go.Proofs.Ytmbllgblbdfobaa
