/- Specification's and program's Binary answer the same: moved down with the sign, comparisons, quotients, rests. -/
import Derived.Test.YtmbllgblbdfobaaBA1
namespace Go.Proofs.Ytmbllgblbdfobaa
open Go.RowKit
theorem top_bit (x : BitVec 64) (k : Nat) : (x >>> k &&& Vb.ones 1).getLsbD 0 = x.getLsbD k := by
  rw [BitVec.getLsbD_and, Vb.getLsbD_ones, BitVec.getLsbD_ushiftRight]; simp
theorem head_letter {l : List UInt8} (hv : l.all Vb.isV = true) (h1 : 1 ≤ l.length) (h2 : l.length ≤ 64) : Vb.letter ((Vb.kn l).getLsbD (l.length - 1)) ((Vb.wh l).getLsbD (l.length - 1)) = l.headD 0 := by
  have h := letter_at hv (i := l.length - 1) (by omega) h2
  have e : Vb.rat l (l.length - 1) = some (l.headD 0) := by
    unfold Vb.rat
    rw [List.getElem?_reverse (by omega), show l.length - 1 - (l.length - 1) = 0 by omega]
    cases l with
    | nil => simp at h1
    | cons c t => rfl
  rw [e] at h
  exact Option.some.inj h
theorem lsV_valid (n m : Nat) (k h p q : BitVec 64) (sg : Bool) : Vb.isV (lsV n m k h p q sg) = true := by
  unfold lsV
  split
  · cases ltV n m h q sg <;> rfl
  · rfl
theorem sI_inj {a b : List UInt8} (ka : a.all Vb.knB = true) (kb : b.all Vb.knB = true) (hl : a.length = b.length) (h1 : 1 ≤ a.length) (h : sI a = sI b) : a = b := by
  apply Vb.known_ext ka kb hl
  have e1 := num_sI ka h1
  have e2 := num_sI kb (by omega)
  rw [h] at e1
  rw [← hl, ← e1] at e2
  have n1 := Vb.num_lt a
  have n2 := Vb.num_lt b
  rw [← hl] at n2
  have := mod_ofInt e2
  rw [Nat.mod_eq_of_lt n1, Nat.mod_eq_of_lt n2] at this
  exact this.symm
theorem le_known {a b : List UInt8} (ka : a.all Vb.knB = true) (kb : b.all Vb.knB = true) (hl : a.length = b.length) (h1 : 1 ≤ a.length) (h2 : a.length ≤ 64) (sg : Bool) : (!ltL sg b a) = (decide (a = b) || ltL sg a b) := by
  have e1 := lt_known ka kb hl h1 h2 sg
  have e2 := lt_known kb ka hl.symm (by omega) (by omega) sg
  rw [← e1, ← e2]
  cases sg
  · rw [ltV_no, ltV_no]
    unfold U
    rw [Vb.wh_toNat ka h2, Vb.wh_toNat kb (by omega)]
    by_cases h : a = b
    · subst h; simp
    · have hne : Vb.num a ≠ Vb.num b := fun e => h (Vb.known_ext ka kb hl e)
      rw [decide_eq_false h, Bool.false_or, Bool.eq_iff_iff]
      simp only [Bool.not_eq_true', decide_eq_false_iff_not, decide_eq_true_eq]
      omega
  · have s1 := sgn_sI ka h1 h2
    have s2 := sgn_sI kb (by omega) (by omega)
    rw [ltV_sg, ltV_sg, ← hl, s1]
    rw [← hl] at s2
    rw [s2]
    by_cases h : a = b
    · subst h; simp
    · have hne : sI a ≠ sI b := fun e => h (sI_inj ka kb hl h1 e)
      rw [decide_eq_false h, Bool.false_or, Bool.eq_iff_iff]
      simp only [Bool.not_eq_true', decide_eq_false_iff_not, decide_eq_true_eq]
      omega
theorem notB_bl (c : Bool) : notB (bl c) = bl (!c) := by cases c <;> rfl
section
variable {sg : Bool} {a b : ByteArray} {n m : Nat} (ha : a.size ≤ maxLen) (hb : b.size ≤ maxLen) (va : Vb.okV (L a) = true) (vb : Vb.okV (L b) = true) (ea : a.size = n) (eb : b.size = m)
include ha hb va vb ea eb
theorem both16 : Both 16 sg a b := by
  obtain ⟨a1, a2, a3⟩ := (okV_iff a).1 va
  obtain ⟨b1, b2, b3⟩ := (okV_iff b).1 vb
  have kb : (Vb.kn (L b) = Vb.ones m) ↔ (L b).all Vb.knB = true := by have := Vb.kn_ones (l := L b) (by rw [L_len]; exact b2); rw [L_len, eb] at this; exact this
  by_cases hk : (L b).all Vb.knB = true
  · refine ⟨_, fun w => sBin16 sg a b n m w ha hb va vb ea eb hk, fun w => iBin16 sg a b n m n _ _ _ _ _ _ _ w ha hb va vb ea eb rfl rfl rfl rfl (by omega) (fun _ W _ => iDownSign n m _ _ _ _ _ _ _ _ (fun w => iHighest n _ _ (by omega) (by omega) w) (fun w => iDown n m 1 _ _ _ _ _ _ (by omega) (by omega) (kb.2 hk) w) W) ?_⟩
    have := down_txt a3 (by rw [L_len]; exact a2) (Vb.wh (L b)).toNat (Vb.kn (L a) >>> (n - 1) &&& Vb.ones 1) (Vb.wh (L a) >>> (n - 1) &&& Vb.ones 1)
    have hh := head_letter a3 (by rw [L_len]; exact a1) (by rw [L_len]; exact a2)
    rw [L_len, ea] at hh
    rw [L_len, ea, Vb.wh_toNat hk (by rw [L_len]; exact b2), top_bit, top_bit, hh] at this
    rw [Vb.wh_toNat hk (by rw [L_len]; exact b2), top_bit, top_bit]
    exact this
  · exact ⟨_, fun w => sBin16u sg a b n m w ha hb va vb ea eb (by simpa using hk), fun w => iBin16 sg a b n m n _ _ _ _ _ _ _ w ha hb va vb ea eb rfl rfl rfl rfl (by omega) (fun _ W _ => iDownSign n m _ _ _ _ _ _ _ _ (fun w => iHighest n _ _ (by omega) (by omega) w) (fun w => iDownU n m 1 _ _ _ _ _ _ (by omega) (fun h => hk (kb.1 h)) w) W) (txt_x _)⟩
end
section
variable {sg : Bool} {a b : ByteArray} {n : Nat} (ha : a.size ≤ maxLen) (hb : b.size ≤ maxLen) (va : Vb.okV (L a) = true) (vb : Vb.okV (L b) = true) (ea : a.size = n) (eb : b.size = n)
include ha hb va vb ea eb
theorem both12 : Both 12 sg a b := by
  obtain ⟨a1, a2, a3⟩ := (okV_iff a).1 va
  obtain ⟨b1, b2, b3⟩ := (okV_iff b).1 vb
  have hl : (L a).length = (L b).length := by rw [L_len, L_len]; omega
  have kka : (Vb.kn (L a) = Vb.ones n) ↔ (L a).all Vb.knB = true := by have := Vb.kn_ones (l := L a) (by rw [L_len]; exact a2); rw [L_len, ea] at this; exact this
  have kkb : (Vb.kn (L b) = Vb.ones n) ↔ (L b).all Vb.knB = true := by have := Vb.kn_ones (l := L b) (by rw [L_len]; exact b2); rw [L_len, eb] at this; exact this
  by_cases hk : ((L a).all Vb.knB && (L b).all Vb.knB) = true
  · have hk' := hk
    rw [Bool.and_eq_true] at hk'
    have e := lt_known hk'.1 hk'.2 hl (by rw [L_len]; exact a1) (by rw [L_len]; exact a2) sg
    rw [L_len, ea] at e
    refine ⟨_, fun w => sBin12 sg a b n w ha hb va vb ea eb hk'.1 hk'.2, fun w => iBin12 sg a b n 1 _ _ _ _ _ _ _ w ha hb va vb ea eb rfl rfl rfl rfl (by omega) (fun b0 W hc => iCLt b0 n n 1 _ _ _ _ _ _ sg (fun w => iLess n n _ _ _ _ sg (by omega) (by omega) w) W hc) ?_⟩
    rw [txt_one _ (lsV_valid _ _ _ _ _ _ _)]
    unfold lsV
    rw [if_pos ⟨kka.2 hk'.1, kkb.2 hk'.2⟩, e]
  · refine ⟨_, fun w => sBin12u sg a b n w ha hb va vb ea eb (by simpa using hk), fun w => iBin12 sg a b n 1 _ _ _ _ _ _ _ w ha hb va vb ea eb rfl rfl rfl rfl (by omega) (fun b0 W hc => iCLt b0 n n 1 _ _ _ _ _ _ sg (fun w => iLess n n _ _ _ _ sg (by omega) (by omega) w) W hc) ?_⟩
    rw [txt_one _ (lsV_valid _ _ _ _ _ _ _)]
    unfold lsV
    rw [if_neg (fun h => hk (by rw [kka.1 h.1, kkb.1 h.2]; rfl))]
theorem both13 : Both 13 sg a b := by
  obtain ⟨a1, a2, a3⟩ := (okV_iff a).1 va
  obtain ⟨b1, b2, b3⟩ := (okV_iff b).1 vb
  have hl : (L a).length = (L b).length := by rw [L_len, L_len]; omega
  have kka : (Vb.kn (L a) = Vb.ones n) ↔ (L a).all Vb.knB = true := by have := Vb.kn_ones (l := L a) (by rw [L_len]; exact a2); rw [L_len, ea] at this; exact this
  have kkb : (Vb.kn (L b) = Vb.ones n) ↔ (L b).all Vb.knB = true := by have := Vb.kn_ones (l := L b) (by rw [L_len]; exact b2); rw [L_len, eb] at this; exact this
  by_cases hk : ((L a).all Vb.knB && (L b).all Vb.knB) = true
  · have hk' := hk
    rw [Bool.and_eq_true] at hk'
    have e := lt_known hk'.2 hk'.1 hl.symm (by rw [L_len]; exact b1) (by rw [L_len]; exact b2) sg
    rw [L_len, eb] at e
    have e2 := le_known hk'.1 hk'.2 hl (by rw [L_len]; exact a1) (by rw [L_len]; exact a2) sg
    refine ⟨_, fun w => sBin13 sg a b n w ha hb va vb ea eb hk'.1 hk'.2, fun w => iBin13 sg a b n 1 _ _ _ _ _ _ _ w ha hb va vb ea eb rfl rfl rfl rfl (by omega) (fun b0 W hc => iCLe b0 n n 1 _ _ _ _ _ _ sg (fun w => iAtMost n n _ _ _ _ sg (by omega) (by omega) w) W hc) ?_⟩
    rw [not_one _ (lsV_valid _ _ _ _ _ _ _)]
    unfold lsV
    rw [if_pos ⟨kkb.2 hk'.2, kka.2 hk'.1⟩, e, notB_bl, e2]
  · refine ⟨_, fun w => sBin13u sg a b n w ha hb va vb ea eb (by simpa using hk), fun w => iBin13 sg a b n 1 _ _ _ _ _ _ _ w ha hb va vb ea eb rfl rfl rfl rfl (by omega) (fun b0 W hc => iCLe b0 n n 1 _ _ _ _ _ _ sg (fun w => iAtMost n n _ _ _ _ sg (by omega) (by omega) w) W hc) ?_⟩
    rw [not_one _ (lsV_valid _ _ _ _ _ _ _)]
    unfold lsV
    rw [if_neg (fun h => hk (by rw [kkb.1 h.1, kka.1 h.2]; rfl))]
    rfl
end
end Go.Proofs.Ytmbllgblbdfobaa
