/- Specification's and program's Binary answer the same: quotients, rests. -/
import Derived.Test.YtmbllgblbdfobaaBA2
namespace Go.Proofs.Ytmbllgblbdfobaa
open Go.RowKit
set_option linter.unusedSectionVars false
theorem sI_range {l : List UInt8} (hk : l.all Vb.knB = true) (h1 : 1 ≤ l.length) (h2 : l.length ≤ 64) : -9223372036854775808 ≤ sI l ∧ sI l ≤ 9223372036854775807 := by
  cases l with
  | nil => simp at h1
  | cons c t =>
    have hp : 2 ^ t.length ≤ 2 ^ 63 := Nat.pow_le_pow_right (by decide) (by simp at h2; omega)
    have ht := Vb.num_lt t
    rcases known_top (List.all_eq_true.1 hk c (by simp)) with rfl | rfl
    · rw [sI_one]; omega
    · rw [sI_zero]; omega
theorem sI_ne0 {l : List UInt8} (hk : l.all Vb.knB = true) (h1 : 1 ≤ l.length) (hz : 0 < Vb.num l) : ¬ sI l = 0 := by
  cases l with
  | nil => simp at h1
  | cons c t =>
    have ht := Vb.num_lt t
    rcases known_top (List.all_eq_true.1 hk c (by simp)) with rfl | rfl
    · rw [sI_one]; omega
    · rw [sI_zero]; rw [num_zero] at hz; omega
theorem ones_ne0 {n : Nat} (h1 : 1 ≤ n) (h2 : n ≤ 64) : ¬ (0#64 = Vb.ones n) := by
  intro e
  have := congrArg BitVec.toNat e
  rw [Vb.ones_toNat n h2] at this
  have hp : 2 ^ 1 ≤ 2 ^ n := Nat.pow_le_pow_right (by decide) h1
  simp at this
  omega
theorem wh_zero {l : List UInt8} (hk : l.all Vb.knB = true) (h2 : l.length ≤ 64) : (Vb.wh l = 0#64) ↔ Vb.num l = 0 := by
  rw [← Vb.wh_toNat hk h2]
  constructor
  · intro h; rw [h]; rfl
  · intro h; exact BitVec.eq_of_toNat_eq (by rw [h]; rfl)
theorem negq_mod {a : List UInt8} (ka : a.all Vb.knB = true) (h1 : 1 ≤ a.length) (h2 : a.length ≤ 64) : (((0#64 - Vb.wh a &&& Vb.ones a.length)).toNat : Int) % ((2 ^ a.length : Nat) : Int) = (sI a).tdiv (-1) % ((2 ^ a.length : Nat) : Int) := by
  rw [Vb.and_ones_toNat _ _ h2, Int.natCast_emod, Int.emod_emod_of_dvd _ (Int.dvd_refl _), BitVec.toNat_sub, Int.natCast_emod, Int.emod_emod_of_dvd _ (dvd64i h2), Vb.wh_toNat ka h2, Int.tdiv_neg, Int.tdiv_one]
  have hn := Vb.num_lt a
  have hp : 2 ^ a.length ≤ 2 ^ 64 := Nat.pow_le_pow_right (by decide) h2
  have e : ((2 ^ 64 - Vb.num a + (0#64).toNat : Nat) : Int) = (0 - (Vb.num a : Int)) + ((2 ^ 64 : Nat) : Int) := by
    rw [show (0#64).toNat = 0 from rfl]; omega
  obtain ⟨c, hc⟩ := dvd64i h2
  rw [e, hc, Int.add_mul_emod_self_left, Int.sub_emod, num_sI ka h1, ← Int.sub_emod, Int.zero_sub]
theorem ofq_mod (n : Nat) (h2 : n ≤ 64) (v : Int) : (((BitVec.ofInt 64 v &&& Vb.ones n)).toNat : Int) % ((2 ^ n : Nat) : Int) = v % ((2 ^ n : Nat) : Int) := by
  rw [Vb.and_ones_toNat _ _ h2, Int.natCast_emod, Int.emod_emod_of_dvd _ (Int.dvd_refl _), BitVec.toNat_ofInt]
  have e : (((v % ((2 ^ 64 : Nat) : Int)).toNat : Nat) : Int) = v % ((2 ^ 64 : Nat) : Int) := by omega
  rw [e, Int.emod_emod_of_dvd _ (dvd64i h2)]
section
variable {sg : Bool} {a b : ByteArray} {n : Nat} (ha : a.size ≤ maxLen) (hb : b.size ≤ maxLen) (va : Vb.okV (L a) = true) (vb : Vb.okV (L b) = true) (ea : a.size = n) (eb : b.size = n)
include ha hb va vb ea eb
/-- What the quotient is: unknown, or words that are the text's and, modulo 2 to the width, the numbers'. -/
theorem quot_is : (((L a).all Vb.knB && (L b).all Vb.knB) = false ∨ Vb.num (L b) = 0) ∧ (∀ w, Calls Try.prog 88 #[V n (Vb.kn (L a)) (Vb.wh (L a)), V n (Vb.kn (L b)) (Vb.wh (L b)), .bool sg] w fun e w' => e = .returned (V n 0#64 0#64) ∧ Below w.heap.size w w') ∨
    (((L a).all Vb.knB = true ∧ (L b).all Vb.knB = true) ∧ 0 < Vb.num (L b)) ∧ ∃ Q2, (∀ w, Calls Try.prog 88 #[V n (Vb.kn (L a)) (Vb.wh (L a)), V n (Vb.kn (L b)) (Vb.wh (L b)), .bool sg] w fun e w' => e = .returned (V n (Vb.ones n) Q2) ∧ Below w.heap.size w w') ∧ Vb.txt n (Vb.ones n) Q2 = divL n sg (L a) (L b) ∧ Vb.nTxt n (Vb.wh (L a) - (Q2 * Vb.wh (L b) &&& Vb.ones n)).toNat = remL n sg (L a) (L b) := by
  obtain ⟨a1, a2, a3⟩ := (okV_iff a).1 va
  obtain ⟨b1, b2, b3⟩ := (okV_iff b).1 vb
  have la : (L a).length = n := by rw [L_len]; exact ea
  have lb : (L b).length = n := by rw [L_len]; exact eb
  have hl : (L a).length = (L b).length := by omega
  have h1 : 1 ≤ (L a).length := by omega
  have h2 : (L a).length ≤ 64 := by omega
  have kka : (Vb.kn (L a) = Vb.ones n) ↔ (L a).all Vb.knB = true := by have := Vb.kn_ones (l := L a) h2; rw [la] at this; exact this
  have kkb : (Vb.kn (L b) = Vb.ones n) ↔ (L b).all Vb.knB = true := by have := Vb.kn_ones (l := L b) (by omega); rw [lb] at this; exact this
  by_cases hA : (L a).all Vb.knB = true
  · by_cases hB : (L b).all Vb.knB = true
    · by_cases hz : Vb.num (L b) = 0
      · exact .inl ⟨.inr hz, fun w => iQuotC n n _ _ _ _ sg (by omega) (by omega) (kka.2 hA) (kkb.2 hB) ((wh_zero hB (by omega)).2 hz) w⟩
      · have hz' : 0 < Vb.num (L b) := by omega
        have hq : ¬ Vb.wh (L b) = 0#64 := fun h => hz ((wh_zero hB (by omega)).1 h)
        refine .inr ⟨⟨⟨hA, hB⟩, hz'⟩, ?_⟩
        cases sg
        · refine ⟨_, fun w => iQuotD n n _ _ _ _ (by omega) (by omega) (kka.2 hA) (kkb.2 hB) hq w, ?_, ?_⟩
          · have := divu_txt hA hB hl h2; rw [la] at this; exact this
          · have := remu_txt hA hB hl h2; rw [la] at this; exact this
        · have sX := sgn_sI hA h1 h2
          have sY := sgn_sI hB (by omega) (by omega)
          rw [la] at sX
          rw [lb] at sY
          by_cases hm : sI (L b) = -1
          · have hr := negq_mod hA h1 h2
            rw [← hm] at hr
            have e1 : rkK n n (Vb.ones n) (Vb.kn (L a)) = Vb.ones n := by unfold rkK; rw [if_pos ⟨rfl, kka.2 hA⟩]
            have e2 : rkH n n (Vb.ones n) (Vb.kn (L a)) (0#64 - Vb.wh (L a)) = 0#64 - Vb.wh (L a) &&& Vb.ones n := by unfold rkH; rw [if_pos ⟨rfl, kka.2 hA⟩]
            refine ⟨0#64 - Vb.wh (L a) &&& Vb.ones n, fun w => ?_, ?_, ?_⟩
            · have := iQuotE n n _ _ _ _ (by omega) (by omega) (kka.2 hA) (kkb.2 hB) hq _ _ sX sY hm w
              rw [e1, e2] at this; exact this
            · have ht := neg_txt (l := L a) h2
              rw [la, e1, e2, if_pos hA] at ht
              rw [ht]
              have := divm_txt hA hB hl h1 hm; rw [la] at this; exact this
            · have := rems_txt hA hB hl h1 h2 hz' _ hr; rw [la] at this; exact this
          · refine ⟨_, fun w => iQuotF n n _ _ _ _ (by omega) (by omega) (kka.2 hA) (kkb.2 hB) hq _ _ sX sY hm (sI_ne0 hB (by omega) hz') (sI_range hA h1 h2) (sI_range hB (by omega) (by omega)) w, ?_, ?_⟩
            · rw [Vb.num_txt _ _ (by omega)]
              have := divs_txt hA hB hl h1 h2; rw [la] at this; exact this
            · have hr := ofq_mod (L a).length h2 ((sI (L a)).tdiv (sI (L b)))
              have := rems_txt hA hB hl h1 h2 hz' _ hr; rw [la] at this; exact this
    · exact .inl ⟨.inl (by simp [hB]), fun w => iQuotB n n _ _ _ _ sg (by omega) (by omega) (kka.2 hA) (fun h => hB (kkb.1 h)) w⟩
  · exact .inl ⟨.inl (by simp [hA]), fun w => iQuotA n n _ _ _ _ sg (by omega) (by omega) (fun h => hA (kka.1 h)) w⟩
theorem both7 : Both 7 sg a b := by
  obtain ⟨a1, a2, a3⟩ := (okV_iff a).1 va
  rcases quot_is (sg := sg) ha hb va vb ea eb with ⟨hu, hq⟩ | ⟨⟨⟨hA, hB⟩, hz⟩, Q2, hq, ht, _⟩
  · by_cases hk : ((L a).all Vb.knB && (L b).all Vb.knB) = false
    · exact ⟨_, fun w => sBin7u sg a b n w ha hb va vb ea eb hk, fun w => iBin7 sg a b n n _ _ _ _ _ _ _ w ha hb va vb ea eb rfl rfl rfl rfl (by omega) (fun b0 W hc => iCDiv b0 n n n _ _ _ _ _ _ sg hq W hc) (txt_x _)⟩
    · have hz : Vb.num (L b) = 0 := hu.resolve_left hk
      have hk2 : (L a).all Vb.knB = true ∧ (L b).all Vb.knB = true := by simpa using hk
      exact ⟨_, fun w => sBin7z sg a b n w ha hb va vb ea eb hk2.1 hk2.2 hz, fun w => iBin7 sg a b n n _ _ _ _ _ _ _ w ha hb va vb ea eb rfl rfl rfl rfl (by omega) (fun b0 W hc => iCDiv b0 n n n _ _ _ _ _ _ sg hq W hc) (txt_x _)⟩
  · exact ⟨_, fun w => sBin7 sg a b n w ha hb va vb ea eb hA hB hz, fun w => iBin7 sg a b n n _ _ _ _ _ _ _ w ha hb va vb ea eb rfl rfl rfl rfl (by omega) (fun b0 W hc => iCDiv b0 n n n _ _ _ _ _ _ sg hq W hc) ht⟩
theorem both8 : Both 8 sg a b := by
  obtain ⟨a1, a2, a3⟩ := (okV_iff a).1 va
  obtain ⟨b1, b2, b3⟩ := (okV_iff b).1 vb
  have n1 : 1 ≤ n := by omega
  have n2 : n ≤ 64 := by omega
  have z0 := ones_ne0 n1 n2
  rcases quot_is (sg := sg) ha hb va vb ea eb with ⟨hu, hq⟩ | ⟨⟨⟨hA, hB⟩, hz⟩, Q2, hq, _, ht⟩
  · have m1 : rkK n n 0#64 (Vb.kn (L b)) = 0#64 := by unfold rkK; rw [if_neg (fun h => z0 h.1)]
    have m2 : rkH n n 0#64 (Vb.kn (L b)) (0#64 * Vb.wh (L b)) = 0#64 := by unfold rkH; rw [if_neg (fun h => z0 h.1)]
    have s1 : rkK n n (Vb.kn (L a)) 0#64 = 0#64 := by unfold rkK; rw [if_neg (fun h => z0 h.2)]
    have s2 : rkH n n (Vb.kn (L a)) 0#64 (Vb.wh (L a) - 0#64) = 0#64 := by unfold rkH; rw [if_neg (fun h => z0 h.2)]
    have hr : ∀ w, Calls Try.prog 90 #[V n (Vb.kn (L a)) (Vb.wh (L a)), V n (Vb.kn (L b)) (Vb.wh (L b)), .bool sg] w fun e w' => e = .returned (V n 0#64 0#64) ∧ Below w.heap.size w w' := fun w => by
      refine iRest n n _ _ _ _ 0#64 0#64 0#64 0#64 0#64 0#64 sg hq (fun w => ?_) (fun w => ?_) w
      · have := iMulV n n 0#64 0#64 (Vb.kn (L b)) (Vb.wh (L b)) n2 n2 w
        rw [m1, m2] at this; exact this
      · have := iSubV n n (Vb.kn (L a)) (Vb.wh (L a)) 0#64 0#64 n2 n2 w
        rw [s1, s2] at this; exact this
    by_cases hk : ((L a).all Vb.knB && (L b).all Vb.knB) = false
    · exact ⟨_, fun w => sBin8u sg a b n w ha hb va vb ea eb hk, fun w => iBin8 sg a b n n _ _ _ _ _ _ _ w ha hb va vb ea eb rfl rfl rfl rfl n2 (fun b0 W hc => iCRem b0 n n n _ _ _ _ _ _ sg hr W hc) (txt_x _)⟩
    · have hz : Vb.num (L b) = 0 := hu.resolve_left hk
      have hk2 : (L a).all Vb.knB = true ∧ (L b).all Vb.knB = true := by simpa using hk
      exact ⟨_, fun w => sBin8z sg a b n w ha hb va vb ea eb hk2.1 hk2.2 hz, fun w => iBin8 sg a b n n _ _ _ _ _ _ _ w ha hb va vb ea eb rfl rfl rfl rfl n2 (fun b0 W hc => iCRem b0 n n n _ _ _ _ _ _ sg hr W hc) (txt_x _)⟩
  · have kka : Vb.kn (L a) = Vb.ones n := by have := (Vb.kn_ones (l := L a) (by rw [L_len]; exact a2)).2 hA; rw [L_len, ea] at this; exact this
    have kkb : Vb.kn (L b) = Vb.ones n := by have := (Vb.kn_ones (l := L b) (by rw [L_len]; exact b2)).2 hB; rw [L_len, eb] at this; exact this
    have m1 : rkK n n (Vb.ones n) (Vb.kn (L b)) = Vb.ones n := by unfold rkK; rw [if_pos ⟨rfl, kkb⟩]
    have m2 : rkH n n (Vb.ones n) (Vb.kn (L b)) (Q2 * Vb.wh (L b)) = Q2 * Vb.wh (L b) &&& Vb.ones n := by unfold rkH; rw [if_pos ⟨rfl, kkb⟩]
    have s1 : rkK n n (Vb.kn (L a)) (Vb.ones n) = Vb.ones n := by unfold rkK; rw [if_pos ⟨kka, rfl⟩]
    have s2 : rkH n n (Vb.kn (L a)) (Vb.ones n) (Vb.wh (L a) - (Q2 * Vb.wh (L b) &&& Vb.ones n)) = (Vb.wh (L a) - (Q2 * Vb.wh (L b) &&& Vb.ones n)) &&& Vb.ones n := by unfold rkH; rw [if_pos ⟨kka, rfl⟩]
    have hr : ∀ w, Calls Try.prog 90 #[V n (Vb.kn (L a)) (Vb.wh (L a)), V n (Vb.kn (L b)) (Vb.wh (L b)), .bool sg] w fun e w' => e = .returned (V n (Vb.ones n) ((Vb.wh (L a) - (Q2 * Vb.wh (L b) &&& Vb.ones n)) &&& Vb.ones n)) ∧ Below w.heap.size w w' := fun w => by
      refine iRest n n _ _ _ _ (Vb.ones n) Q2 (Vb.ones n) (Q2 * Vb.wh (L b) &&& Vb.ones n) _ _ sg hq (fun w => ?_) (fun w => ?_) w
      · have := iMulV n n (Vb.ones n) Q2 (Vb.kn (L b)) (Vb.wh (L b)) n2 n2 w
        rw [m1, m2] at this; exact this
      · have := iSubV n n (Vb.kn (L a)) (Vb.wh (L a)) (Vb.ones n) (Q2 * Vb.wh (L b) &&& Vb.ones n) n2 n2 w
        rw [s1, s2] at this; exact this
    exact ⟨_, fun w => sBin8 sg a b n w ha hb va vb ea eb hA hB hz, fun w => iBin8 sg a b n n _ _ _ _ _ _ _ w ha hb va vb ea eb rfl rfl rfl rfl n2 (fun b0 W hc => iCRem b0 n n n _ _ _ _ _ _ sg hr W hc) (by rw [Vb.num_txt _ _ n2]; exact ht)⟩
end
end Go.Proofs.Ytmbllgblbdfobaa
