/- The law FnExactChoose's walk: the program's Choose answers as the specification's. -/
import Derived.Test.YtmbllgblbdfobaaS8
import Derived.Test.YtmbllgblbdfobaaI7
import Derived.Test.YtmbllgblbdfobaaIT
namespace Go.Proofs.Ytmbllgblbdfobaa
open Go.RowKit
theorem valid_bits {c : UInt8} (h : Vb.isV c = true) : (Vb.knB c && Vb.whB c) = Vb.oneB c ∧ (Vb.knB c && !Vb.whB c) = zeroB c := by
  unfold Vb.isV at h
  simp only [Bool.or_eq_true, beq_iff_eq] at h
  rcases h with ((rfl | rfl) | rfl) | rfl <;> exact ⟨rfl, rfl⟩
theorem one_bit {l : List UInt8} (hv : l.all Vb.isV = true) (i : Nat) (h64 : i < 64) : ((Vb.kn l).getLsbD i && (Vb.wh l).getLsbD i) = ((Vb.rat l i).map Vb.oneB).getD false := by
  rw [Vb.kn, Vb.wh, Vb.getLsbD_word, Vb.getLsbD_word]
  by_cases hi : i < l.length
  · obtain ⟨c, hc, hm⟩ := Vb.rat_some hi
    rw [hc]; simp only [h64, decide_true, Bool.true_and, Option.map_some, Option.getD_some]
    exact (valid_bits (List.all_eq_true.1 hv c hm)).1
  · rw [Vb.rat_none (by omega)]; simp
theorem zero_bit {l : List UInt8} (hv : l.all Vb.isV = true) (i : Nat) (h64 : i < 64) : ((Vb.kn l).getLsbD i && !(Vb.wh l).getLsbD i) = ((Vb.rat l i).map zeroB).getD false := by
  rw [Vb.kn, Vb.wh, Vb.getLsbD_word, Vb.getLsbD_word]
  by_cases hi : i < l.length
  · obtain ⟨c, hc, hm⟩ := Vb.rat_some hi
    rw [hc]; simp only [h64, decide_true, Bool.true_and, Option.map_some, Option.getD_some]
    exact (valid_bits (List.all_eq_true.1 hv c hm)).2
  · rw [Vb.rat_none (by omega)]; simp
theorem ones_ne {l : List UInt8} (hv : l.all Vb.isV = true) (h2 : l.length ≤ 64) : (Vb.kn l &&& Vb.wh l ≠ 0#64) ↔ l.any Vb.oneB = true := by
  constructor
  · intro h
    rw [← Bool.not_eq_false]
    intro hn
    apply h
    apply BitVec.eq_of_getLsbD_eq
    intro i hi
    rw [BitVec.getLsbD_and, one_bit hv i hi]
    by_cases hl : i < l.length
    · obtain ⟨c, hc, hm⟩ := Vb.rat_some hl
      rw [hc]
      have := List.any_eq_false.1 hn c hm
      simp [this]
    · rw [Vb.rat_none (by omega)]; simp
  · intro h e
    obtain ⟨c, hm, hc⟩ := List.any_eq_true.1 h
    obtain ⟨j, hj, rfl⟩ := List.getElem_of_mem hm
    have e1 : (Vb.kn l &&& Vb.wh l).getLsbD (l.length - 1 - j) = false := by rw [e]; simp
    rw [BitVec.getLsbD_and, one_bit hv _ (by omega)] at e1
    unfold Vb.rat at e1
    rw [List.getElem?_reverse (by omega), show l.length - 1 - (l.length - 1 - j) = j by omega, List.getElem?_eq_getElem hj] at e1
    simp [hc] at e1
theorem tru_truth {l : List UInt8} (hv : l.all Vb.isV = true) (h2 : l.length ≤ 64) : tru l.length (Vb.kn l) (Vb.wh l) = truthL l := by
  unfold tru truthL
  by_cases h1 : l.any Vb.oneB = true
  · rw [if_pos ((ones_ne hv h2).2 h1), if_pos h1]
  · rw [if_neg (fun h => h1 ((ones_ne hv h2).1 h)), if_neg h1]
    have hall : (Vb.kn l = Vb.ones l.length) ↔ l.all (fun c => c == 48) = true := by
      rw [Vb.kn_ones h2, List.all_eq_true, List.all_eq_true]
      rw [List.any_eq_true] at h1
      constructor
      · intro h c hc
        have := h c hc
        unfold Vb.knB at this
        simp only [Bool.or_eq_true] at this
        rcases this with h | h
        · exact h
        · exact absurd ⟨c, hc, h⟩ h1
      · intro h c hc; unfold Vb.knB; rw [h c hc]; rfl
    by_cases h3 : l.all (fun c => c == 48) = true
    · rw [if_pos (hall.2 h3), if_pos h3]
    · rw [if_neg (fun h => h3 (hall.1 h)), if_neg h3]
theorem rat_zip (f : UInt8 → UInt8 → UInt8) {a b : List UInt8} (h : a.length = b.length) (i : Nat) : Vb.rat (List.zipWith f a b) i = match Vb.rat a i, Vb.rat b i with | some x, some y => some (f x y) | _, _ => none := by
  unfold Vb.rat
  rw [List.reverse_zipWith h, List.getElem?_zipWith]; cases a.reverse[i]? <;> cases b.reverse[i]? <;> rfl
/-- A text made of two, letter by letter, whose words are told bit by bit. -/
theorem txt_zip (f : UInt8 → UInt8 → UInt8) {a b : List UInt8} (hl : a.length = b.length) (K H : BitVec 64)
    (h : ∀ i x y, i < a.length → Vb.rat a i = some x → Vb.rat b i = some y → Vb.letter (K.getLsbD i) (H.getLsbD i) = f x y) : Vb.txt a.length K H = List.zipWith f a b := by
  apply Vb.rat_ext
  intro i
  rw [Vb.rat_txt, rat_zip f hl]
  by_cases hi : i < a.length
  · obtain ⟨x, hx, _⟩ := Vb.rat_some hi
    obtain ⟨y, hy, _⟩ := Vb.rat_some (l := b) (i := i) (by omega)
    rw [if_pos hi, hx, hy, h i x y hi hx hy]
  · rw [if_neg hi, Vb.rat_none (by omega)]
theorem rat_mem {l : List UInt8} {i : Nat} {x : UInt8} (h : Vb.rat l i = some x) : x ∈ l := by
  unfold Vb.rat at h
  have := List.mem_of_getElem? h
  simpa using this
theorem bits_at {l : List UInt8} {i : Nat} {x : UInt8} (h : Vb.rat l i = some x) (h64 : i < 64) : (Vb.kn l).getLsbD i = Vb.knB x ∧ (Vb.wh l).getLsbD i = Vb.whB x := by
  rw [Vb.kn, Vb.wh, Vb.getLsbD_word, Vb.getLsbD_word, h]; simp [h64]
theorem four {c : UInt8} (h : Vb.isV c = true) : c = 48 ∨ c = 49 ∨ c = 120 ∨ c = 122 := by
  unfold Vb.isV at h
  simp only [Bool.or_eq_true, beq_iff_eq] at h
  rcases h with ((h | h) | h) | h
  · exact .inl h
  · exact .inr (.inl h)
  · exact .inr (.inr (.inl h))
  · exact .inr (.inr (.inr h))
theorem mix_txt {a b : List UInt8} (va : a.all Vb.isV = true) (vb : b.all Vb.isV = true) (hl : a.length = b.length) (h2 : a.length ≤ 64) :
    Vb.txt a.length (Vb.kn a &&& ~~~Vb.wh a &&& (Vb.kn b &&& ~~~Vb.wh b) ||| (Vb.kn a &&& Vb.wh a &&& (Vb.kn b &&& Vb.wh b))) (Vb.kn a &&& Vb.wh a &&& (Vb.kn b &&& Vb.wh b)) = List.zipWith mixB a b := by
  apply txt_zip mixB hl
  intro i x y hi hx hy
  have h64 : i < 64 := by omega
  obtain ⟨k1, w1⟩ := bits_at hx h64
  obtain ⟨k2, w2⟩ := bits_at hy h64
  simp only [BitVec.getLsbD_or, BitVec.getLsbD_and, BitVec.getLsbD_not, k1, k2, w1, w2, h64, decide_true, Bool.true_and]
  rcases four (List.all_eq_true.1 va x (rat_mem hx)) with rfl | rfl | rfl | rfl <;> rcases four (List.all_eq_true.1 vb y (rat_mem hy)) with rfl | rfl | rfl | rfl <;> rfl
set_option maxHeartbeats 400000 in
theorem iChoose (c a b : ByteArray) (w : World) (hc : c.size ≤ maxLen) (ha : a.size ≤ maxLen) (hb : b.size ≤ maxLen) (vc : Vb.okV (L c) = true) (va : Vb.okV (L a) = true) (vb : Vb.okV (L b) = true) (hl : a.size = b.size) :
    Calls Try.prog 29 #[.string c, .string a, .string b] w fun e w' => e = .returned (.string (S (choL (L c) (L a) (L b)))) ∧ Below w.heap.size w w' := by
  obtain ⟨c1, c2, c3⟩ := (okV_iff c).1 vc
  obtain ⟨a1, a2, a3⟩ := (okV_iff a).1 va
  obtain ⟨b1, b2, b3⟩ := (okV_iff b).1 vb
  have hne : ((a.size : Int) != (b.size : Int)) = false := by simp [hl]
  have VC := hide vc
  have VA := hide va
  have VBB := hide vb
  have ht : tru c.size (Vb.kn (L c)) (Vb.wh (L c)) = truthL (L c) := by
    have := tru_truth c3 (by rw [L_len]; exact c2)
    rw [L_len] at this; exact this
  have hta : Vb.txt a.size (Vb.kn (L a)) (Vb.wh (L a)) = L a := by
    have := Vb.txt_of a3 (by rw [L_len]; exact a2)
    rw [L_len] at this; exact this
  have htb : Vb.txt b.size (Vb.kn (L b)) (Vb.wh (L b)) = L b := by
    have := Vb.txt_of b3 (by rw [L_len]; exact b2)
    rw [L_len] at this; exact this
  have htm := mix_txt a3 b3 (by rw [L_len, L_len]; exact hl) (by rw [L_len]; exact a2)
  rw [L_len] at htm
  have HT := hide ht
  have HTA := hide hta
  have HTB := hide htb
  have HTM := hide htm
  clear vc va vb hl c3 a3 b3 ht hta htb htm
  generalize hC1 : Vb.kn (L c) = C1 at *
  generalize hC2 : Vb.wh (L c) = C2 at *
  generalize hA1 : Vb.kn (L a) = A1 at *
  generalize hA2 : Vb.wh (L a) = A2 at *
  generalize hB1 : Vb.kn (L b) = B1 at *
  generalize hB2 : Vb.wh (L b) = B2 at *
  have HC1 := hide hC1
  have HC2 := hide hC2
  have HA1 := hide hA1
  have HA2 := hide hA2
  have HB1 := hide hB1
  have HB2 := hide hB2
  clear hC1 hC2 hA1 hA2 hB1 hB2
  go_enter Try.func29, Try.ntmps29
  go_wp2_with fail
  refine (iVecOf c _ hc (unhide VC)).mono ?_
  rw [unhide HC1, unhide HC2]
  rintro e w1 ⟨rfl, hb1⟩
  unfold V
  go_wp2_with fail
  refine (iTwoOf a b _ ha hb (unhide VA) (unhide VBB)).mono ?_
  rw [unhide HA1, unhide HA2, unhide HB1, unhide HB2]
  rintro e w2 ⟨rfl, hb2⟩
  obtain ⟨u0, u1, u2⟩ : VB w1.heap.size c.size C1 C2 w2 := VB_later hb2 (VB_new w1)
  have B2' : Below w.heap.size w w2 := btr (bal hb1 _) hb2
  have hz1 : w1.heap.size < w2.heap.size := by have := hb2.size; simp at this; omega
  have hp1 : w1.heap.size < w2.heap.size + 1 := by omega
  unfold V
  go_wp2_with fail
  have ht := truthL_cases (L c)
  generalize hTT : truthL (L c) = t at *
  have HTT := hide hTT
  clear hTT
  rcases ht with rfl | rfl | rfl
  · refine (iChoose1 _ _ _ _ _ _ _ _ _ c2 _ (by rw [unhide HT])).mono ?_
    rintro e w3 ⟨rfl, hb3⟩
    unfold V
    go_wp2_with fail
    refine (iText _ _ _ a2 _).mono ?_
    rw [unhide HTA]
    rintro e w4 ⟨rfl, hb4⟩
    go_wp2
    go_ret
    exact ⟨by rw [choL, unhide HTT, if_pos rfl]; rfl, btr (btr (bal (bal B2' _) _) hb3) hb4⟩
  · refine (iChoose0 _ _ _ _ _ _ _ _ _ c2 _ (by rw [unhide HT])).mono ?_
    rintro e w3 ⟨rfl, hb3⟩
    unfold V
    go_wp2_with fail
    refine (iText _ _ _ b2 _).mono ?_
    rw [unhide HTB]
    rintro e w4 ⟨rfl, hb4⟩
    go_wp2
    go_ret
    exact ⟨by rw [choL, unhide HTT, if_neg (by decide), if_pos rfl]; rfl, btr (btr (bal (bal B2' _) _) hb3) hb4⟩
  · refine (iChoosex _ _ _ _ _ _ _ _ _ c2 _ (by rw [unhide HT])).mono ?_
    rintro e w3 ⟨rfl, hb3⟩
    unfold V
    go_wp2_with fail
    refine (iText _ _ _ a2 _).mono ?_
    rw [unhide HTM]
    rintro e w4 ⟨rfl, hb4⟩
    go_wp2
    go_ret
    exact ⟨by rw [choL, unhide HTT, if_neg (by decide), if_neg (by decide)]; rfl, btr (btr (bal (bal B2' _) _) hb3) hb4⟩
set_option maxHeartbeats 400000 in
theorem iChoose_no (c a b : ByteArray) (w : World) (hc : c.size ≤ maxLen) (ha : a.size ≤ maxLen) (hb : b.size ≤ maxLen) (h : (Vb.okV (L c) && (Vb.okV (L a) && Vb.okV (L b) && decide (a.size = b.size))) = false) :
    Calls Try.prog 29 #[.string c, .string a, .string b] w fun e w' => e = .returned (.string (S [])) ∧ Below w.heap.size w w' := by
  cases hab : (Vb.okV (L a) && Vb.okV (L b))
  · have HAB := hide hab
    clear h hab
    go_enter Try.func29, Try.ntmps29
    go_wp2_with fail
    refine (iVecAny c _ hc).mono ?_
    rintro e w1 ⟨⟨n, k, h, rfl⟩, hb1⟩
    generalize Vb.okV (L c) = oc
    unfold V
    go_wp2_with fail
    refine (iTwoOf_no a b _ ha hb (unhide HAB)).mono ?_
    rintro e w2 ⟨⟨na, A1, A2, nb, B1, B2, rfl⟩, hb2⟩
    unfold V
    cases oc
    · go_wp2
      go_ret
      exact ⟨rfl, bal (bal (btr (bal hb1 _) hb2) _) _⟩
    · go_wp2
      go_ret
      exact ⟨rfl, bal (bal (btr (bal hb1 _) hb2) _) _⟩
  · rw [hab, Bool.true_and] at h
    rw [Bool.and_eq_true] at hab
    have HAB := hide hab
    clear hab
    cases hoc : Vb.okV (L c)
    · have HC := hide hoc
      clear h hoc
      go_enter Try.func29, Try.ntmps29
      go_wp2_with fail
      refine (iVecOf_no c _ hc (unhide HC)).mono ?_
      rintro e w1 ⟨rfl, hb1⟩
      unfold V
      go_wp2_with fail
      refine (iTwoOf a b _ ha hb (unhide HAB).1 (unhide HAB).2).mono ?_
      rintro e w2 ⟨rfl, hb2⟩
      unfold V
      go_wp2
      go_ret
      exact ⟨rfl, bal (bal (btr (bal hb1 _) hb2) _) _⟩
    · rw [hoc, Bool.true_and] at h
      have hne : ((a.size : Int) != (b.size : Int)) = true := by simp at h; simp; omega
      have HC := hide hoc
      clear h hoc
      go_enter Try.func29, Try.ntmps29
      go_wp2_with fail
      refine (iVecOf c _ hc (unhide HC)).mono ?_
      rintro e w1 ⟨rfl, hb1⟩
      unfold V
      go_wp2_with fail
      refine (iTwoOf a b _ ha hb (unhide HAB).1 (unhide HAB).2).mono ?_
      rintro e w2 ⟨rfl, hb2⟩
      unfold V
      go_wp2
      go_ret
      exact ⟨rfl, bal (bal (btr (bal hb1 _) hb2) _) _⟩
set_option maxHeartbeats 400000 in
theorem lChoose (c a b : ByteArray) (w : World) (hc : c.size ≤ maxLen) (ha : a.size ≤ maxLen) (hb : b.size ≤ maxLen) :
    Calls Try.prog 13 #[.string c, .string a, .string b] w fun e w' => e = .returned (.bool true) ∧ Below w.heap.size w w' := by
  by_cases h1 : 1048576 < (c.size : Int)
  · go_enter Try.func13, Try.ntmps13
    go_wp2
    go_ret
    exact ⟨rfl, brf _⟩
  by_cases h2 : 1048576 < (a.size : Int)
  · go_enter Try.func13, Try.ntmps13
    go_wp2
    go_ret
    exact ⟨rfl, brf _⟩
  by_cases h3 : 1048576 < (b.size : Int)
  · go_enter Try.func13, Try.ntmps13
    go_wp2
    go_ret
    exact ⟨rfl, brf _⟩
  cases hg : (Vb.okV (L c) && (Vb.okV (L a) && Vb.okV (L b) && decide (a.size = b.size)))
  · have HG := hide hg
    clear hg
    go_enter Try.func13, Try.ntmps13
    go_wp2_with fail
    refine (sChoose_no c a b _ hc ha hb (unhide HG)).mono ?_
    rintro e w1 ⟨rfl, hb1⟩
    go_wp2_with fail
    refine (iChoose_no c a b _ hc ha hb (unhide HG)).mono ?_
    rintro e w2 ⟨rfl, hb2⟩
    go_wp2
    go_ret
    exact ⟨rfl, btr hb1 hb2⟩
  · rw [Bool.and_eq_true, Bool.and_eq_true, Bool.and_eq_true, decide_eq_true_eq] at hg
    have HG := hide hg
    clear hg
    go_enter Try.func13, Try.ntmps13
    go_wp2_with fail
    refine (sChoose c a b _ hc ha hb (unhide HG).1 (unhide HG).2.1.1 (unhide HG).2.1.2 (unhide HG).2.2).mono ?_
    rintro e w1 ⟨rfl, hb1⟩
    generalize hR : S (choL (L c) (L a) (L b)) = R
    have HR := hide hR
    clear hR
    go_wp2_with fail
    refine (iChoose c a b _ hc ha hb (unhide HG).1 (unhide HG).2.1.1 (unhide HG).2.1.2 (unhide HG).2.2).mono ?_
    rintro e w2 ⟨rfl, hb2⟩
    rw [unhide HR]
    go_wp2
    go_ret
    exact ⟨rfl, btr hb1 hb2⟩
end Go.Proofs.Ytmbllgblbdfobaa
