/- The law FnExactPart's walk: the program's Part answers as the specification's. -/
import Derived.Test.YtmbllgblbdfobaaS5
import Derived.Test.YtmbllgblbdfobaaI4
namespace Go.Proofs.Ytmbllgblbdfobaa
open Go.RowKit
theorem rat_partL (l : List UInt8) (lo : Int) (j i : Nat) : Vb.rat (partL l lo j) i = if i < j then some (atI l (lo + i)) else none := by
  induction j with
  | zero => simp [partL, Vb.rat]
  | succ j ih =>
    rw [partL, Vb.rat_cons, partL_len, ih]
    by_cases h1 : i < j
    · have : i < j + 1 := by omega
      simp [h1, this]
    · by_cases h2 : i = j
      · subst h2; simp
      · have : ¬ i < j + 1 := by omega
        simp [h1, h2, this]
theorem bit_out (p : UInt8 → Bool) {l : List UInt8} {i : Nat} (h : l.length ≤ i) : (Vb.word p l).getLsbD i = false := by
  rw [Vb.getLsbD_word, Vb.rat_none h]; simp
theorem at_bits {l : List UInt8} (hv : l.all Vb.isV = true) (h2 : l.length ≤ 64) (i : Nat) : Vb.letter ((Vb.kn l).getLsbD i) ((Vb.wh l).getLsbD i) = atI l i := by
  unfold atI
  rw [if_pos (by omega), Int.toNat_natCast]
  by_cases hi : i < l.length
  · rw [← letter_rat hv hi (by omega)]; rfl
  · rw [Vb.kn, Vb.wh, bit_out _ (by omega), bit_out _ (by omega), Vb.rat_none (by omega)]; rfl
theorem part_ge {l : List UInt8} (hv : l.all Vb.isV = true) (h2 : l.length ≤ 64) (lo m : Nat) (hm : m ≤ 64) :
    Vb.txt m (Vb.kn l >>> lo &&& Vb.ones m) (Vb.wh l >>> lo &&& Vb.ones m) = partL l lo m := by
  apply Vb.rat_ext
  intro i
  rw [Vb.rat_txt, rat_partL]
  by_cases hi : i < m
  · rw [if_pos hi, if_pos hi, BitVec.getLsbD_and, BitVec.getLsbD_and, BitVec.getLsbD_ushiftRight, BitVec.getLsbD_ushiftRight, Vb.getLsbD_ones]
    have h64 : i < 64 := by omega
    simp only [hi, h64, decide_true, Bool.and_true]
    rw [at_bits hv h2, Int.natCast_add]
  · rw [if_neg hi, if_neg hi]
theorem part_lt {l : List UInt8} (hv : l.all Vb.isV = true) (h2 : l.length ≤ 64) (lo : Int) (hlo : lo < 0) (m : Nat) (hm : m ≤ 64) :
    Vb.txt m (Vb.kn l <<< (-lo).toNat &&& Vb.ones m) (Vb.wh l <<< (-lo).toNat &&& Vb.ones m) = partL l lo m := by
  apply Vb.rat_ext
  intro i
  rw [Vb.rat_txt, rat_partL]
  by_cases hi : i < m
  · rw [if_pos hi, if_pos hi, BitVec.getLsbD_and, BitVec.getLsbD_and, BitVec.getLsbD_shiftLeft, BitVec.getLsbD_shiftLeft, Vb.getLsbD_ones]
    have h64 : i < 64 := by omega
    simp only [hi, h64, decide_true, Bool.and_true, Bool.true_and]
    by_cases hs : i < (-lo).toNat
    · simp only [hs, decide_true, Bool.not_true, Bool.false_and]
      unfold atI
      rw [if_neg (by omega)]; rfl
    · simp only [hs, decide_false, Bool.not_false, Bool.true_and]
      rw [at_bits hv h2, show ((i - (-lo).toNat : Nat) : Int) = lo + i by omega]
  · rw [if_neg hi, if_neg hi]
theorem wrap_diff (hi lo : Int) (d : Nat) (e : hi - lo = d) (hd : d < 9223372036854775808) : IntKind.u64.wrap (IntKind.u64.wrap hi - IntKind.u64.wrap lo) = (d : Int) := by
  rw [IntKind.wrap_u64, IntKind.wrap_u64, IntKind.wrap_u64]; omega
set_option maxHeartbeats 400000 in
theorem iPart (s : ByteArray) (hi lo : Int) (w : World) (hs : s.size ≤ maxLen) (hv : Vb.okV (L s) = true) (hn1 : lo ≤ hi) (b1 : -9223372036854775808 ≤ lo) (b2 : hi ≤ 9223372036854775807) (d : Nat) (he : hi - lo = d) (hd : d < 64) :
    Calls Try.prog 24 #[.string s, .int .i64 hi, .int .i64 lo] w fun e w' => e = .returned (.string (S (partL (L s) lo (d + 1)))) ∧ Below w.heap.size w w' := by
  obtain ⟨h1, h2, h3⟩ := (okV_iff s).1 hv
  have hw := wrap_diff hi lo d he (by omega)
  have c1 : decide (hi < lo) = false := by simp; omega
  have HV := hide hv
  have H3 := hide h3
  clear hv h3 he
  go_enter Try.func24, Try.ntmps24
  go_wp2_with fail
  refine (iVecOf s _ hs (unhide HV)).mono ?_
  rintro e w1 ⟨rfl, hb⟩
  unfold V
  go_wp2_with fail
  rw [show ((d : Int) + 1) = ((d + 1 : Nat) : Int) by omega]
  by_cases h0 : lo < 0
  · refine (iSlice_lt _ (d + 1) _ _ lo h0 b1 (by omega) _).mono ?_
    rintro e w2 ⟨rfl, hb2⟩
    unfold V
    go_wp2_with fail
    refine (iText (d + 1) _ _ (by omega) _).mono ?_
    rintro e w3 ⟨rfl, hb3⟩
    rw [part_lt (unhide H3) (by rw [L_len]; exact h2) lo h0 (d + 1) (by omega)]
    go_wp2
    go_ret
    refine ⟨rfl, ?_⟩
    repeat first | exact brf _ | refine bdr ?_ | refine bst ?_ (by first | exact Nat.le_refl _ | (simp; done) | (simp; omega)) _ | refine btr ?_ hb3 | refine btr ?_ hb2 | refine btr ?_ hb | refine bal ?_ _
  · obtain ⟨k, rfl⟩ := Int.eq_ofNat_of_zero_le (show 0 ≤ lo by omega)
    refine (iSlice_ge _ (d + 1) _ _ k (by omega) (by omega) _).mono ?_
    rintro e w2 ⟨rfl, hb2⟩
    unfold V
    go_wp2_with fail
    refine (iText (d + 1) _ _ (by omega) _).mono ?_
    rintro e w3 ⟨rfl, hb3⟩
    rw [part_ge (unhide H3) (by rw [L_len]; exact h2) k (d + 1) (by omega)]
    go_wp2
    go_ret
    refine ⟨rfl, ?_⟩
    repeat first | exact brf _ | refine bdr ?_ | refine bst ?_ (by first | exact Nat.le_refl _ | (simp; done) | (simp; omega)) _ | refine btr ?_ hb3 | refine btr ?_ hb2 | refine btr ?_ hb | refine bal ?_ _
set_option maxHeartbeats 400000 in
theorem iPart_long (s : ByteArray) (hi lo : Int) (w : World) (hs : s.size ≤ maxLen) (hv : Vb.okV (L s) = true) (hn1 : lo ≤ hi) (b1 : -9223372036854775808 ≤ lo) (b2 : hi ≤ 9223372036854775807) (hd : 64 ≤ hi - lo) :
    Calls Try.prog 24 #[.string s, .int .i64 hi, .int .i64 lo] w fun e w' => e = .returned (.string (S [])) ∧ Below w.heap.size w w' := by
  have hw : 64 ≤ IntKind.u64.wrap (IntKind.u64.wrap hi - IntKind.u64.wrap lo) := by
    rw [IntKind.wrap_u64, IntKind.wrap_u64, IntKind.wrap_u64]; omega
  have c1 : decide (hi < lo) = false := by simp; omega
  have HV := hide hv
  clear hv
  go_enter Try.func24, Try.ntmps24
  go_wp2_with fail
  refine (iVecOf s _ hs (unhide HV)).mono ?_
  rintro e w1 ⟨rfl, hb⟩
  unfold V
  go_wp2
  go_ret
  refine ⟨rfl, ?_⟩
  repeat first | exact brf _ | refine bdr ?_ | refine bst ?_ (by first | exact Nat.le_refl _ | (simp; done) | (simp; omega)) _ | refine btr ?_ hb | refine bal ?_ _
set_option maxHeartbeats 400000 in
theorem iPart_no (s : ByteArray) (hi lo : Int) (w : World) (hs : s.size ≤ maxLen) (h : (Vb.okV (L s) && decide (lo ≤ hi)) = false) :
    Calls Try.prog 24 #[.string s, .int .i64 hi, .int .i64 lo] w fun e w' => e = .returned (.string (S [])) ∧ Below w.heap.size w w' := by
  cases hv : Vb.okV (L s)
  · have HV := hide hv
    clear hv h
    go_enter Try.func24, Try.ntmps24
    go_wp2_with fail
    refine (iVecOf_no s _ hs (unhide HV)).mono ?_
    rintro e w1 ⟨rfl, hb⟩
    unfold V
    go_wp2
    go_ret
    refine ⟨rfl, ?_⟩
    repeat first | exact brf _ | refine bdr ?_ | refine bst ?_ (by first | exact Nat.le_refl _ | (simp; done) | (simp; omega)) _ | refine btr ?_ hb | refine bal ?_ _
  · rw [hv, Bool.true_and] at h
    have HV := hide hv
    have h' : hi < lo := by simpa using h
    clear hv h
    go_enter Try.func24, Try.ntmps24
    go_wp2_with fail
    refine (iVecOf s _ hs (unhide HV)).mono ?_
    rintro e w1 ⟨rfl, hb⟩
    unfold V
    go_wp2
    go_ret
    refine ⟨rfl, ?_⟩
    repeat first | exact brf _ | refine bdr ?_ | refine bst ?_ (by first | exact Nat.le_refl _ | (simp; done) | (simp; omega)) _ | refine btr ?_ hb | refine bal ?_ _
theorem i64_bd {n : Int} (h : (Lit.int .i64 n).wf = true) : -9223372036854775808 ≤ n ∧ n ≤ 9223372036854775807 := by
  have hmin : IntKind.i64.min = -9223372036854775808 := rfl
  have hmax : IntKind.i64.max = 9223372036854775807 := rfl
  simp only [Lit.wf, Bool.and_eq_true, decide_eq_true_eq] at h; omega
set_option maxHeartbeats 400000 in
theorem lPart (s : ByteArray) (hi lo : Int) (w : World) (hs : s.size ≤ maxLen) (whi : (Lit.int .i64 hi).wf = true) (wlo : (Lit.int .i64 lo).wf = true) :
    Calls Try.prog 10 #[.string s, .int .i64 hi, .int .i64 lo] w fun e w' => e = .returned (.bool true) ∧ Below w.heap.size w w' := by
  have b2 := (i64_bd whi).2
  have b1 := (i64_bd wlo).1
  clear whi wlo
  by_cases h : 1048576 < (s.size : Int)
  · go_enter Try.func10, Try.ntmps10
    go_wp2
    go_ret
    exact ⟨rfl, brf _⟩
  · cases hg : (Vb.okV (L s) && decide (lo ≤ hi))
    · have HG := hide hg
      clear hg
      go_enter Try.func10, Try.ntmps10
      go_wp2_with fail
      refine (sPart_no s hi lo _ hs (unhide HG)).mono ?_
      rintro e w' ⟨rfl, rfl⟩
      go_wp2_with fail
      refine (iPart_no s hi lo _ hs (unhide HG)).mono ?_
      rintro e w' ⟨rfl, hb⟩
      go_wp2
      go_ret
      exact ⟨rfl, hb⟩
    · rw [Bool.and_eq_true, decide_eq_true_eq] at hg
      obtain ⟨hv, hle⟩ := hg
      have HV := hide hv
      clear hv
      go_enter Try.func10, Try.ntmps10
      go_wp2_with fail
      refine (sPart s hi lo _ hs (unhide HV) hle b1 b2).mono ?_
      rintro e w' ⟨rfl, rfl⟩
      by_cases hd : hi - lo < 64
      · rw [if_pos hd]
        obtain ⟨d, he⟩ := Int.eq_ofNat_of_zero_le (show 0 ≤ hi - lo by omega)
        rw [he, Int.toNat_natCast]
        have HE := hide he
        have hd' : d < 64 := by omega
        clear he hd
        generalize hR : S (partL (L s) lo (d + 1)) = R
        have HR := hide hR
        clear hR
        go_wp2_with fail
        refine (iPart s hi lo _ hs (unhide HV) hle b1 b2 d (unhide HE) hd').mono ?_
        rintro e w' ⟨rfl, hb⟩
        rw [unhide HR]
        go_wp2
        go_ret
        exact ⟨rfl, hb⟩
      · rw [if_neg hd]
        go_wp2_with fail
        refine (iPart_long s hi lo _ hs (unhide HV) hle b1 b2 (by omega)).mono ?_
        rintro e w' ⟨rfl, hb⟩
        go_wp2
        go_ret
        exact ⟨rfl, hb⟩
end Go.Proofs.Ytmbllgblbdfobaa
