/- The law FnExactPart's walk: the program's Part answers as the specification's. -/
/- The numbers of known texts: what Binary, Unary, Resize, Part and Join answer of them, as the law FnNumbers asks. -/
import Derived.Test.YtmbllgblbdfobaaG1Rsz
import Derived.Test.YtmbllgblbdfobaaG17S16
import Derived.Test.YtmbllgblbdfobaaL8
namespace Go.Proofs.Ytmbllgblbdfobaa
open Go.RowKit
theorem rat_partL (l : List UInt8) (lo : Int) (j i : Nat) : Vb.rat (partL l lo j) i = if i < j then some (atI l (lo + i)) else none := by
  induction j with
  | zero => simp [partL, Vb.rat]
  | succ j ih =>
    rw [partL, Vb.rat_cons, partL_len, ih]
    by_cases h1 : i < j
    · have : i < j + 1 := by omega
      simp [h1, this]
    · by_cases h2 : i = j
      · subst h2; simp
      · have : ¬ i < j + 1 := by omega
        simp [h1, h2, this]
theorem bit_out (p : UInt8 → Bool) {l : List UInt8} {i : Nat} (h : l.length ≤ i) : (Vb.word p l).getLsbD i = false := by
  rw [Vb.getLsbD_word, Vb.rat_none h]; simp
theorem at_bits {l : List UInt8} (hv : l.all Vb.isV = true) (h2 : l.length ≤ 64) (i : Nat) : Vb.letter ((Vb.kn l).getLsbD i) ((Vb.wh l).getLsbD i) = atI l i := by
  unfold atI
  rw [if_pos (by omega), Int.toNat_natCast]
  by_cases hi : i < l.length
  · rw [← letter_rat hv hi (by omega)]; rfl
  · rw [Vb.kn, Vb.wh, bit_out _ (by omega), bit_out _ (by omega), Vb.rat_none (by omega)]; rfl
theorem part_ge {l : List UInt8} (hv : l.all Vb.isV = true) (h2 : l.length ≤ 64) (lo m : Nat) (hm : m ≤ 64) :
    Vb.txt m (Vb.kn l >>> lo &&& Vb.ones m) (Vb.wh l >>> lo &&& Vb.ones m) = partL l lo m := by
  apply Vb.rat_ext
  intro i
  rw [Vb.rat_txt, rat_partL]
  by_cases hi : i < m
  · rw [if_pos hi, if_pos hi, BitVec.getLsbD_and, BitVec.getLsbD_and, BitVec.getLsbD_ushiftRight, BitVec.getLsbD_ushiftRight, Vb.getLsbD_ones]
    have h64 : i < 64 := by omega
    simp only [hi, h64, decide_true, Bool.and_true]
    rw [at_bits hv h2, Int.natCast_add]
  · rw [if_neg hi, if_neg hi]
theorem part_lt {l : List UInt8} (hv : l.all Vb.isV = true) (h2 : l.length ≤ 64) (lo : Int) (hlo : lo < 0) (m : Nat) (hm : m ≤ 64) :
    Vb.txt m (Vb.kn l <<< (-lo).toNat &&& Vb.ones m) (Vb.wh l <<< (-lo).toNat &&& Vb.ones m) = partL l lo m := by
  apply Vb.rat_ext
  intro i
  rw [Vb.rat_txt, rat_partL]
  by_cases hi : i < m
  · rw [if_pos hi, if_pos hi, BitVec.getLsbD_and, BitVec.getLsbD_and, BitVec.getLsbD_shiftLeft, BitVec.getLsbD_shiftLeft, Vb.getLsbD_ones]
    have h64 : i < 64 := by omega
    simp only [hi, h64, decide_true, Bool.and_true, Bool.true_and]
    by_cases hs : i < (-lo).toNat
    · simp only [hs, decide_true, Bool.not_true, Bool.false_and]
      unfold atI
      rw [if_neg (by omega)]; rfl
    · simp only [hs, decide_false, Bool.not_false, Bool.true_and]
      rw [at_bits hv h2, show ((i - (-lo).toNat : Nat) : Int) = lo + i by omega]
  · rw [if_neg hi, if_neg hi]
theorem wrap_diff (hi lo : Int) (d : Nat) (e : hi - lo = d) (hd : d < 9223372036854775808) : IntKind.u64.wrap (IntKind.u64.wrap hi - IntKind.u64.wrap lo) = (d : Int) := by
  rw [IntKind.wrap_u64, IntKind.wrap_u64, IntKind.wrap_u64]; omega
set_option maxHeartbeats 400000 in
theorem iPart (s : ByteArray) (hi lo : Int) (w : World) (hs : s.size ≤ maxLen) (hv : Vb.okV (L s) = true) (hn1 : lo ≤ hi) (b1 : -9223372036854775808 ≤ lo) (b2 : hi ≤ 9223372036854775807) (d : Nat) (he : hi - lo = d) (hd : d < 64) :
    Calls Try.prog 24 #[.string s, .int .i64 hi, .int .i64 lo] w fun e w' => e = .returned (.string (S (partL (L s) lo (d + 1)))) ∧ Below w.heap.size w w' := by
  obtain ⟨h1, h2, h3⟩ := (okV_iff s).1 hv
  have hw := wrap_diff hi lo d he (by omega)
  have c1 : decide (hi < lo) = false := by simp; omega
  have HV := hide hv
  have H3 := hide h3
  clear hv h3 he
  go_enter Try.func24, Try.ntmps24
  go_wp2_with fail
  refine (iVecOf s _ hs (unhide HV)).mono ?_
  rintro e w1 ⟨rfl, hb⟩
  unfold V
  go_wp2_with fail
  rw [show ((d : Int) + 1) = ((d + 1 : Nat) : Int) by omega]
  by_cases h0 : lo < 0
  · refine (iSlice_lt _ (d + 1) _ _ lo h0 b1 (by omega) _).mono ?_
    rintro e w2 ⟨rfl, hb2⟩
    unfold V
    go_wp2_with fail
    refine (iText (d + 1) _ _ (by omega) _).mono ?_
    rintro e w3 ⟨rfl, hb3⟩
    rw [part_lt (unhide H3) (by rw [L_len]; exact h2) lo h0 (d + 1) (by omega)]
    go_wp2
    go_ret
    refine ⟨rfl, ?_⟩
    repeat first | exact brf _ | refine bdr ?_ | refine bst ?_ (by first | exact Nat.le_refl _ | (simp; done) | (simp; omega)) _ | refine btr ?_ hb3 | refine btr ?_ hb2 | refine btr ?_ hb | refine bal ?_ _
  · obtain ⟨k, rfl⟩ := Int.eq_ofNat_of_zero_le (show 0 ≤ lo by omega)
    refine (iSlice_ge _ (d + 1) _ _ k (by omega) (by omega) _).mono ?_
    rintro e w2 ⟨rfl, hb2⟩
    unfold V
    go_wp2_with fail
    refine (iText (d + 1) _ _ (by omega) _).mono ?_
    rintro e w3 ⟨rfl, hb3⟩
    rw [part_ge (unhide H3) (by rw [L_len]; exact h2) k (d + 1) (by omega)]
    go_wp2
    go_ret
    refine ⟨rfl, ?_⟩
    repeat first | exact brf _ | refine bdr ?_ | refine bst ?_ (by first | exact Nat.le_refl _ | (simp; done) | (simp; omega)) _ | refine btr ?_ hb3 | refine btr ?_ hb2 | refine btr ?_ hb | refine bal ?_ _
set_option maxHeartbeats 400000 in
theorem iPart_long (s : ByteArray) (hi lo : Int) (w : World) (hs : s.size ≤ maxLen) (hv : Vb.okV (L s) = true) (hn1 : lo ≤ hi) (b1 : -9223372036854775808 ≤ lo) (b2 : hi ≤ 9223372036854775807) (hd : 64 ≤ hi - lo) :
    Calls Try.prog 24 #[.string s, .int .i64 hi, .int .i64 lo] w fun e w' => e = .returned (.string (S [])) ∧ Below w.heap.size w w' := by
  have hw : 64 ≤ IntKind.u64.wrap (IntKind.u64.wrap hi - IntKind.u64.wrap lo) := by
    rw [IntKind.wrap_u64, IntKind.wrap_u64, IntKind.wrap_u64]; omega
  have c1 : decide (hi < lo) = false := by simp; omega
  have HV := hide hv
  clear hv
  go_enter Try.func24, Try.ntmps24
  go_wp2_with fail
  refine (iVecOf s _ hs (unhide HV)).mono ?_
  rintro e w1 ⟨rfl, hb⟩
  unfold V
  go_wp2
  go_ret
  refine ⟨rfl, ?_⟩
  repeat first | exact brf _ | refine bdr ?_ | refine bst ?_ (by first | exact Nat.le_refl _ | (simp; done) | (simp; omega)) _ | refine btr ?_ hb | refine bal ?_ _
set_option maxHeartbeats 400000 in
theorem iPart_no (s : ByteArray) (hi lo : Int) (w : World) (hs : s.size ≤ maxLen) (h : (Vb.okV (L s) && decide (lo ≤ hi)) = false) :
    Calls Try.prog 24 #[.string s, .int .i64 hi, .int .i64 lo] w fun e w' => e = .returned (.string (S [])) ∧ Below w.heap.size w w' := by
  cases hv : Vb.okV (L s)
  · have HV := hide hv
    clear hv h
    go_enter Try.func24, Try.ntmps24
    go_wp2_with fail
    refine (iVecOf_no s _ hs (unhide HV)).mono ?_
    rintro e w1 ⟨rfl, hb⟩
    unfold V
    go_wp2
    go_ret
    refine ⟨rfl, ?_⟩
    repeat first | exact brf _ | refine bdr ?_ | refine bst ?_ (by first | exact Nat.le_refl _ | (simp; done) | (simp; omega)) _ | refine btr ?_ hb | refine bal ?_ _
  · rw [hv, Bool.true_and] at h
    have HV := hide hv
    have h' : hi < lo := by simpa using h
    clear hv h
    go_enter Try.func24, Try.ntmps24
    go_wp2_with fail
    refine (iVecOf s _ hs (unhide HV)).mono ?_
    rintro e w1 ⟨rfl, hb⟩
    unfold V
    go_wp2
    go_ret
    refine ⟨rfl, ?_⟩
    repeat first | exact brf _ | refine bdr ?_ | refine bst ?_ (by first | exact Nat.le_refl _ | (simp; done) | (simp; omega)) _ | refine btr ?_ hb | refine bal ?_ _
theorem i64_bd {n : Int} (h : (Lit.int .i64 n).wf = true) : -9223372036854775808 ≤ n ∧ n ≤ 9223372036854775807 := by
  have hmin : IntKind.i64.min = -9223372036854775808 := rfl
  have hmax : IntKind.i64.max = 9223372036854775807 := rfl
  simp only [Lit.wf, Bool.and_eq_true, decide_eq_true_eq] at h; omega
set_option maxHeartbeats 400000 in
theorem lPart (s : ByteArray) (hi lo : Int) (w : World) (hs : s.size ≤ maxLen) (whi : (Lit.int .i64 hi).wf = true) (wlo : (Lit.int .i64 lo).wf = true) :
    Calls Try.prog 10 #[.string s, .int .i64 hi, .int .i64 lo] w fun e w' => e = .returned (.bool true) ∧ Below w.heap.size w w' := by
  have b2 := (i64_bd whi).2
  have b1 := (i64_bd wlo).1
  clear whi wlo
  by_cases h : 1048576 < (s.size : Int)
  · go_enter Try.func10, Try.ntmps10
    go_wp2
    go_ret
    exact ⟨rfl, brf _⟩
  · cases hg : (Vb.okV (L s) && decide (lo ≤ hi))
    · have HG := hide hg
      clear hg
      go_enter Try.func10, Try.ntmps10
      go_wp2_with fail
      refine (sPart_no s hi lo _ hs (unhide HG)).mono ?_
      rintro e w' ⟨rfl, rfl⟩
      go_wp2_with fail
      refine (iPart_no s hi lo _ hs (unhide HG)).mono ?_
      rintro e w' ⟨rfl, hb⟩
      go_wp2
      go_ret
      exact ⟨rfl, hb⟩
    · rw [Bool.and_eq_true, decide_eq_true_eq] at hg
      obtain ⟨hv, hle⟩ := hg
      have HV := hide hv
      clear hv
      go_enter Try.func10, Try.ntmps10
      go_wp2_with fail
      refine (sPart s hi lo _ hs (unhide HV) hle b1 b2).mono ?_
      rintro e w' ⟨rfl, rfl⟩
      by_cases hd : hi - lo < 64
      · rw [if_pos hd]
        obtain ⟨d, he⟩ := Int.eq_ofNat_of_zero_le (show 0 ≤ hi - lo by omega)
        rw [he, Int.toNat_natCast]
        have HE := hide he
        have hd' : d < 64 := by omega
        clear he hd
        generalize hR : S (partL (L s) lo (d + 1)) = R
        have HR := hide hR
        clear hR
        go_wp2_with fail
        refine (iPart s hi lo _ hs (unhide HV) hle b1 b2 d (unhide HE) hd').mono ?_
        rintro e w' ⟨rfl, hb⟩
        rw [unhide HR]
        go_wp2
        go_ret
        exact ⟨rfl, hb⟩
      · rw [if_neg hd]
        go_wp2_with fail
        refine (iPart_long s hi lo _ hs (unhide HV) hle b1 b2 (by omega)).mono ?_
        rintro e w' ⟨rfl, hb⟩
        go_wp2
        go_ret
        exact ⟨rfl, hb⟩
end Go.Proofs.Ytmbllgblbdfobaa
namespace Go.Proofs.Ytmbllgblbdfobaa
open Go.RowKit
set_option linter.unusedVariables false
/-- Two contracts on one call speak of one end. -/
theorem one_end {f : FuncId} {args : Array Value} {w : World} {x y : Value} {R R' : World → Prop}
    (h : Calls Try.prog f args w fun e w' => e = .returned x ∧ R w') (h' : Calls Try.prog f args w fun e w' => e = .returned y ∧ R' w') (hi : Try.prog.inits.idxOf? f = none) : x = y := by
  obtain ⟨n, v, w1, e1, r1, _⟩ := (h.mono (R' := fun | .returned v, w' => v = x ∧ R w' | _, _ => False) (fun e w' ⟨he, q⟩ => by subst he; exact ⟨rfl, q⟩)).done hi
  obtain ⟨m, v', w2, e2, r2, _⟩ := (h'.mono (R' := fun | .returned v, w' => v = y ∧ R' w' | _, _ => False) (fun e w' ⟨he, q⟩ => by subst he; exact ⟨rfl, q⟩)).done hi
  have a := runN_ended e1 m
  have b := runN_ended e2 n
  rw [Nat.add_comm, a] at b
  injection b with ho hw
  injection ho with hv
  rw [← r1, ← r2, hv]
theorem no_init28 : Try.prog.inits.idxOf? 28 = none := by kernel_rfl
/-- The program's Binary answers what the specification's answers. -/
theorem iBinIs {op : Int} {sg : Bool} {a b : ByteArray} {R : List UInt8} (ha : a.size ≤ maxLen) (hb : b.size ≤ maxLen)
    (h : ∀ w, Calls Try.prog 28 #[.int .i64 op, .bool sg, .string a, .string b] w fun e w' => e = .returned (.string (S R)) ∧ Below w.heap.size w w') (w : World) :
    Calls Try.prog 19 #[.int .i64 op, .bool sg, .string a, .string b] w fun e w' => e = .returned (.string (S R)) ∧ Below w.heap.size w w' := by
  obtain ⟨Q, h1, h2⟩ := bothAll op sg a b ha hb
  have e := one_end (h w) (h1 w) no_init28
  rw [e]; exact h2 w
theorem nI {n u : Nat} {v : Int} (h2 : n ≤ 64) (h : (u : Int) % ((2 ^ n : Nat) : Int) = v % ((2 ^ n : Nat) : Int)) : Vb.nTxt n u = Vb.nTxt n (v % 18446744073709551616).toNat := by
  apply Vb.nTxt_congr
  apply mod_ofInt
  rw [h]
  have e : (((v % 18446744073709551616).toNat : Nat) : Int) = v % ((2 ^ 64 : Nat) : Int) := by omega
  rw [e, Int.emod_emod_of_dvd _ (dvd64i h2)]
theorem intF {l : List UInt8} (h2 : l.length ≤ 30) : intL false l = (Vb.num l : Int) := by
  have h := Vb.num_lt l
  have hp : 2 ^ l.length ≤ 2 ^ 30 := Nat.pow_le_pow_right (by decide) h2
  rw [intL_no (by simp), w64_in]; omega
theorem intT {l : List UInt8} (h1 : 1 ≤ l.length) (h2 : l.length ≤ 30) : intL true l = sI l := by
  have h := Vb.num_lt l
  have hp : 2 ^ l.length ≤ 2 ^ 30 := Nat.pow_le_pow_right (by decide) h2
  have hc : ((2 ^ l.length : Nat) : Int) = (2 : Int) ^ l.length := by simp
  unfold sI
  by_cases hh : Vb.oneB (l.headD 0) = true
  · rw [intL_yes hh, if_pos hh, w64_in] <;> omega
  · rw [intL_no (by simpa using hh), if_neg hh, w64_in] <;> omega
theorem nAdd {a b : List UInt8} {n : Nat} (hn : n ≤ 64) : Vb.nTxt n (Vb.num a + Vb.num b) = Vb.nTxt n (((Vb.num a : Int) + (Vb.num b : Int)) % 18446744073709551616).toNat := nI hn (by simp)
theorem nMul {a b : List UInt8} {n : Nat} (hn : n ≤ 64) : Vb.nTxt n (Vb.num a * Vb.num b) = Vb.nTxt n (((Vb.num a : Int) * (Vb.num b : Int)) % 18446744073709551616).toNat := nI hn (by simp)
theorem nSub {a b : List UInt8} {n : Nat} (hn : n ≤ 64) (hb : b.length = n) : Vb.nTxt n (Vb.num a + (2 ^ n - Vb.num b)) = Vb.nTxt n (((Vb.num a : Int) - (Vb.num b : Int)) % 18446744073709551616).toNat := by
  refine nI hn ?_
  have h := Vb.num_lt b
  rw [hb] at h
  have e : ((Vb.num a + (2 ^ n - Vb.num b) : Nat) : Int) = ((Vb.num a : Int) - (Vb.num b : Int)) + ((2 ^ n : Nat) : Int) := by omega
  rw [e]; simp
theorem nNeg {a : List UInt8} {n : Nat} (hn : n ≤ 64) (ha : a.length = n) : Vb.nTxt n (2 ^ n - Vb.num a) = Vb.nTxt n ((-(Vb.num a : Int)) % 18446744073709551616).toNat := by
  refine nI hn ?_
  have h := Vb.num_lt a
  rw [ha] at h
  have e : ((2 ^ n - Vb.num a : Nat) : Int) = -(Vb.num a : Int) + ((2 ^ n : Nat) : Int) := by omega
  rw [e]; simp
theorem nDivU {a b : List UInt8} {n : Nat} (hn : n ≤ 64) : divL n false a b = Vb.nTxt n (((Vb.num a : Int).tdiv (Vb.num b : Int)) % 18446744073709551616).toNat := by
  unfold divL absN
  rw [if_neg (by simp), if_neg (by simp), if_neg (by simp)]
  refine nI hn ?_
  rw [← Int.ofNat_tdiv]
theorem nRemU {a b : List UInt8} {n : Nat} (hn : n ≤ 64) : remL n false a b = Vb.nTxt n (((Vb.num a : Int).tmod (Vb.num b : Int)) % 18446744073709551616).toNat := by
  unfold remL absN
  rw [if_neg (by simp), if_neg (by simp), if_neg (by simp)]
  refine nI hn ?_
  rw [← Int.ofNat_tmod]
theorem nDivS {a b : List UInt8} {n : Nat} (ka : a.all Vb.knB = true) (kb : b.all Vb.knB = true) (ha : a.length = n) (hb : b.length = n) (h1 : 1 ≤ n) (h2 : n ≤ 64) : divL n true a b = Vb.nTxt n (((sI a).tdiv (sI b)) % 18446744073709551616).toNat := by
  have h := divs_txt ka kb (by omega) (by omega) (by omega)
  rw [ha] at h
  rw [← h, BitVec.toNat_ofInt]; rfl
theorem nRemS {a b : List UInt8} {n : Nat} (ka : a.all Vb.knB = true) (kb : b.all Vb.knB = true) (ha : a.length = n) (hb : b.length = n) (h1 : 1 ≤ n) (h2 : n ≤ 64) (hz : 0 < Vb.num b) : remL n true a b = Vb.nTxt n (((sI a).tmod (sI b)) % 18446744073709551616).toNat := by
  have hq := ofq_mod n h2 ((sI a).tdiv (sI b))
  have h := rems_txt ka kb (by omega) (by omega) (by omega) hz (BitVec.ofInt 64 ((sI a).tdiv (sI b)) &&& Vb.ones n) (by rw [ha]; exact hq)
  rw [ha] at h
  rw [← h]
  have e : ((((sI a).tmod (sI b)) % 18446744073709551616).toNat : Int) = ((sI a).tmod (sI b)) % ((2 ^ 64 : Nat) : Int) := by omega
  have na := num_sI ka (by omega)
  have nb := num_sI kb (by omega)
  rw [ha] at na
  rw [hb] at nb
  refine rest_core n h2 _ _ _ (sI a) ((sI a).tdiv (sI b)) (sI b) _ (by rw [Vb.wh_toNat ka (by omega)]; exact na) hq (by rw [Vb.wh_toNat kb (by omega)]; exact nb) ?_
  rw [e, Int.emod_emod_of_dvd _ (dvd64i h2), Int.tmod_def, Int.mul_comm]
theorem nLt {a b : List UInt8} : ltL false a b = decide ((Vb.num a : Int) < (Vb.num b : Int)) := by
  unfold ltL
  rw [if_neg (by simp)]
  simp
theorem nLe {a b : List UInt8} (ka : a.all Vb.knB = true) (kb : b.all Vb.knB = true) (hl : a.length = b.length) (h1 : 1 ≤ a.length) (h2 : a.length ≤ 64) : (decide (a = b) || ltL true a b) = decide (sI a ≤ sI b) := by
  have h := lt_known ka kb hl h1 h2 true
  unfold ltV at h
  have sb := sgn_sI kb (by omega) (by omega)
  rw [← hl] at sb
  rw [if_pos rfl, sgn_sI ka h1 h2, sb] at h
  rw [← h]
  by_cases e : a = b
  · subst e; simp
  · have : ¬ sI a = sI b := fun k => e (sI_inj ka kb hl h1 k)
    simp [e]
    omega
theorem fold48 (l : List UInt8) : l.foldl andB 48 = 48 := by
  induction l with
  | nil => rfl
  | cons c t ih => rw [List.foldl_cons, show andB 48 c = 48 by unfold andB; rw [if_pos (.inl rfl)], ih]
theorem nEqL : ∀ {a b : List UInt8}, a.all Vb.knB = true → b.all Vb.knB = true → a.length = b.length → eqL a b = bl (decide (a = b))
  | [], [], _, _, _ => rfl
  | [], _ :: _, _, _, h => by simp at h
  | _ :: _, [], _, _, h => by simp at h
  | c :: a, d :: b, ka, kb, h => by
    have ih := nEqL (a := a) (b := b) (by simp at ka ⊢; exact ka.2) (by simp at kb ⊢; exact kb.2) (by simpa using h)
    unfold eqL at ih ⊢
    rw [List.zipWith_cons_cons, List.foldl_cons]
    rcases known_top (List.all_eq_true.1 ka c (by simp)) with rfl | rfl <;> rcases known_top (List.all_eq_true.1 kb d (by simp)) with rfl | rfl
    · rw [show andB 49 (notB (xorB 49 49)) = 49 from rfl, ih]; simp
    · rw [show andB 49 (notB (xorB 49 48)) = 48 from rfl, fold48]; simp [bl]
    · rw [show andB 49 (notB (xorB 48 49)) = 48 from rfl, fold48]; simp [bl]
    · rw [show andB 49 (notB (xorB 48 48)) = 49 from rfl, ih]; simp
theorem nEq {a b : List UInt8} (ka : a.all Vb.knB = true) (kb : b.all Vb.knB = true) (hl : a.length = b.length) : eqL a b = bl (decide ((Vb.num a : Int) = (Vb.num b : Int))) := by
  rw [nEqL ka kb hl]
  congr 1
  by_cases e : a = b
  · subst e; simp
  · have : ¬ Vb.num a = Vb.num b := fun k => e (Vb.known_ext ka kb hl k)
    simp [e]; omega
theorem num_rep48 (k : Nat) : Vb.num (List.replicate k 48) = 0 := by
  induction k with
  | zero => rfl
  | succ k ih => rw [List.replicate_succ, num_zero, ih]
theorem num_rep49 (k : Nat) : Vb.num (List.replicate k 49) = 2 ^ k - 1 := by
  induction k with
  | zero => rfl
  | succ k ih => rw [List.replicate_succ, num_one, ih, List.length_replicate, Nat.pow_succ]; have := Nat.two_pow_pos k; omega
theorem rsz_big {a : List UInt8} {n : Nat} (ha : a.length = n) (h2 : n ≤ 30) : rszL 64 true a = List.replicate (64 - n) (a.headD 0) ++ a := by
  unfold rszL
  rw [ha, show n - 64 = 0 by omega, List.drop_zero, if_pos rfl]
theorem rsz_back {a : List UInt8} {n : Nat} (ha : a.length = n) (h1 : 1 ≤ n) (h2 : n ≤ 30) : rszL n false (rszL 64 true a) = a := by
  rw [rsz_big ha h2]
  unfold rszL
  rw [List.length_append, List.length_replicate, ha, show n - (64 - n + n) = 0 by omega, List.replicate_zero, List.nil_append, show 64 - n + n - n = 64 - n by omega]
  rw [List.drop_left' (by simp)]
theorem int_big {a : List UInt8} {n : Nat} (ka : a.all Vb.knB = true) (ha : a.length = n) (h1 : 1 ≤ n) (h2 : n ≤ 30) : intL true (rszL 64 true a) = sI a := by
  have hl := Vb.num_lt a
  have hp : 2 ^ a.length ≤ 2 ^ 30 := Nat.pow_le_pow_right (by decide) (by omega)
  rw [rsz_big ha h2, intL_64 (by simp; omega), Vb.num_append, ha]
  cases a with
  | nil => simp at ha; omega
  | cons c t =>
    rcases known_top (List.all_eq_true.1 ka c (by simp)) with rfl | rfl
    · rw [show (49 :: t : List UInt8).headD 0 = 49 from rfl, num_rep49]
      unfold sI
      rw [if_pos (show Vb.oneB ((49 :: t : List UInt8).headD 0) = true from rfl), ha]
      rw [ha] at hl hp
      have e : (2 ^ (64 - n) - 1) * 2 ^ n = 2 ^ 64 - 2 ^ n := by
        rw [Nat.sub_mul, ← Nat.pow_add, show 64 - n + n = 64 by omega, Nat.one_mul]
      rw [e]
      unfold wrap64
      omega
    · rw [show (48 :: t : List UInt8).headD 0 = 48 from rfl, num_rep48, Nat.zero_mul, Nat.zero_add, w64_in _ (by omega)]
      unfold sI
      rw [show (48 :: t : List UInt8).headD 0 = 48 from rfl, if_neg (show ¬ Vb.oneB 48 = true by decide)]; omega
theorem big_ok {a : List UInt8} {n : Nat} (ka : a.all Vb.knB = true) (ha : a.length = n) (h1 : 1 ≤ n) (h2 : n ≤ 30) : (rszL 64 true a).length = 64 ∧ (rszL 64 true a).all Vb.knB = true := by
  rw [rsz_big ha h2]
  refine ⟨by simp; omega, ?_⟩
  rw [List.all_append, ka]
  cases a with
  | nil => simp at ha; omega
  | cons c t =>
    have hc := List.all_eq_true.1 ka c (by simp)
    simp [List.all_replicate, hc]
theorem partL_is (l : List UInt8) (lo : Nat) : ∀ (j : Nat), lo + j ≤ l.length → partL l lo j = (l.drop (l.length - lo - j)).take j
  | 0, _ => by simp [partL]
  | j + 1, h => by
    have ih := partL_is l lo j (by omega)
    rw [partL, ih]
    unfold atI Vb.rat
    rw [if_pos (by omega), show ((lo : Int) + (j : Int)).toNat = lo + j by omega, List.getElem?_reverse (by omega)]
    rw [show l.length - 1 - (lo + j) = l.length - lo - (j + 1) by omega, List.getElem?_eq_getElem (by omega)]
    rw [show l.length - lo - j = l.length - lo - (j + 1) + 1 by omega]
    conv => rhs; rw [List.drop_eq_getElem_cons (by omega : l.length - lo - (j + 1) < l.length)]
    rfl
theorem parts_join {l : List UInt8} {n k : Nat} (hl : l.length = n) (hk : k ≤ n) : partL l k (n - k) ++ partL l (0 : Nat) k = l := by
  rw [partL_is _ _ _ (by omega), partL_is _ _ _ (by omega), hl, show n - k - (n - k) = 0 by omega, List.drop_zero, show n - 0 - k = n - k by omega]
  rw [List.take_of_length_le (l := l.drop (n - k)) (by simp; omega), List.take_append_drop]
theorem knV {l : List UInt8} (h : l.all Vb.knB = true) : l.all Vb.isV = true := by
  rw [List.all_eq_true] at h ⊢
  intro c hc
  have := h c hc
  unfold Vb.knB at this; unfold Vb.isV
  simp at this ⊢; rcases this with e | e <;> simp [e]
theorem part_ok {l : List UInt8} {lo j : Nat} (hk : l.all Vb.isV = true) (h : lo + j ≤ l.length) (h1 : 1 ≤ j) (h2 : j ≤ 64) : Vb.okV (L (S (partL l lo j))) = true := by
  unfold Vb.okV
  rw [L_S, partL_len, decide_eq_true h1, decide_eq_true h2, partL_is _ _ _ h]
  simp only [Bool.true_and]
  rw [List.all_eq_true] at hk ⊢
  intro c hc
  exact hk c (List.mem_of_mem_drop (List.mem_of_mem_take hc))
/-- What is cut in two parts and joined. -/
theorem join_two {l : List UInt8} {n k : Nat} (hl : l.length = n) (hv : l.all Vb.isV = true) (h1 : 1 ≤ k) (hk : k < n) (h2 : n ≤ 64) : joinL [] [S (partL l k (n - k)), S (partL l (0 : Nat) k)] = l := by
  have e1 : (S (partL l k (n - k))).size = n - k := by rw [S_size, partL_len]
  have e2 : (S (partL l (0 : Nat) k)).size = k := by rw [S_size, partL_len]
  rw [joinL, part_ok hv (by omega) (by omega) (by omega), e1, Bool.true_and, if_pos (by simp; omega), joinL, part_ok hv (by omega) (by omega) (by omega), e2, L_S, Bool.true_and, if_pos (by simp [partL_len]; omega), joinL, L_S, List.nil_append, parts_join hl (by omega)]
end Go.Proofs.Ytmbllgblbdfobaa
