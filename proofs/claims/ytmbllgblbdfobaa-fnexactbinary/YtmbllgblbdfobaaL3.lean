/- The law FnExactIntOf's walk: the program's IntOf answers as the specification's. -/
import Derived.Test.YtmbllgblbdfobaaS3
import Derived.Test.YtmbllgblbdfobaaI3
namespace Go.Proofs.Ytmbllgblbdfobaa
open Go.RowKit
theorem w64_in (n : Int) (h : -9223372036854775808 ≤ n ∧ n ≤ 9223372036854775807) : wrap64 n = n := by unfold wrap64; omega
theorem head_ge {l : List UInt8} (h : Vb.oneB (l.headD 0) = true) : 2 ^ (l.length - 1) ≤ Vb.num l := by
  cases l with
  | nil => cases h
  | cons c t =>
    rw [Vb.num_cons, show Vb.oneB c = true from h, List.length_cons, Nat.add_sub_cancel]; simp
theorem head_lt {l : List UInt8} (h : Vb.oneB (l.headD 0) = false) : Vb.num l < 2 ^ (l.length - 1) := by
  cases l with
  | nil => simp [Vb.num]
  | cons c t =>
    rw [Vb.num_cons, show Vb.oneB c = false from h, List.length_cons, Nat.add_sub_cancel]; simpa using Vb.num_lt t
theorem sgn_num {l : List UInt8} (hk : l.all Vb.knB = true) (h1 : 1 ≤ l.length) (h2 : l.length ≤ 64) : sgn l.length (Vb.wh l) = intL true l := by
  have hm := Vb.num_lt l
  have hw := Vb.wh_toNat hk h2
  have e0 : (2 : Nat) ^ l.length = 2 * 2 ^ (l.length - 1) := by
    rw [show l.length = (l.length - 1) + 1 by omega, Nat.pow_succ, Nat.mul_comm]; simp
  have e1 : (2 : Nat) ^ 64 = 2 ^ l.length * 2 ^ (64 - l.length) := by rw [← Nat.pow_add]; congr 1; omega
  have hU : U (Vb.wh l <<< (64 - l.length)) = (Vb.num l : Int) * 2 ^ (64 - l.length) := by
    unfold U
    rw [BitVec.toNat_shiftLeft, hw, Nat.shiftLeft_eq, Nat.mod_eq_of_lt]
    · rw [Int.natCast_mul, Int.natCast_pow]; rfl
    · rw [e1]; exact Nat.mul_lt_mul_of_pos_right hm (Nat.two_pow_pos _)
  have hpos : 0 < (2 : Int) ^ (64 - l.length) := Int.pow_pos (by omega)
  have c2 : ((2 ^ l.length : Nat) : Int) = (2 : Int) ^ l.length := by rw [Int.natCast_pow]; rfl
  have c3 : (2 : Int) ^ l.length * 2 ^ (64 - l.length) = 18446744073709551616 := by
    rw [← Int.pow_add, show l.length + (64 - l.length) = 64 by omega]; rfl
  unfold sgn
  rw [hU]
  have hz : (0 : Int) ≤ Vb.num l := by omega
  generalize hQ : (2 : Int) ^ (64 - l.length) = Q at *
  generalize hA : (2 : Int) ^ l.length = A at *
  have hA1 : ((2 ^ (l.length - 1) : Nat) : Int) * 2 = A := by rw [← c2, e0]; omega
  have hAQ : ((2 ^ (l.length - 1) : Nat) : Int) * Q = 9223372036854775808 := by
    have : ((2 ^ (l.length - 1) : Nat) : Int) * Q * 2 = 18446744073709551616 := by rw [Int.mul_right_comm, hA1]; exact c3
    omega
  generalize hB : (2 ^ (l.length - 1) : Nat) = B at *
  cases ho : Vb.oneB (l.headD 0)
  · have hlt : Vb.num l < B := by rw [← hB]; exact head_lt ho
    rw [intL_no (by rw [ho]; rfl)]
    have h4 : (Vb.num l : Int) * Q < 9223372036854775808 := by
      rw [← hAQ]; exact Int.mul_lt_mul_of_pos_right (by omega) hpos
    have h5 : 0 ≤ (Vb.num l : Int) * Q := Int.mul_nonneg hz (by omega)
    have h6 : (Vb.num l : Int) ≤ (Vb.num l : Int) * Q := by
      have := Int.mul_le_mul_of_nonneg_left (show (1 : Int) ≤ Q by omega) hz
      omega
    rw [w64_in _ (by omega), w64_in _ (by omega), Int.mul_ediv_cancel _ (by omega)]
  · have hge : B ≤ Vb.num l := by rw [← hB]; exact head_ge ho
    rw [intL_yes ho, hA]
    have h4 : 9223372036854775808 ≤ (Vb.num l : Int) * Q := by
      rw [← hAQ]; exact Int.mul_le_mul_of_nonneg_right (by omega) (by omega)
    have h5 : (Vb.num l : Int) * Q < 18446744073709551616 := by
      rw [← c3]; exact Int.mul_lt_mul_of_pos_right (by omega) hpos
    have h7 : wrap64 ((Vb.num l : Int) * Q) = ((Vb.num l : Int) - A) * Q := by
      rw [Int.sub_mul, c3]; unfold wrap64; omega
    have h8 : (B : Int) ≤ (B : Int) * Q := by
      have := Int.mul_le_mul_of_nonneg_left (show (1 : Int) ≤ Q by omega) (show (0 : Int) ≤ B by omega)
      omega
    rw [h7, Int.mul_ediv_cancel _ (by omega), w64_in _ (by omega)]
theorem wh_int {l : List UInt8} (hk : l.all Vb.knB = true) (h2 : l.length ≤ 64) : wrap64 (U (Vb.wh l)) = intL false l := by
  rw [intL_no rfl]; unfold U; rw [Vb.wh_toNat hk h2]
set_option maxHeartbeats 400000 in
theorem iIntOf (s : ByteArray) (b : Bool) (w : World) (hs : s.size ≤ maxLen) (hv : Vb.okV (L s) = true) (hk : (L s).all Vb.knB = true) :
    Calls Try.prog 18 #[.string s, .bool b] w fun e w' => e = .returned (.tuple #[.int .i64 (intL b (L s)), .bool true]) ∧ Below w.heap.size w w' := by
  obtain ⟨h1, h2, h3⟩ := (okV_iff s).1 hv
  have HV := hide hv
  have HS : Hid (sgn s.size (Vb.wh (L s)) = intL true (L s)) := by
    have := sgn_num hk (by rw [L_len]; exact h1) (by rw [L_len]; exact h2)
    rw [L_len] at this; exact this
  have HU : Hid (wrap64 (U (Vb.wh (L s))) = intL false (L s)) := wh_int hk (by rw [L_len]; exact h2)
  have HO : Hid ((Vb.kn (L s) == Vb.ones s.size) = true) := by
    have := (Vb.kn_ones (l := L s) (by rw [L_len]; exact h2)).2 hk
    rw [L_len] at this; show _ = true; rw [this]; exact beq_self_eq_true _
  clear hv hk h3
  generalize hK : Vb.kn (L s) = K at *
  generalize hH : Vb.wh (L s) = H at *
  have HK := hide hK
  have HH := hide hH
  clear hK hH
  cases b
  · go_enter Try.func18, Try.ntmps18
    go_wp2_with fail
    refine (iVecOf s _ hs (unhide HV)).mono ?_
    rintro e w1 ⟨rfl, hb⟩
    rw [unhide HK, unhide HH]
    unfold V
    go_wp2_with fail
    refine (iIsKnown _ _ _ h2 _).mono ?_
    rw [unhide HO]
    rintro e w2 ⟨rfl, hb2⟩
    obtain ⟨hc, hf⟩ := bcell hb2
    go_wp2
    go_ret2
    refine ⟨ret_2 (unhide HU), ?_⟩
    repeat first | exact brf _ | refine bdr ?_ | refine bst ?_ (by first | exact Nat.le_refl _ | (simp; done) | (simp; omega)) _ | refine btr ?_ hb2 | refine btr ?_ hb | refine bal ?_ _
  · go_enter Try.func18, Try.ntmps18
    go_wp2_with fail
    refine (iVecOf s _ hs (unhide HV)).mono ?_
    rintro e w1 ⟨rfl, hb⟩
    rw [unhide HK, unhide HH]
    unfold V
    go_wp2_with fail
    refine (iIsKnown _ _ _ h2 _).mono ?_
    rw [unhide HO]
    rintro e w2 ⟨rfl, hb2⟩
    obtain ⟨hc, hf⟩ := bcell hb2
    go_wp2_with fail
    refine (iSigned _ _ _ h2 _).mono ?_
    rintro e w3 ⟨rfl, hb3⟩
    go_wp2
    go_ret2
    refine ⟨ret_2 (unhide HS), ?_⟩
    repeat first | exact brf _ | refine bdr ?_ | refine bst ?_ (by first | exact Nat.le_refl _ | (simp; done) | (simp; omega)) _ | refine btr ?_ hb3 | refine btr ?_ hb2 | refine btr ?_ hb | refine bal ?_ _
set_option maxHeartbeats 400000 in
theorem iIntOf_no (s : ByteArray) (b : Bool) (w : World) (hs : s.size ≤ maxLen) (h : (Vb.okV (L s) && (L s).all Vb.knB) = false) :
    Calls Try.prog 18 #[.string s, .bool b] w fun e w' => e = .returned (.tuple #[.int .i64 0, .bool false]) ∧ Below w.heap.size w w' := by
  cases hv : Vb.okV (L s)
  · have HV := hide hv
    clear hv h
    go_enter Try.func18, Try.ntmps18
    go_wp2_with fail
    refine (iVecOf_no s _ hs (unhide HV)).mono ?_
    rintro e w1 ⟨rfl, hb⟩
    unfold V
    go_wp2
    go_ret2
    refine ⟨rfl, ?_⟩
    repeat first | exact brf _ | refine bdr ?_ | refine bst ?_ (by first | exact Nat.le_refl _ | (simp; done) | (simp; omega)) _ | refine btr ?_ hb | refine bal ?_ _
  · rw [hv, Bool.true_and] at h
    obtain ⟨h1, h2, h3⟩ := (okV_iff s).1 hv
    have HO : Hid ((Vb.kn (L s) == Vb.ones s.size) = false) := by
      have := Vb.kn_ones (l := L s) (by rw [L_len]; exact h2)
      rw [L_len, h] at this
      show _ = false
      rw [beq_eq_false_iff_ne]; intro e; cases this.1 e
    have HV := hide hv
    clear hv h h3
    generalize hK : Vb.kn (L s) = K at *
    generalize hH : Vb.wh (L s) = H at *
    have HK := hide hK
    have HH := hide hH
    clear hK hH
    go_enter Try.func18, Try.ntmps18
    go_wp2_with fail
    refine (iVecOf s _ hs (unhide HV)).mono ?_
    rintro e w1 ⟨rfl, hb⟩
    rw [unhide HK, unhide HH]
    unfold V
    go_wp2_with fail
    refine (iIsKnown _ _ _ h2 _).mono ?_
    rw [unhide HO]
    rintro e w2 ⟨rfl, hb2⟩
    go_wp2
    go_ret2
    refine ⟨rfl, ?_⟩
    repeat first | exact brf _ | refine bdr ?_ | refine bst ?_ (by first | exact Nat.le_refl _ | (simp; done) | (simp; omega)) _ | refine btr ?_ hb2 | refine btr ?_ hb | refine bal ?_ _
set_option maxHeartbeats 400000 in
theorem lIntOf (s : ByteArray) (b : Bool) (w : World) (hs : s.size ≤ maxLen) :
    Calls Try.prog 8 #[.string s, .bool b] w fun e w' => e = .returned (.bool true) ∧ Below w.heap.size w w' := by
  by_cases h : 1048576 < (s.size : Int)
  · go_enter Try.func8, Try.ntmps8
    go_wp2
    go_ret
    exact ⟨rfl, brf _⟩
  · cases hg : (Vb.okV (L s) && (L s).all Vb.knB)
    · have HG := hide hg
      clear hg
      go_enter Try.func8, Try.ntmps8
      go_wp2_with fail
      refine (sIntOf_no s b _ hs (unhide HG)).mono ?_
      rintro e w' ⟨rfl, rfl⟩
      go_wp2_with fail
      refine (iIntOf_no s b _ hs (unhide HG)).mono ?_
      rintro e w' ⟨rfl, hb⟩
      go_wp2
      go_ret
      exact ⟨rfl, hb⟩
    · rw [Bool.and_eq_true] at hg
      have HG := hide hg
      clear hg
      go_enter Try.func8, Try.ntmps8
      go_wp2_with fail
      refine (sIntOf s b _ hs (unhide HG).1 (unhide HG).2).mono ?_
      rintro e w' ⟨rfl, rfl⟩
      generalize hI : intL b (L s) = I
      have HI := hide hI
      clear hI
      go_wp2_with fail
      refine (iIntOf s b _ hs (unhide HG).1 (unhide HG).2).mono ?_
      rintro e w' ⟨rfl, hb⟩
      rw [unhide HI]
      go_wp2
      go_ret
      exact ⟨rfl, hb⟩
end Go.Proofs.Ytmbllgblbdfobaa
