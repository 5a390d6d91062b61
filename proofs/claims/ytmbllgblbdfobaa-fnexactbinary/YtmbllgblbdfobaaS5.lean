/- What the specification's Part answers. -/
import Derived.Test.YtmbllgblbdfobaaRsz
namespace Go.Proofs.Ytmbllgblbdfobaa
open Go.RowKit
/-- The letter at place i from the right, x where there is none. -/
def atI (l : List UInt8) (i : Int) : UInt8 := if 0 ≤ i then (Vb.rat l i.toNat).getD 120 else 120
/-- j letters from place lo on. -/
def partL (l : List UInt8) (lo : Int) : Nat → List UInt8
  | 0 => []
  | j + 1 => atI l (lo + j) :: partL l lo j
theorem partL_len (l : List UInt8) (lo : Int) (j : Nat) : (partL l lo j).length = j := by
  induction j with
  | zero => rfl
  | succ j ih => simp [partL, ih]
theorem atI_in (s : ByteArray) (i : Nat) (h : i < s.size) : S [atI (L s) i] = s.extract (s.size - 1 - i) (s.size - i) := by
  apply L_inj
  rw [L_extract, L_S]
  unfold atI Vb.rat
  rw [if_pos (by omega), Int.toNat_natCast, List.getElem?_reverse (by rw [L_len]; exact h), L_len, show s.size - i - (s.size - 1 - i) = 1 by omega]
  have h' : s.size - 1 - i < (L s).length := by rw [L_len]; omega
  rw [List.getElem?_eq_getElem h', List.drop_eq_getElem_cons h']
  rfl
theorem S_app (c : UInt8) (l : List UInt8) : S [c] ++ S l = S (c :: l) := S_cons c l
set_option maxHeartbeats 400000 in
theorem sPart (s : ByteArray) (hi lo : Int) (w : World) (hs : s.size ≤ maxLen) (hv : Vb.okV (L s) = true) (hn1 : lo ≤ hi) (b1 : -9223372036854775808 ≤ lo) (b2 : hi ≤ 9223372036854775807) :
    Calls Try.prog 39 #[.string s, .int .i64 hi, .int .i64 lo] w fun e w' => e = .returned (.string (S (if hi - lo < 64 then partL (L s) lo ((hi - lo).toNat + 1) else []))) ∧ w' = w := by
  obtain ⟨h1, h2, h3⟩ := (okV_iff s).1 hv
  have c1 : decide (hi < lo) = false := by simp; omega
  generalize hR : S (if hi - lo < 64 then partL (L s) lo ((hi - lo).toNat + 1) else []) = R
  have HR := hide hR
  clear hR
  go_enter Try.func39, Try.ntmps39
  have HV := hide hv
  clear hv h3
  go_wp2_with (first | (go_at_call 35; refine (sBitsOK s _ hs).mono ?_; rw [unhide HV]; rintro e w' ⟨rfl, rfl⟩))
  go_loop [7, 8] (fun o i => ∃ j : Nat, j ≤ 64 ∧ lo + j ≤ hi ∧ i = .int .i64 (lo + j) ∧ o = .string (S (partL (L s) lo j))) (fun _ i => 65 - (intOf i - lo).toNat)
  case atStart => exact ⟨0, by omega, by omega, by simp, rfl⟩
  case round =>
    obtain ⟨j, hj, hle, rfl, rfl⟩ := hrel
    have hz : (S (partL (L s) lo j)).size = j := by rw [S_size, partL_len]
    by_cases e64 : j = 64
    · subst e64
      have hr : S [] = R := by rw [← unhide HR, if_neg (by omega)]
      have HQ := hide hr
      clear hr
      generalize S (partL (L s) lo 64) = T at *
      go_wp2
      go_ret
      exact ⟨ret_str (unhide HQ), rfl⟩
    · have n64 : ((j : Int) == 64) = false := by simp; omega
      have st : S (partL (L s) lo (j + 1)) = S [atI (L s) (lo + j)] ++ S (partL (L s) lo j) := (S_app _ _).symm
      have hz2 : (S (partL (L s) lo (j + 1))).size = j + 1 := by rw [S_size, partL_len]
      have hx : S [atI (L s) (lo + j)] = if 0 ≤ lo + j ∧ lo + j < s.size then s.extract (s.size - 1 - (lo + j).toNat) (s.size - (lo + j).toNat) else ⟨#[120]⟩ := by
        by_cases hin : 0 ≤ lo + j ∧ lo + j < s.size
        · rw [if_pos hin]
          obtain ⟨m, hm⟩ := Int.eq_ofNat_of_zero_le hin.1
          rw [hm, Int.toNat_natCast]
          exact atI_in s m (by omega)
        · rw [if_neg hin]
          unfold atI
          by_cases h0 : 0 ≤ lo + j
          · rw [if_pos h0, Vb.rat_none (by rw [L_len]; omega)]; rfl
          · rw [if_neg h0]; rfl
      have hr : lo + j = hi → S (partL (L s) lo (j + 1)) = R := by
        intro e
        rw [← unhide HR, if_pos (by omega), show (hi - lo).toNat = j by omega]
      have HQ := hide hr
      have ST := hide st
      clear hr st
      have hI2 : (lo + j - lo).toNat = j := by omega
      have hI3 : (lo + j + 1 - lo).toNat = j + 1 := by omega
      generalize hT : S (partL (L s) lo j) = T at *
      generalize hA : S [atI (L s) (lo + j)] = A at *
      generalize hI : lo + (j : Int) = I at *
      have HI := hide hI
      have HA := hide hA
      have HT := hide hT
      clear hI hA hT hz2
      by_cases hin : 0 ≤ I ∧ I < s.size
      · rw [if_pos hin] at hx
        obtain ⟨g1, g2⟩ := hin
        obtain ⟨m, rfl⟩ := Int.eq_ofNat_of_zero_le g1
        rw [Int.toNat_natCast] at hx
        have HX := hide hx
        clear hx
        by_cases hlast : (m : Int) = hi
        · subst hlast
          go_wp2
          go_ret
          exact ⟨ret_str (by rw [← unhide HX, ← unhide ST]; exact unhide HQ (by first | rfl | trivial)), rfl⟩
        · have hne : ((m : Int) == hi) = false := by simpa using hlast
          go_wp2
          exact ⟨⟨j + 1, by omega, by have := unhide HI; omega, congrArg (Value.int .i64) (by have := unhide HI; omega), congrArg Value.string (by rw [unhide ST, unhide HX])⟩, by simp only [intOf]; omega⟩
      · rw [if_neg hin] at hx
        have HX := hide hx
        clear hx
        have hd : (decide (0 ≤ I) && decide (I < (s.size : Int))) = false := by simp; omega
        by_cases hlast : I = hi
        · subst hlast
          go_wp2
          all_goals
            go_ret
            exact ⟨ret_str (by rw [← unhide HX, ← unhide ST]; exact unhide HQ (by first | rfl | trivial)), rfl⟩
        · have hne : (I == hi) = false := by simpa using hlast
          go_wp2
          all_goals exact ⟨⟨j + 1, by omega, by have := unhide HI; omega, congrArg (Value.int .i64) (by have := unhide HI; omega), congrArg Value.string (by rw [unhide ST, unhide HX])⟩, by simp only [intOf]; omega⟩
set_option maxHeartbeats 400000 in
theorem sPart_no (s : ByteArray) (hi lo : Int) (w : World) (hs : s.size ≤ maxLen) (h : (Vb.okV (L s) && decide (lo ≤ hi)) = false) :
    Calls Try.prog 39 #[.string s, .int .i64 hi, .int .i64 lo] w fun e w' => e = .returned (.string (S [])) ∧ w' = w := by
  cases hv : Vb.okV (L s)
  · have HV := hide hv
    clear hv h
    go_enter Try.func39, Try.ntmps39
    go_wp2_with (first | (go_at_call 35; refine (sBitsOK s _ hs).mono ?_; rw [unhide HV]; rintro e w' ⟨rfl, rfl⟩))
    go_ret
    exact ⟨rfl, rfl⟩
  · rw [hv, Bool.true_and] at h
    have HV := hide hv
    clear hv
    have h' : hi < lo := by simpa using h
    clear h
    go_enter Try.func39, Try.ntmps39
    go_wp2_with (first | (go_at_call 35; refine (sBitsOK s _ hs).mono ?_; rw [unhide HV]; rintro e w' ⟨rfl, rfl⟩))
    go_ret
    exact ⟨rfl, rfl⟩
end Go.Proofs.Ytmbllgblbdfobaa
