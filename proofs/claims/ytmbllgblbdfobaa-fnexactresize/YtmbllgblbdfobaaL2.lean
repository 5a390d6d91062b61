/- The law FnExactBitsOf's walk: the program's BitsOf answers as the specification's. -/
import Derived.Test.YtmbllgblbdfobaaS2
import Derived.Test.YtmbllgblbdfobaaI3
import Derived.Test.YtmbllgblbdfobaaIT
namespace Go.Proofs.Ytmbllgblbdfobaa
open Go.RowKit
set_option maxHeartbeats 400000 in
theorem iWidthOK (n : Int) (w : World) :
    Calls Try.prog 56 #[.int .i64 n] w fun e w' => e = .returned (.bool (decide (1 ≤ n ∧ n ≤ 64))) ∧ w' = w := by
  by_cases h1 : 1 ≤ n
  · by_cases h2 : n ≤ 64
    · go_enter Try.func56, Try.ntmps56
      go_wp2
      go_ret
      exact ⟨ret_bool (by simp [h1, h2]), rfl⟩
    · go_enter Try.func56, Try.ntmps56
      go_wp2
      go_ret
      exact ⟨ret_bool (by simp [h2]), rfl⟩
  · go_enter Try.func56, Try.ntmps56
    go_wp2
    go_ret
    exact ⟨ret_bool (by simp; omega), rfl⟩
set_option maxHeartbeats 400000 in
theorem iBitsOf_no (v n : Int) (w : World) (h : n < 1 ∨ 64 < n) :
    Calls Try.prog 37 #[.int .i64 v, .int .i64 n] w fun e w' => e = .returned (.string (S [])) ∧ w' = w := by
  have hd : decide (1 ≤ n ∧ n ≤ 64) = false := by simp; omega
  go_enter Try.func37, Try.ntmps37
  go_wp2_with fail
  refine (iWidthOK _ _).mono ?_
  rw [hd]
  rintro e w' ⟨rfl, rfl⟩
  go_wp2
  go_ret
  exact ⟨rfl, rfl⟩
set_option maxHeartbeats 400000 in
theorem iBitsOf (v : Int) (n : Nat) (w : World) (h1 : 1 ≤ n) (h2 : n ≤ 64) :
    Calls Try.prog 37 #[.int .i64 v, .int .i64 n] w fun e w' => e = .returned (.string (S (Vb.nTxt n (v % 18446744073709551616).toNat))) ∧ Below w.heap.size w w' := by
  have hd : decide ((1 : Int) ≤ n ∧ (n : Int) ≤ 64) = true := by simp; omega
  go_enter Try.func37, Try.ntmps37
  go_wp2_with fail
  refine (iWidthOK _ _).mono ?_
  rw [hd]
  rintro e w' ⟨rfl, rfl⟩
  go_wp2_with fail
  rw [U_wrap]
  refine (iNumber n _ h2 _).mono ?_
  rintro e w1 ⟨rfl, hb⟩
  unfold V
  go_wp2_with fail
  refine (iText n _ _ h2 _).mono ?_
  rintro e w2 ⟨rfl, hb2⟩
  rw [Vb.num_txt n _ h2, BitVec.toNat_ofInt]
  go_wp2
  go_ret
  exact ⟨rfl, btr hb hb2⟩
set_option maxHeartbeats 400000 in
theorem lBitsOf (v n : Int) (w : World) (_hv : (Lit.int .i64 v).wf = true) (_hn : (Lit.int .i64 n).wf = true) :
    Calls Try.prog 7 #[.int .i64 v, .int .i64 n] w fun e w' => e = .returned (.bool true) ∧ Below w.heap.size w w' := by
  by_cases h : 1 ≤ n ∧ n ≤ 64
  · obtain ⟨m, rfl⟩ := Int.eq_ofNat_of_zero_le (show 0 ≤ n by omega)
    go_enter Try.func7, Try.ntmps7
    go_wp2_with fail
    refine (sBitsOf v m _ (by omega) (by omega)).mono ?_
    rintro e w' ⟨rfl, rfl⟩
    go_wp2_with fail
    refine (iBitsOf v m _ (by omega) (by omega)).mono ?_
    rintro e w' ⟨rfl, hb⟩
    go_wp2
    go_ret
    exact ⟨rfl, hb⟩
  · go_enter Try.func7, Try.ntmps7
    go_wp2_with fail
    refine (sBitsOf_no v n _ (by omega)).mono ?_
    rintro e w' ⟨rfl, rfl⟩
    go_wp2_with fail
    refine (iBitsOf_no v n _ (by omega)).mono ?_
    rintro e w' ⟨rfl, rfl⟩
    go_wp2
    go_ret
    exact ⟨rfl, brf _⟩
end Go.Proofs.Ytmbllgblbdfobaa
