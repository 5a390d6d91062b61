/- The law FnExactBitsOf's walk: the program's BitsOf answers as the specification's. -/
import Derived.Test.YtdgiidlaafbgcabGreatDoorS2
import Derived.Test.YtdgiidlaafbgcabGreatDoorI3
import Derived.Test.YtdgiidlaafbgcabGreatDoorIT
namespace Go.Proofs.YtdgiidlaafbgcabGreatDoor
open Go.RowKit
set_option maxHeartbeats 400000 in
theorem iWidthOK (n : Int) (w : World) :
    Calls Tryz.prog 36 #[.int .i64 n] w fun e w' => e = .returned (.bool (decide (1 ≤ n ∧ n ≤ 64))) ∧ w' = w := by
  by_cases h1 : 1 ≤ n
  · by_cases h2 : n ≤ 64
    · go_enter Tryz.func36, Tryz.ntmps36
      go_wp2
      go_ret
      exact ⟨ret_bool (by simp [h1, h2]), rfl⟩
    · go_enter Tryz.func36, Tryz.ntmps36
      go_wp2
      go_ret
      exact ⟨ret_bool (by simp [h2]), rfl⟩
  · go_enter Tryz.func36, Tryz.ntmps36
    go_wp2
    go_ret
    exact ⟨ret_bool (by simp; omega), rfl⟩
set_option maxHeartbeats 400000 in
theorem iBitsOf_no (v n : Int) (w : World) (h : n < 1 ∨ 64 < n) :
    Calls Tryz.prog 25 #[.int .i64 v, .int .i64 n] w fun e w' => e = .returned (.string (S [])) ∧ w' = w := by
  have hd : decide (1 ≤ n ∧ n ≤ 64) = false := by simp; omega
  go_enter Tryz.func25, Tryz.ntmps25
  go_wp2_with fail
  refine (iWidthOK _ _).mono ?_
  rw [hd]
  rintro e w' ⟨rfl, rfl⟩
  go_wp2
  go_ret
  exact ⟨rfl, rfl⟩
set_option maxHeartbeats 400000 in
theorem iBitsOf (v : Int) (n : Nat) (w : World) (h1 : 1 ≤ n) (h2 : n ≤ 64) :
    Calls Tryz.prog 25 #[.int .i64 v, .int .i64 n] w fun e w' => e = .returned (.string (S (Vb.nTxt n (v % 18446744073709551616).toNat))) ∧ Below w.heap.size w w' := by
  have hd : decide ((1 : Int) ≤ n ∧ (n : Int) ≤ 64) = true := by simp; omega
  go_enter Tryz.func25, Tryz.ntmps25
  go_wp2_with fail
  refine (iWidthOK _ _).mono ?_
  rw [hd]
  rintro e w' ⟨rfl, rfl⟩
  go_wp2_with fail
  rw [U_wrap]
  refine (iNumber n _ h2 _).mono ?_
  rintro e w1 ⟨rfl, hb⟩
  unfold V
  go_wp2_with fail
  refine (iText n _ _ h2 _).mono ?_
  rintro e w2 ⟨rfl, hb2⟩
  rw [Vb.num_txt n _ h2, BitVec.toNat_ofInt]
  go_wp2
  go_ret
  exact ⟨rfl, btr hb hb2⟩
end Go.Proofs.YtdgiidlaafbgcabGreatDoor
