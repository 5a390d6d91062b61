/- What the specification's BitsOf answers: the text of the number's lowest bits. -/
import Derived.Test.YtdgiidlaafbgcabGreatDoorS1
namespace Go.Proofs.YtdgiidlaafbgcabGreatDoor
open Go.RowKit
theorem S_cons (c : UInt8) (l : List UInt8) : (⟨#[c]⟩ : ByteArray) ++ S l = S (c :: l) := by
  apply L_inj
  rw [L_S]
  simp [L, S]
theorem and_one_i64 (x : Int) : bits .and .i64 x 1 = x % 2 := by
  show IntKind.i64.wrap ((BitVec.ofInt 64 x &&& BitVec.ofInt 64 1).toNat : Int) = _
  have e : (BitVec.ofInt 64 x &&& BitVec.ofInt 64 1).toNat = (x % 2).toNat := by
    rw [BitVec.toNat_and, show (BitVec.ofInt 64 1).toNat = 1 from rfl, Nat.and_one_is_mod, BitVec.toNat_ofInt]
    omega
  rw [e]
  have h : x % 2 = 0 ∨ x % 2 = 1 := by omega
  rcases h with h | h <;> rw [h] <;> rfl
theorem low_bit (v : Int) (j : Nat) (hj : j < 64) : (v / 2 ^ j % 2 == 1) = (v % 18446744073709551616).toNat.testBit j := by
  rw [Nat.testBit_eq_decide_div_mod_eq]
  have hr : 0 ≤ v % 18446744073709551616 := by omega
  obtain ⟨r, hr'⟩ := Int.eq_ofNat_of_zero_le hr
  have hv : v = r + 2 ^ j * (2 ^ (64 - j) * (v / 18446744073709551616)) := by
    have e : (2 : Int) ^ j * 2 ^ (64 - j) = 18446744073709551616 := by
      rw [← Int.pow_add, show j + (64 - j) = 64 by omega]; rfl
    rw [← Int.mul_assoc, e]; omega
  have hd : v / 2 ^ j = (r : Int) / 2 ^ j + 2 ^ (64 - j) * (v / 18446744073709551616) := by
    have h0 : (2 : Int) ^ j ≠ 0 := Int.pow_ne_zero (by omega)
    have := Int.add_mul_ediv_left (r : Int) (2 ^ (64 - j) * (v / 18446744073709551616)) h0
    rw [← hv] at this; exact this
  have h2 : (2 : Int) ^ (64 - j) = 2 * 2 ^ (63 - j) := by
    rw [show 64 - j = (63 - j) + 1 by omega, Int.pow_succ, Int.mul_comm]
  have hc : (r : Int) / 2 ^ j = ((r / 2 ^ j : Nat) : Int) := by rw [Int.natCast_ediv, Int.natCast_pow]; rfl
  rw [hr', Int.toNat_natCast, hd, h2, Int.mul_assoc, hc, Bool.eq_iff_iff]
  simp only [beq_iff_eq, decide_eq_true_eq]
  omega
set_option maxHeartbeats 400000 in
theorem sBitsOf (v : Int) (n : Nat) (w : World) (h1 : 1 ≤ n) (h2 : n ≤ 64) :
    Calls Tryz.prog 8 #[.int .i64 v, .int .i64 n] w fun e w' => e = .returned (.string (S (Vb.nTxt n (v % 18446744073709551616).toNat))) ∧ w' = w := by
  have c1 : decide ((n : Int) < 1) = false := by simp; omega
  have c2 : decide (64 < (n : Int)) = false := by simp; omega
  go_enter Tryz.func8, Tryz.ntmps8
  go_wp2
  go_loop [0, 5, 6] (fun x o i => ∃ j : Nat, j ≤ n ∧ i = .int .i64 j ∧ x = .int .i64 (v / 2 ^ j) ∧ o = .string (S (Vb.nTxt j (v % 18446744073709551616).toNat))) (fun _ _ i => n - (intOf i).toNat)
  case atStart => exact ⟨0, Nat.zero_le _, rfl, by simp, rfl⟩
  case round =>
    obtain ⟨j, hj, rfl, rfl, rfl⟩ := hrel
    by_cases hlt : j < n
    · have hs : ¬ 9223372036854775807 < 1 + (S (Vb.nTxt j (v % 18446744073709551616).toNat)).size := by rw [S_size, Vb.nTxt_len]; omega
      have hx : v / 2 ^ j / 2 = v / 2 ^ (j + 1) := by rw [Int.pow_succ, Int.ediv_ediv_of_nonneg (by exact Int.le_of_lt (Int.pow_pos (by omega)))]
      have hbit := low_bit v j (by omega)
      rw [← and_one_i64] at hbit
      have hn : Vb.nTxt (j + 1) (v % 18446744073709551616).toNat = (if (v % 18446744073709551616).toNat.testBit j then 49 else 48) :: Vb.nTxt j (v % 18446744073709551616).toNat := rfl
      have HX := hide hx
      have HN := hide hn
      clear hx hn
      generalize v / 2 ^ j = X at *
      generalize Vb.nTxt j (v % 18446744073709551616).toNat = T at *
      cases ht : (v % 18446744073709551616).toNat.testBit j
      · rw [ht] at hbit HN
        clear ht
        go_wp2
        go_round
        case rel => exact ⟨j + 1, by omega, by go_num, by rw [← unhide HX], by rw [unhide HN]; exact congrArg Value.string (S_cons _ _)⟩
        case measure => simp [intOf]; omega
      · rw [ht] at hbit HN
        clear ht
        go_wp2
        go_round
        case rel => exact ⟨j + 1, by omega, by go_num, by rw [← unhide HX], by rw [unhide HN]; exact congrArg Value.string (S_cons _ _)⟩
        case measure => simp [intOf]; omega
    · go_wp2
      go_ret
      have : j = n := by omega
      subst this
      exact ⟨rfl, rfl⟩
set_option maxHeartbeats 400000 in
theorem sBitsOf_no (v : Int) (n : Int) (w : World) (h : n < 1 ∨ 64 < n) :
    Calls Tryz.prog 8 #[.int .i64 v, .int .i64 n] w fun e w' => e = .returned (.string (S [])) ∧ w' = w := by
  rcases h with h | h
  · go_enter Tryz.func8, Tryz.ntmps8
    go_wp2
    go_ret
    exact ⟨rfl, rfl⟩
  · have h' : ¬ n < 1 := by omega
    go_enter Tryz.func8, Tryz.ntmps8
    go_wp2
    go_ret
    exact ⟨rfl, rfl⟩
end Go.Proofs.YtdgiidlaafbgcabGreatDoor
