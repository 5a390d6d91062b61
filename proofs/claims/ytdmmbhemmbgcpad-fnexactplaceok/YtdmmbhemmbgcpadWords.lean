/- Plain facts: the operations on uint64, as the walk writes them, over words of 64 bits. -/
import Derived.WalkKit
import Derived.Laws.BitsAllLaws
namespace Go.Proofs.Ytdmmbhemmbgcpad
open Go

/-- A word of 64 bits as the number that the walk holds. -/
def U (x : BitVec 64) : Int := (x.toNat : Int)
theorem U_nonneg (x : BitVec 64) : 0 ≤ U x := by unfold U; omega
theorem U_lt (x : BitVec 64) : U x < 18446744073709551616 := by unfold U; have := x.isLt; omega
theorem U_toNat (x : BitVec 64) : (U x).toNat = x.toNat := by unfold U; omega
theorem U_inj {x y : BitVec 64} : (U x = U y) ↔ x = y := by
  unfold U; constructor
  · intro h; exact BitVec.eq_of_toNat_eq (by omega)
  · intro h; rw [h]
theorem U_beq (x y : BitVec 64) : (U x == U y) = (x == y) := by
  rw [Bool.eq_iff_iff]; simp [U_inj]
theorem U_bne (x y : BitVec 64) : (U x != U y) = (x != y) := by
  simp [bne, U_beq]
theorem U_ofNat (n : Nat) : U (BitVec.ofNat 64 n) = ((n % 18446744073709551616 : Nat) : Int) := by
  unfold U; rw [BitVec.toNat_ofNat]
theorem U_and (x y : BitVec 64) : bits .and .u64 (U x) (U y) = U (x &&& y) := by
  unfold U; rw [u64_and_nat _ _ (by have := x.isLt; omega) (by have := y.isLt; omega), BitVec.toNat_and]
theorem U_or (x y : BitVec 64) : bits .or .u64 (U x) (U y) = U (x ||| y) := by
  unfold U; rw [u64_or_nat _ _ (by have := x.isLt; omega) (by have := y.isLt; omega), BitVec.toNat_or]
theorem U_xor (x y : BitVec 64) : bits .xor .u64 (U x) (U y) = U (x ^^^ y) := by
  unfold U; rw [u64_xor_nat _ _ (by have := x.isLt; omega) (by have := y.isLt; omega), BitVec.toNat_xor]
theorem U_andNot (x y : BitVec 64) : bits .andNot .u64 (U x) (U y) = U (x &&& ~~~y) := by
  unfold U; rw [u64_andNot_nat _ _ (by have := x.isLt; omega) (by have := y.isLt; omega), BitVec.toNat_and, BitVec.toNat_not]
theorem U_wrap (n : Int) : IntKind.u64.wrap n = U (BitVec.ofInt 64 n) := by
  unfold U; rw [IntKind.wrap_u64, BitVec.toNat_ofInt]; omega
theorem U_shl (x : BitVec 64) (n : Nat) : IntKind.u64.wrap (U x * 2 ^ min n 64) = U (x <<< n) := by
  rw [IntKind.wrap_u64]; unfold U
  rw [BitVec.toNat_shiftLeft, Nat.shiftLeft_eq]
  by_cases h : n ≤ 64
  · rw [Nat.min_eq_left h, show (2 ^ 64 : Nat) = 18446744073709551616 from rfl, Int.natCast_emod, Int.natCast_mul, Int.natCast_pow]; rfl
  · rw [Nat.min_eq_right (by omega)]
    have e : x.toNat * 2 ^ n % 2 ^ 64 = 0 := by
      have : 2 ^ n = 2 ^ 64 * 2 ^ (n - 64) := by rw [← Nat.pow_add]; congr 1; omega
      rw [this, ← Nat.mul_assoc, Nat.mul_right_comm]; exact Nat.mul_mod_left _ _
    rw [e]; omega
theorem U_shr (x : BitVec 64) (n : Nat) : U x / 2 ^ min n 64 = U (x >>> n) := by
  unfold U
  rw [BitVec.toNat_ushiftRight, Nat.shiftRight_eq_div_pow]
  by_cases h : n ≤ 64
  · rw [Nat.min_eq_left h, Int.natCast_ediv, Int.natCast_pow]; rfl
  · rw [Nat.min_eq_right (by omega)]
    have e : x.toNat / 2 ^ n = 0 := by
      apply Nat.div_eq_of_lt
      exact Nat.lt_of_lt_of_le x.isLt (Nat.pow_le_pow_right (by omega) (by omega))
    rw [e]; have := x.isLt; omega
theorem U_shl1 (x : BitVec 64) : IntKind.u64.wrap (U x * 2) = U (x <<< 1) := U_shl x 1
theorem U_or1 (x : BitVec 64) : bits .or .u64 (U x) 1 = U (x ||| 1#64) := U_or x 1#64
theorem U_and1 (x : BitVec 64) : bits .and .u64 (U x) 1 = U (x &&& 1#64) := U_and x 1#64
theorem U_0 : (0 : Int) = U 0#64 := rfl
theorem U_1 : (1 : Int) = U 1#64 := rfl
theorem U_low (c : Nat) : IntKind.u64.wrap (IntKind.u64.wrap (2 ^ min c 64) - 1) = U (BitVec.ofNat 64 (2 ^ c - 1)) := by
  rw [IntKind.wrap_u64, IntKind.wrap_u64]; unfold U
  rw [BitVec.toNat_ofNat]
  by_cases h : c < 64
  · rw [Nat.min_eq_left (by omega)]
    have h1 : 2 ^ c < 2 ^ 64 := Nat.pow_lt_pow_right (by omega) h
    have h2 : 0 < 2 ^ c := Nat.two_pow_pos c
    have e : ((2 : Int) ^ c) = ((2 ^ c : Nat) : Int) := by rw [Int.natCast_pow]; rfl
    rw [e]; omega
  · rw [Nat.min_eq_right (by omega)]
    have e : 2 ^ c = 2 ^ 64 * 2 ^ (c - 64) := by rw [← Nat.pow_add]; congr 1; omega
    have h2 : 0 < 2 ^ (c - 64) := Nat.two_pow_pos _
    rw [e]; omega
end Go.Proofs.Ytdmmbhemmbgcpad
