/- Quotients as texts. -/
import Derived.Test.YtmbllgblbdfobaaBM3
namespace Go.Proofs.Ytmbllgblbdfobaa
open Go.RowKit
theorem divu_txt {a b : List UInt8} (ka : a.all Vb.knB = true) (kb : b.all Vb.knB = true) (hl : a.length = b.length) (h2 : a.length ≤ 64) :
    Vb.txt a.length (Vb.ones a.length) (Vb.wh a / Vb.wh b &&& Vb.ones a.length) = divL a.length false a b := by
  rw [Vb.num_txt _ _ h2, BitVec.toNat_udiv, Vb.wh_toNat ka h2, Vb.wh_toNat kb (by omega)]
  unfold divL absN
  rw [if_neg (by simp), if_neg (by simp), if_neg (by simp)]
theorem absN_one (t : List UInt8) : absN true (49 :: t) = 2 ^ (49 :: t).length - Vb.num (49 :: t) := by unfold absN; rw [if_pos ⟨rfl, rfl⟩]
theorem absN_zero (t : List UInt8) : absN true (48 :: t) = Vb.num (48 :: t) := by unfold absN; rw [if_neg (fun h => absurd h.2 (show ¬ (48 : UInt8) = 49 by decide))]
theorem sI_neg (t : List UInt8) : sI (49 :: t) = -((absN true (49 :: t) : Nat) : Int) := by
  have ht := Vb.num_lt t
  rw [sI_one, absN_one, pow_two, num_one]; omega
theorem sI_pos (t : List UInt8) : sI (48 :: t) = ((absN true (48 :: t) : Nat) : Int) := by rw [sI_zero, absN_zero, num_zero]
theorem ofInt_pos (n v : Nat) (h2 : n ≤ 64) : Vb.nTxt n (BitVec.ofInt 64 (v : Int)).toNat = Vb.nTxt n v := by
  apply Vb.nTxt_congr
  rw [BitVec.toNat_ofInt, show ((v : Int) % ((2 ^ 64 : Nat) : Int)).toNat = v % 2 ^ 64 by omega, Nat.mod_mod_of_dvd _ (pow_dvd64 h2)]
theorem ofInt_neg (n v : Nat) (h2 : n ≤ 64) (hv : v ≤ 2 ^ n) : Vb.nTxt n (BitVec.ofInt 64 (-(v : Int))).toNat = Vb.nTxt n (2 ^ n - v) := by
  apply Vb.nTxt_congr
  have hp : 2 ^ n ≤ 2 ^ 64 := Nat.pow_le_pow_right (by decide) h2
  have e : ((-(v : Int)) % ((2 ^ 64 : Nat) : Int)).toNat = (2 ^ 64 - v) % 2 ^ 64 := by omega
  rw [BitVec.toNat_ofInt, e, Nat.mod_mod_of_dvd _ (pow_dvd64 h2)]
  obtain ⟨c, hc⟩ := pow_dvd64 h2
  have hc0 : 0 < c := by
    rcases Nat.eq_zero_or_pos c with h | h
    · rw [h] at hc; simp at hc
    · exact h
  have e2 : 2 ^ 64 - v = (2 ^ n - v) + 2 ^ n * (c - 1) := by
    have : 2 ^ n * c = 2 ^ n * (c - 1) + 2 ^ n := by
      conv => lhs; rw [show c = (c - 1) + 1 by omega, Nat.mul_add, Nat.mul_one]
    omega
  rw [e2, Nat.add_mul_mod_self_left]
theorem divs_txt {a b : List UInt8} (ka : a.all Vb.knB = true) (kb : b.all Vb.knB = true) (hl : a.length = b.length) (h1 : 1 ≤ a.length) (h2 : a.length ≤ 64) :
    Vb.nTxt a.length (BitVec.ofInt 64 ((sI a).tdiv (sI b))).toNat = divL a.length true a b := by
  cases a with
  | nil => simp at h1
  | cons c t =>
    cases b with
    | nil => simp at hl
    | cons d u =>
      have hA := absN_lt true (c :: t)
      have hq : absN true (c :: t) / absN true (d :: u) ≤ 2 ^ (c :: t).length := Nat.le_trans (Nat.div_le_self _ _) (Nat.le_of_lt hA)
      unfold divL
      rcases known_top (List.all_eq_true.1 ka c (by simp)) with rfl | rfl <;> rcases known_top (List.all_eq_true.1 kb d (by simp)) with rfl | rfl
      · rw [if_neg (by simp), sI_neg, sI_neg, Int.neg_tdiv, Int.tdiv_neg, Int.neg_neg, ← Int.ofNat_tdiv]
        exact ofInt_pos _ _ h2
      · rw [if_pos ⟨rfl, show (49 : UInt8) ≠ 48 by decide⟩, sI_neg, sI_pos, Int.neg_tdiv, ← Int.ofNat_tdiv]
        exact ofInt_neg _ _ h2 hq
      · rw [if_pos ⟨rfl, show (48 : UInt8) ≠ 49 by decide⟩, sI_pos, sI_neg, Int.tdiv_neg, ← Int.ofNat_tdiv]
        exact ofInt_neg _ _ h2 hq
      · rw [if_neg (by simp), sI_pos, sI_pos, ← Int.ofNat_tdiv]
        exact ofInt_pos _ _ h2
/-- A quotient by -1 is the number with its sign turned. -/
theorem divm_txt {a b : List UInt8} (ka : a.all Vb.knB = true) (kb : b.all Vb.knB = true) (hl : a.length = b.length) (h1 : 1 ≤ a.length) (hb : sI b = -1) :
    Vb.nTxt a.length (2 ^ a.length - Vb.num a) = divL a.length true a b := by
  cases a with
  | nil => simp at h1
  | cons c t =>
    cases b with
    | nil => simp at hl
    | cons d u =>
      unfold divL
      rcases known_top (List.all_eq_true.1 kb d (by simp)) with rfl | rfl
      · have e : absN true (49 :: u) = 1 := by rw [sI_neg] at hb; omega
        rcases known_top (List.all_eq_true.1 ka c (by simp)) with rfl | rfl
        · rw [if_neg (by simp), e, Nat.div_one, absN_one]
        · rw [if_pos ⟨rfl, show (48 : UInt8) ≠ 49 by decide⟩, e, Nat.div_one, absN_zero]
      · rw [sI_pos] at hb; omega
end Go.Proofs.Ytmbllgblbdfobaa
