/- Rests as texts. -/
import Derived.Test.YtmbllgblbdfobaaBM4
namespace Go.Proofs.Ytmbllgblbdfobaa
open Go.RowKit
theorem mod_ofInt {n u v : Nat} (h : (u : Int) % ((2 ^ n : Nat) : Int) = (v : Int) % ((2 ^ n : Nat) : Int)) : u % 2 ^ n = v % 2 ^ n := by
  have : ((u % 2 ^ n : Nat) : Int) = ((v % 2 ^ n : Nat) : Int) := by rw [Int.natCast_emod, Int.natCast_emod]; exact h
  omega
theorem dvd64i {n : Nat} (h : n ≤ 64) : ((2 ^ n : Nat) : Int) ∣ ((2 ^ 64 : Nat) : Int) := Int.natCast_dvd_natCast.2 (pow_dvd64 h)
/-- A number less a quotient times another one, reckoned in words, modulo 2 to the width. -/
theorem rest_core (n : Nat) (h2 : n ≤ 64) (H Q2 Q : BitVec 64) (a d b : Int) (v : Nat) (hH : (H.toNat : Int) % ((2 ^ n : Nat) : Int) = a % ((2 ^ n : Nat) : Int)) (hD : (Q2.toNat : Int) % ((2 ^ n : Nat) : Int) = d % ((2 ^ n : Nat) : Int)) (hQ : (Q.toNat : Int) % ((2 ^ n : Nat) : Int) = b % ((2 ^ n : Nat) : Int)) (hv : (v : Int) % ((2 ^ n : Nat) : Int) = (a - d * b) % ((2 ^ n : Nat) : Int)) :
    Vb.nTxt n (H - (Q2 * Q &&& Vb.ones n)).toNat = Vb.nTxt n v := by
  apply Vb.nTxt_congr
  apply mod_ofInt
  rw [hv, BitVec.toNat_sub, Vb.and_ones_toNat _ _ h2, BitVec.toNat_mul]
  have hm : ((Q2.toNat * Q.toNat % 2 ^ 64 % 2 ^ n : Nat) : Int) % ((2 ^ n : Nat) : Int) = (d * b) % ((2 ^ n : Nat) : Int) := by
    rw [Nat.mod_mod_of_dvd _ (pow_dvd64 h2), Int.natCast_emod, Int.emod_emod_of_dvd _ (Int.dvd_refl _), Int.natCast_mul, Int.mul_emod, hD, hQ, ← Int.mul_emod]
  have hlt : Q2.toNat * Q.toNat % 2 ^ 64 % 2 ^ n ≤ 2 ^ 64 := Nat.le_trans (Nat.le_of_lt (Nat.mod_lt _ (Nat.two_pow_pos n))) (Nat.pow_le_pow_right (by decide) h2)
  generalize Q2.toNat * Q.toNat % 2 ^ 64 % 2 ^ n = M at *
  rw [Int.natCast_emod, Int.emod_emod_of_dvd _ (dvd64i h2)]
  have e : ((2 ^ 64 - M + H.toNat : Nat) : Int) = ((H.toNat : Int) - (M : Int)) + ((2 ^ 64 : Nat) : Int) := by omega
  obtain ⟨c, hc⟩ := dvd64i h2
  rw [e, hc, Int.add_mul_emod_self_left, Int.sub_emod, hH, hm, ← Int.sub_emod]
theorem num_sI {l : List UInt8} (hk : l.all Vb.knB = true) (h1 : 1 ≤ l.length) : (Vb.num l : Int) % ((2 ^ l.length : Nat) : Int) = sI l % ((2 ^ l.length : Nat) : Int) := by
  cases l with
  | nil => simp at h1
  | cons c t =>
    rcases known_top (List.all_eq_true.1 hk c (by simp)) with rfl | rfl
    · have e : (Vb.num (49 :: t) : Int) = sI (49 :: t) + ((2 ^ (49 :: t).length : Nat) : Int) := by rw [sI_one, num_one, pow_two]; omega
      rw [e]; simp
    · rw [sI_zero, num_zero]
theorem rem_nat (A B : Nat) : ((A % B : Nat) : Int) = (A : Int) - (A : Int).tdiv (B : Int) * (B : Int) := by
  rw [← Int.ofNat_tdiv, ← Int.natCast_mul]
  have := Nat.div_add_mod A B
  rw [Nat.mul_comm] at this
  omega
theorem remu_txt {a b : List UInt8} (ka : a.all Vb.knB = true) (kb : b.all Vb.knB = true) (hl : a.length = b.length) (h2 : a.length ≤ 64) :
    Vb.nTxt a.length (Vb.wh a - ((Vb.wh a / Vb.wh b &&& Vb.ones a.length) * Vb.wh b &&& Vb.ones a.length)).toNat = remL a.length false a b := by
  have e : remL a.length false a b = Vb.nTxt a.length (Vb.num a % Vb.num b) := by unfold remL absN; rw [if_neg (by simp), if_neg (by simp), if_neg (by simp)]
  rw [e]
  refine rest_core a.length h2 _ _ _ (Vb.num a : Int) ((Vb.num a : Int).tdiv (Vb.num b : Int)) (Vb.num b : Int) _ (by rw [Vb.wh_toNat ka h2]) ?_ (by rw [Vb.wh_toNat kb (by omega)]) (by rw [rem_nat])
  rw [Vb.and_ones_toNat _ _ h2, BitVec.toNat_udiv, Vb.wh_toNat ka h2, Vb.wh_toNat kb (by omega), Int.natCast_emod, Int.emod_emod_of_dvd _ (Int.dvd_refl _), ← Int.ofNat_tdiv]
theorem rems_txt {a b : List UInt8} (ka : a.all Vb.knB = true) (kb : b.all Vb.knB = true) (hl : a.length = b.length) (h1 : 1 ≤ a.length) (h2 : a.length ≤ 64) (hz : 0 < Vb.num b) (Q2 : BitVec 64) (hQ2 : (Q2.toNat : Int) % ((2 ^ a.length : Nat) : Int) = (sI a).tdiv (sI b) % ((2 ^ a.length : Nat) : Int)) :
    Vb.nTxt a.length (Vb.wh a - (Q2 * Vb.wh b &&& Vb.ones a.length)).toNat = remL a.length true a b := by
  have hb : (Vb.num b : Int) % ((2 ^ a.length : Nat) : Int) = sI b % ((2 ^ a.length : Nat) : Int) := by rw [hl]; exact num_sI kb (by omega)
  have core := fun v hv => rest_core a.length h2 (Vb.wh a) Q2 (Vb.wh b) (sI a) ((sI a).tdiv (sI b)) (sI b) v (by rw [Vb.wh_toNat ka h2]; exact num_sI ka h1) hQ2 (by rw [Vb.wh_toNat kb (by omega)]; exact hb) hv
  have hpb := absN_pos true hz
  have hlb := absN_lt true b
  cases a with
  | nil => simp at h1
  | cons c t =>
    cases b with
    | nil => simp at hl
    | cons d u =>
      rw [← hl] at hlb
      have hr : absN true (c :: t) % absN true (d :: u) < 2 ^ (c :: t).length := Nat.lt_trans (Nat.mod_lt _ hpb) hlb
      have hs : sI (d :: u) = ((absN true (d :: u) : Nat) : Int) ∨ sI (d :: u) = -((absN true (d :: u) : Nat) : Int) := by
        rcases known_top (List.all_eq_true.1 kb d (by simp)) with rfl | rfl
        · exact .inr (sI_neg u)
        · exact .inl (sI_pos u)
      unfold remL
      rcases known_top (List.all_eq_true.1 ka c (by simp)) with rfl | rfl
      · rw [if_pos ⟨rfl, rfl⟩]
        apply core
        have e : sI (49 :: t) - (sI (49 :: t)).tdiv (sI (d :: u)) * sI (d :: u) = -((absN true (49 :: t) % absN true (d :: u) : Nat) : Int) := by
          rw [rem_nat, sI_neg]
          rcases hs with hs | hs <;> rw [hs]
          · rw [Int.neg_tdiv, Int.neg_mul]; omega
          · rw [Int.neg_tdiv, Int.tdiv_neg, Int.neg_neg, Int.mul_neg]; omega
        rw [e]
        have e3 : ((2 ^ (49 :: t).length - absN true (49 :: t) % absN true (d :: u) : Nat) : Int) = -((absN true (49 :: t) % absN true (d :: u) : Nat) : Int) + ((2 ^ (49 :: t).length : Nat) : Int) := by omega
        rw [e3]; simp
      · rw [if_neg (fun h => absurd h.2 (show ¬ (48 : UInt8) = 49 by decide))]
        apply core
        rw [rem_nat, sI_pos]
        rcases hs with hs | hs <;> rw [hs]
        rw [Int.tdiv_neg, Int.mul_neg, Int.neg_mul, Int.neg_neg]
end Go.Proofs.Ytmbllgblbdfobaa
