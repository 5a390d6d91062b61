/- The texts of numbers, put together and cut. -/
import Derived.Test.YtdgiidlaafbgcabGreatDoorNB1
namespace Nb
theorem num_rep48 (k : Nat) : Vb.num (List.replicate k 48) = 0 := by
  induction k with
  | zero => rfl
  | succ k ih => rw [List.replicate_succ, Vb.num_cons, ih, show (Vb.oneB 48).toNat = 0 from rfl, Nat.zero_mul]
theorem kn_rep48 (k : Nat) : (List.replicate k (48 : UInt8)).all Vb.knB = true := by
  rw [List.all_replicate]; simp; right; rfl
theorem split_nTxt (k n X : Nat) : Vb.nTxt (k + n) X = Vb.nTxt k (X / 2 ^ n) ++ Vb.nTxt n X := by
  refine Vb.known_ext (Vb.nTxt_known _ _) (by rw [List.all_append, Vb.nTxt_known, Vb.nTxt_known]; rfl) (by rw [List.length_append, Vb.nTxt_len, Vb.nTxt_len, Vb.nTxt_len]) ?_
  rw [Vb.num_append, Vb.num_nTxt, Vb.num_nTxt, Vb.num_nTxt, Vb.nTxt_len, Nat.add_comm k n, Nat.pow_add]
  rw [Nat.mod_mul, Nat.mul_comm (X / 2 ^ n % 2 ^ k)]; omega
theorem pad_nTxt (k n X : Nat) (h : X < 2 ^ n) : List.replicate k 48 ++ Vb.nTxt n X = Vb.nTxt (k + n) X := by
  rw [split_nTxt, Nat.div_eq_of_lt h]
  congr 1
  exact Vb.known_ext (kn_rep48 k) (Vb.nTxt_known _ _) (by rw [List.length_replicate, Vb.nTxt_len]) (by rw [num_rep48, Vb.num_nTxt, Nat.zero_mod])
end Nb
