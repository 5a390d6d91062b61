/- What the program's numberVec, truthVec, signedNumber answer. -/
import Derived.Test.YtdgiidlaafbgcabGreatDoorI2
namespace Go.Proofs.YtdgiidlaafbgcabGreatDoor
open Go.RowKit
attribute [local go_sem] U_and U_or U_xor U_andNot U_shl U_shr U_shl1 U_or1 U_and1 U_toNat U_nonneg U_low U_beq U_bne
theorem U_all : (18446744073709551615 : Int) = U (BitVec.allOnes 64) := rfl
set_option maxHeartbeats 400000 in
theorem iNumber (n : Nat) (x : BitVec 64) (hn : n ≤ 64) (w : World) :
    Calls Tryz.prog 37 #[.int .u64 (U x), .int .i64 n] w fun e w' => e = .returned (V n (Vb.ones n) (x &&& Vb.ones n)) ∧ Below w.heap.size w w' := by
  go_enter Tryz.func37, Tryz.ntmps37
  go_wp2_with fail
  rw [U_all]
  refine (iCut n (BitVec.allOnes 64) x hn _).mono ?_
  rintro e w1 ⟨rfl, hb⟩
  obtain ⟨hc, hf⟩ := bcell hb
  rw [BitVec.allOnes_and]
  unfold V
  go_wp2
  refine bodyPost_ret (v := V n (Vb.ones n) (x &&& Vb.ones n)) (by simp [results, Tryz.results37, go_sem, V, hc]) rfl ⟨rfl, ?_⟩
  repeat first | exact brf _ | refine bdr ?_ | refine bst ?_ (by first | exact Nat.le_refl _ | (simp; done) | (simp; omega)) _ | refine btr ?_ hb | refine bal ?_ _
/-- The number with a sign that the program reads off a known vector. -/
def sgn (n : Nat) (h : BitVec 64) : Int := wrap64 (U (h <<< (64 - n))) / 2 ^ (64 - n)
theorem sgn_eq (n : Nat) (h : BitVec 64) : wrap64 (IntKind.u64.wrap (U h * 2 ^ (64 - n))) / 2 ^ (64 - n) = sgn n h := by
  have := U_shl h (64 - n)
  rw [Nat.min_eq_left (by omega)] at this
  rw [this]; rfl
theorem ret_i64 {a b : Int} (h : a = b) : Ending.returned (.int .i64 a) = .returned (.int .i64 b) := by rw [h]
end Go.Proofs.YtdgiidlaafbgcabGreatDoor
