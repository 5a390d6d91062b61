/- What OnesCount64 answers: a number whose lowest bit tells whether the ones are odd. -/
import Derived.Test.YtmbllgblbdfobaaI3
import Derived.Test.YtmbllgblbdfobaaPop
namespace Go.Proofs.Ytmbllgblbdfobaa
open Go.RowKit
theorem U_add (x y : BitVec 64) : IntKind.u64.wrap (U x + U y) = U (x + y) := by
  rw [IntKind.wrap_u64]; unfold U; rw [BitVec.toNat_add]; omega
theorem U_sh1 (x : BitVec 64) : U x / (2 : Int) = U (x >>> 1) := U_shr x 1
theorem U_sh2 (x : BitVec 64) : U x / (4 : Int) = U (x >>> 2) := U_shr x 2
theorem U_sh4 (x : BitVec 64) : U x / (16 : Int) = U (x >>> 4) := U_shr x 4
theorem U_sh8 (x : BitVec 64) : U x / (256 : Int) = U (x >>> 8) := U_shr x 8
theorem U_sh16 (x : BitVec 64) : U x / (65536 : Int) = U (x >>> 16) := U_shr x 16
theorem U_sh32 (x : BitVec 64) : U x / (4294967296 : Int) = U (x >>> 32) := U_shr x 32
theorem U_m1 (x : BitVec 64) : bits .and .u64 (U x) 6148914691236517205 = U (x &&& Vb.m1) := U_and x Vb.m1
theorem U_m2 (x : BitVec 64) : bits .and .u64 (U x) 3689348814741910323 = U (x &&& Vb.m2) := U_and x Vb.m2
theorem U_m4 (x : BitVec 64) : bits .and .u64 (U x) 1085102592571150095 = U (x &&& Vb.m4) := U_and x Vb.m4
def popc (x : BitVec 64) : BitVec 64 := Vb.p6 (Vb.p5 (Vb.p4 (Vb.p3 (Vb.p2 (Vb.p1 x)))))
set_option maxHeartbeats 400000 in
theorem iCount (x : BitVec 64) (w : World) :
    Calls Try.prog 124 #[.int .u64 (U x)] w fun e w' => e = .returned (.int .i64 (bits .and .i64 (wrap64 (U (popc x))) 127)) ∧ w' = w := by
  go_enter Try.func124, Try.ntmps124
  go_wp2
  go_ret
  refine ⟨ret_i64 ?_, rfl⟩
  simp only [U_add, U_sh1, U_sh2, U_sh4, U_sh8, U_sh16, U_sh32, U_m1, U_m2, U_m4]
  rfl
theorem and_127 (x : BitVec 64) : bits .and .i64 (wrap64 (U x)) 127 = ((x.toNat % 128 : Nat) : Int) := by
  show IntKind.i64.wrap ((BitVec.ofInt 64 (wrap64 (U x)) &&& BitVec.ofInt 64 127).toNat : Int) = _
  have e : BitVec.ofInt 64 (wrap64 (U x)) = x := by
    apply BitVec.eq_of_toNat_eq
    rw [BitVec.toNat_ofInt]
    have := x.isLt
    unfold wrap64 U
    omega
  rw [e, BitVec.toNat_and, show (BitVec.ofInt 64 127).toNat = 2 ^ 7 - 1 from rfl, Nat.and_two_pow_sub_one_eq_mod]
  have h : x.toNat % 2 ^ 7 < 128 := Nat.mod_lt _ (by omega)
  rw [show (2 : Nat) ^ 7 = 128 from rfl] at h ⊢
  have hw : ∀ n : Nat, n < 128 → IntKind.i64.wrap (n : Int) = n := by
    intro n hn
    simp [IntKind.wrap, IntKind.bits, IntKind.signed]
    omega
  exact hw _ h
end Go.Proofs.Ytmbllgblbdfobaa
