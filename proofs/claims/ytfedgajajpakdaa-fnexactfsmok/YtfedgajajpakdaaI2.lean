/- What the program's small vector functions answer. -/
import Derived.Test.YtfedgajajpakdaaI1
import Derived.Deep.RegionHeld3
namespace Go.Proofs.Ytfedgajajpakdaa
open Go.RowKit
attribute [local go_sem] U_and U_or U_xor U_andNot U_shl U_shr U_shl1 U_or1 U_and1 U_toNat U_nonneg U_low U_beq U_bne
set_option maxHeartbeats 400000 in
theorem iLow (c : Nat) (w : World) :
    Calls Try.prog 35 #[.int .u64 (c : Int)] w fun e w' => e = .returned (.int .u64 (U (Vb.ones c))) ∧ w' = w := by
  go_enter Try.func35, Try.ntmps35
  go_wp2
  go_ret
  exact ⟨rfl, rfl⟩
set_option maxHeartbeats 400000 in
theorem iMask (n : Nat) (k h : BitVec 64) (hn : n ≤ 64) (w : World) :
    Calls Try.prog 34 #[.agg #[.int .i64 n, .int .u64 (U (k)), .int .u64 (U (h))]] w fun e w' => e = .returned (.int .u64 (U (Vb.ones n))) ∧ w.alloc (.cells #[.int .i64 n, .int .u64 (U (k)), .int .u64 (U (h))] 51) = w' := by
  go_enter Try.func34, Try.ntmps34
  go_wp2_with (go_at_call 35; refine (iLow _ _).mono ?_; rintro e w' ⟨rfl, rfl⟩)
  go_ret
  exact ⟨rfl, rfl⟩
set_option maxHeartbeats 400000 in
theorem iIsKnown (n : Nat) (k h : BitVec 64) (hn : n ≤ 64) (w : World) :
    Calls Try.prog 33 #[V n k h] w fun e w' => e = .returned (.bool (k == Vb.ones n)) ∧ Below w.heap.size w w' := by
  unfold V
  go_enter Try.func33, Try.ntmps33
  go_wp2
  go_region_held3 (fun w' => w'.cell? ⟨w.heap.size, 0, none⟩ = some (.int .i64 n) ∧ w'.cell? ⟨w.heap.size, 1, none⟩ = some (.int .u64 (U k)) ∧ w'.cell? ⟨w.heap.size, 2, none⟩ = some (.int .u64 (U h))) (first | (go_simp; done) | (refine ⟨?_, ?_, ?_⟩ <;> (refine cell_later hb ?_; go_simp)) | go_keep) (first | (go_at_call 34; refine (iMask _ _ _ ?_ _).mono ?_; omega; rintro e w' ⟨rfl, rfl⟩))
  go_wp2
  go_ret
  exact ⟨rfl, bdr (bal (bal (brf _) _) _)⟩
end Go.Proofs.Ytfedgajajpakdaa
