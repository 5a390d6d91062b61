/- What the program's small vector functions answer. -/
import Derived.Test.YtjbbjgoofenkpaaI1
import Derived.Deep.RegionHeld3
namespace Go.Proofs.Ytjbbjgoofenkpaa
open Go.RowKit
attribute [local go_sem] U_and U_or U_xor U_andNot U_shl U_shr U_shl1 U_or1 U_and1 U_toNat U_nonneg U_low U_beq U_bne
set_option maxHeartbeats 400000 in
theorem iLow (c : Nat) (w : World) :
    Calls Try.prog 44 #[.int .u64 (c : Int)] w fun e w' => e = .returned (.int .u64 (U (Vb.ones c))) ∧ w' = w := by
  go_enter Try.func44, Try.ntmps44
  go_wp2
  go_ret
  exact ⟨rfl, rfl⟩
set_option maxHeartbeats 400000 in
theorem iMask (n : Nat) (k h : BitVec 64) (hn : n ≤ 64) (w : World) :
    Calls Try.prog 43 #[.agg #[.int .i64 n, .int .u64 (U (k)), .int .u64 (U (h))]] w fun e w' => e = .returned (.int .u64 (U (Vb.ones n))) ∧ w.alloc (.cells #[.int .i64 n, .int .u64 (U (k)), .int .u64 (U (h))] 59) = w' := by
  go_enter Try.func43, Try.ntmps43
  go_wp2_with (go_at_call 44; refine (iLow _ _).mono ?_; rintro e w' ⟨rfl, rfl⟩)
  go_ret
  exact ⟨rfl, rfl⟩
set_option maxHeartbeats 400000 in
theorem iIsKnown (n : Nat) (k h : BitVec 64) (hn : n ≤ 64) (w : World) :
    Calls Try.prog 42 #[V n k h] w fun e w' => e = .returned (.bool (k == Vb.ones n)) ∧ Below w.heap.size w w' := by
  unfold V
  go_enter Try.func42, Try.ntmps42
  go_wp2
  go_region_held3 (fun w' => w'.cell? ⟨w.heap.size, 0, none⟩ = some (.int .i64 n) ∧ w'.cell? ⟨w.heap.size, 1, none⟩ = some (.int .u64 (U k)) ∧ w'.cell? ⟨w.heap.size, 2, none⟩ = some (.int .u64 (U h))) (first | (go_simp; done) | (refine ⟨?_, ?_, ?_⟩ <;> (refine cell_later hb ?_; go_simp)) | go_keep) (first | (go_at_call 43; refine (iMask _ _ _ ?_ _).mono ?_; omega; rintro e w' ⟨rfl, rfl⟩))
  go_wp2
  go_ret
  exact ⟨rfl, bdr (bal (bal (brf _) _) _)⟩
end Go.Proofs.Ytjbbjgoofenkpaa
