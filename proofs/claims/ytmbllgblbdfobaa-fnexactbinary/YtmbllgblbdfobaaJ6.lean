/- What the closures of the program's binaryOps answer. -/
import Derived.Test.YtmbllgblbdfobaaJ5
namespace Go.Proofs.Ytmbllgblbdfobaa
open Go.RowKit
set_option linter.unusedVariables false
attribute [local go_sem] U_and U_or U_xor U_andNot U_shl U_shr U_shl1 U_or1 U_and1 U_toNat U_nonneg U_low U_beq U_bne
set_option maxRecDepth 100000 in
set_option maxHeartbeats 400000 in
theorem iCDiv (b : Nat) (n m l : Nat) (k h p q A B : BitVec 64) (sg : Bool) (hc : ∀ w, Calls Try.prog 88 #[.agg #[.int .i64 n, .int .u64 (U k), .int .u64 (U h)], .agg #[.int .i64 m, .int .u64 (U p), .int .u64 (U q)], .bool sg] w fun e w' => e = .returned (V l A B) ∧ Below w.heap.size w w') (w : World) (hbc : w.cell? ⟨b, 0, none⟩ = some (.bool sg)) :
    Calls Try.prog 87 #[V n k h, V m p q, .pointer (some ⟨b, 0, none⟩)] w fun e w' => e = .returned (V l A B) ∧ Below w.heap.size w w' := by
  have HC := hide hc
  have hbl : b < w.heap.size := World.block_lt_of_cell? w _ hbc
  have n0 : ¬ b = w.heap.size := by omega
  have n1 : ¬ b = w.heap.size + 1 := by omega
  have n2 : ¬ b = w.heap.size + 1 + 1 := by omega
  have n3 : ¬ w.heap.size + 1 + 1 = b := by omega
  have hbc3 : (((w.alloc (.cells #[.int .i64 n, .int .u64 (U (k)), .int .u64 (U (h))] 60)).alloc (.cells #[.int .i64 m, .int .u64 (U (p)), .int .u64 (U (q))] 60)).alloc (.cells #[.int .i64 0, .int .u64 0, .int .u64 0] 60)).cell? ⟨b, 0, none⟩ = some (.bool sg) := cell_later (bal (bal (bal (brf _) _) _) _) hbc
  clear hc
  unfold V
  go_enter Try.func87, Try.ntmps87
  go_wp2_with fail
  refine (unhide HC _).mono ?_
  rintro e w1 ⟨rfl, hb1⟩
  have hB1 : Below w.heap.size w w1 := btr (bal (bal (bal (brf w) _) _) _) hb1
  obtain ⟨v0_1, v1_1, v2_1⟩ : VB (w.heap.size) n k h w1 := by refine VB_later hb1 ⟨?_, ?_, ?_⟩ <;> go_simp
  obtain ⟨u0_1, u1_1, u2_1⟩ : VB (w.heap.size + 1) m p q w1 := by refine VB_later hb1 ⟨?_, ?_, ?_⟩ <;> go_simp
  have Xr1 : RB (w.heap.size + 1 + 1) w1 := by refine RB_later hb1 ⟨.int .i64 0, .int .u64 0, .int .u64 0, ?_, ?_, ?_, ?_, ?_, ?_⟩ <;> go_simp
  obtain ⟨x0, y0, z0, c0, c1, c2, f0, f1, f2⟩ := Xr1
  have h2 : w.heap.size ≤ w.heap.size + 1 + 1 := by omega
  unfold V
  go_wp2
  exact bodyPost_ret (v := V l (A) (B)) (by simp [results, Try.results87, go_sem, V, c0, c1, c2]) rfl ⟨rfl, bst (bst (bst hB1 h2 _) h2 _) h2 _⟩
set_option maxRecDepth 100000 in
set_option maxHeartbeats 400000 in
theorem iCRem (b : Nat) (n m l : Nat) (k h p q A B : BitVec 64) (sg : Bool) (hc : ∀ w, Calls Try.prog 90 #[.agg #[.int .i64 n, .int .u64 (U k), .int .u64 (U h)], .agg #[.int .i64 m, .int .u64 (U p), .int .u64 (U q)], .bool sg] w fun e w' => e = .returned (V l A B) ∧ Below w.heap.size w w') (w : World) (hbc : w.cell? ⟨b, 0, none⟩ = some (.bool sg)) :
    Calls Try.prog 89 #[V n k h, V m p q, .pointer (some ⟨b, 0, none⟩)] w fun e w' => e = .returned (V l A B) ∧ Below w.heap.size w w' := by
  have HC := hide hc
  have hbl : b < w.heap.size := World.block_lt_of_cell? w _ hbc
  have n0 : ¬ b = w.heap.size := by omega
  have n1 : ¬ b = w.heap.size + 1 := by omega
  have n2 : ¬ b = w.heap.size + 1 + 1 := by omega
  have n3 : ¬ w.heap.size + 1 + 1 = b := by omega
  have hbc3 : (((w.alloc (.cells #[.int .i64 n, .int .u64 (U (k)), .int .u64 (U (h))] 60)).alloc (.cells #[.int .i64 m, .int .u64 (U (p)), .int .u64 (U (q))] 60)).alloc (.cells #[.int .i64 0, .int .u64 0, .int .u64 0] 60)).cell? ⟨b, 0, none⟩ = some (.bool sg) := cell_later (bal (bal (bal (brf _) _) _) _) hbc
  clear hc
  unfold V
  go_enter Try.func89, Try.ntmps89
  go_wp2_with fail
  refine (unhide HC _).mono ?_
  rintro e w1 ⟨rfl, hb1⟩
  have hB1 : Below w.heap.size w w1 := btr (bal (bal (bal (brf w) _) _) _) hb1
  obtain ⟨v0_1, v1_1, v2_1⟩ : VB (w.heap.size) n k h w1 := by refine VB_later hb1 ⟨?_, ?_, ?_⟩ <;> go_simp
  obtain ⟨u0_1, u1_1, u2_1⟩ : VB (w.heap.size + 1) m p q w1 := by refine VB_later hb1 ⟨?_, ?_, ?_⟩ <;> go_simp
  have Xr1 : RB (w.heap.size + 1 + 1) w1 := by refine RB_later hb1 ⟨.int .i64 0, .int .u64 0, .int .u64 0, ?_, ?_, ?_, ?_, ?_, ?_⟩ <;> go_simp
  obtain ⟨x0, y0, z0, c0, c1, c2, f0, f1, f2⟩ := Xr1
  have h2 : w.heap.size ≤ w.heap.size + 1 + 1 := by omega
  unfold V
  go_wp2
  exact bodyPost_ret (v := V l (A) (B)) (by simp [results, Try.results89, go_sem, V, c0, c1, c2]) rfl ⟨rfl, bst (bst (bst hB1 h2 _) h2 _) h2 _⟩
set_option maxRecDepth 100000 in
set_option maxHeartbeats 400000 in
theorem iCLt (b : Nat) (n m l : Nat) (k h p q A B : BitVec 64) (sg : Bool) (hc : ∀ w, Calls Try.prog 95 #[.agg #[.int .i64 n, .int .u64 (U k), .int .u64 (U h)], .agg #[.int .i64 m, .int .u64 (U p), .int .u64 (U q)], .bool sg] w fun e w' => e = .returned (V l A B) ∧ Below w.heap.size w w') (w : World) (hbc : w.cell? ⟨b, 0, none⟩ = some (.bool sg)) :
    Calls Try.prog 94 #[V n k h, V m p q, .pointer (some ⟨b, 0, none⟩)] w fun e w' => e = .returned (V l A B) ∧ Below w.heap.size w w' := by
  have HC := hide hc
  have hbl : b < w.heap.size := World.block_lt_of_cell? w _ hbc
  have n0 : ¬ b = w.heap.size := by omega
  have n1 : ¬ b = w.heap.size + 1 := by omega
  have n2 : ¬ b = w.heap.size + 1 + 1 := by omega
  have n3 : ¬ w.heap.size + 1 + 1 = b := by omega
  have hbc3 : (((w.alloc (.cells #[.int .i64 n, .int .u64 (U (k)), .int .u64 (U (h))] 60)).alloc (.cells #[.int .i64 m, .int .u64 (U (p)), .int .u64 (U (q))] 60)).alloc (.cells #[.int .i64 0, .int .u64 0, .int .u64 0] 60)).cell? ⟨b, 0, none⟩ = some (.bool sg) := cell_later (bal (bal (bal (brf _) _) _) _) hbc
  clear hc
  unfold V
  go_enter Try.func94, Try.ntmps94
  go_wp2_with fail
  refine (unhide HC _).mono ?_
  rintro e w1 ⟨rfl, hb1⟩
  have hB1 : Below w.heap.size w w1 := btr (bal (bal (bal (brf w) _) _) _) hb1
  obtain ⟨v0_1, v1_1, v2_1⟩ : VB (w.heap.size) n k h w1 := by refine VB_later hb1 ⟨?_, ?_, ?_⟩ <;> go_simp
  obtain ⟨u0_1, u1_1, u2_1⟩ : VB (w.heap.size + 1) m p q w1 := by refine VB_later hb1 ⟨?_, ?_, ?_⟩ <;> go_simp
  have Xr1 : RB (w.heap.size + 1 + 1) w1 := by refine RB_later hb1 ⟨.int .i64 0, .int .u64 0, .int .u64 0, ?_, ?_, ?_, ?_, ?_, ?_⟩ <;> go_simp
  obtain ⟨x0, y0, z0, c0, c1, c2, f0, f1, f2⟩ := Xr1
  have h2 : w.heap.size ≤ w.heap.size + 1 + 1 := by omega
  unfold V
  go_wp2
  exact bodyPost_ret (v := V l (A) (B)) (by simp [results, Try.results94, go_sem, V, c0, c1, c2]) rfl ⟨rfl, bst (bst (bst hB1 h2 _) h2 _) h2 _⟩
set_option maxRecDepth 100000 in
set_option maxHeartbeats 400000 in
theorem iCLe (b : Nat) (n m l : Nat) (k h p q A B : BitVec 64) (sg : Bool) (hc : ∀ w, Calls Try.prog 97 #[.agg #[.int .i64 n, .int .u64 (U k), .int .u64 (U h)], .agg #[.int .i64 m, .int .u64 (U p), .int .u64 (U q)], .bool sg] w fun e w' => e = .returned (V l A B) ∧ Below w.heap.size w w') (w : World) (hbc : w.cell? ⟨b, 0, none⟩ = some (.bool sg)) :
    Calls Try.prog 96 #[V n k h, V m p q, .pointer (some ⟨b, 0, none⟩)] w fun e w' => e = .returned (V l A B) ∧ Below w.heap.size w w' := by
  have HC := hide hc
  have hbl : b < w.heap.size := World.block_lt_of_cell? w _ hbc
  have n0 : ¬ b = w.heap.size := by omega
  have n1 : ¬ b = w.heap.size + 1 := by omega
  have n2 : ¬ b = w.heap.size + 1 + 1 := by omega
  have n3 : ¬ w.heap.size + 1 + 1 = b := by omega
  have hbc3 : (((w.alloc (.cells #[.int .i64 n, .int .u64 (U (k)), .int .u64 (U (h))] 60)).alloc (.cells #[.int .i64 m, .int .u64 (U (p)), .int .u64 (U (q))] 60)).alloc (.cells #[.int .i64 0, .int .u64 0, .int .u64 0] 60)).cell? ⟨b, 0, none⟩ = some (.bool sg) := cell_later (bal (bal (bal (brf _) _) _) _) hbc
  clear hc
  unfold V
  go_enter Try.func96, Try.ntmps96
  go_wp2_with fail
  refine (unhide HC _).mono ?_
  rintro e w1 ⟨rfl, hb1⟩
  have hB1 : Below w.heap.size w w1 := btr (bal (bal (bal (brf w) _) _) _) hb1
  obtain ⟨v0_1, v1_1, v2_1⟩ : VB (w.heap.size) n k h w1 := by refine VB_later hb1 ⟨?_, ?_, ?_⟩ <;> go_simp
  obtain ⟨u0_1, u1_1, u2_1⟩ : VB (w.heap.size + 1) m p q w1 := by refine VB_later hb1 ⟨?_, ?_, ?_⟩ <;> go_simp
  have Xr1 : RB (w.heap.size + 1 + 1) w1 := by refine RB_later hb1 ⟨.int .i64 0, .int .u64 0, .int .u64 0, ?_, ?_, ?_, ?_, ?_, ?_⟩ <;> go_simp
  obtain ⟨x0, y0, z0, c0, c1, c2, f0, f1, f2⟩ := Xr1
  have h2 : w.heap.size ≤ w.heap.size + 1 + 1 := by omega
  unfold V
  go_wp2
  exact bodyPost_ret (v := V l (A) (B)) (by simp [results, Try.results96, go_sem, V, c0, c1, c2]) rfl ⟨rfl, bst (bst (bst hB1 h2 _) h2 _) h2 _⟩
end Go.Proofs.Ytmbllgblbdfobaa
