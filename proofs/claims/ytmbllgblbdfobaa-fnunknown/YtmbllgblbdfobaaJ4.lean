/- What the program's downZero, downSign, quotient and rest answer. -/
import Derived.Test.YtmbllgblbdfobaaG17S16
namespace Go.Proofs.Ytmbllgblbdfobaa
open Go.RowKit
set_option linter.unusedVariables false
attribute [local go_sem] U_and U_or U_xor U_andNot U_shl U_shr U_shl1 U_or1 U_and1 U_toNat U_nonneg U_low U_beq U_bne
set_option maxRecDepth 100000 in
set_option maxHeartbeats 400000 in
theorem iDownZero (n m : Nat) (k h p q A B : BitVec 64) (hc : ∀ w, Calls Try.prog 123 #[.agg #[.int .i64 n, .int .u64 (U k), .int .u64 (U h)], .agg #[.int .i64 m, .int .u64 (U p), .int .u64 (U q)], .agg #[.int .i64 (1 : Nat), .int .u64 (U 1#64), .int .u64 (U 0#64)]] w fun e w' => e = .returned (V n A B) ∧ Below w.heap.size w w') (w : World) :
    Calls Try.prog 99 #[V n k h, V m p q] w fun e w' => e = .returned (V n A B) ∧ Below w.heap.size w w' := by
  have HC := hide hc
  clear hc
  unfold V
  go_enter Try.func99, Try.ntmps99
  go_wp2_with fail
  have X0 : RB (w.heap.size + 1 + 1) (((w.alloc (.cells #[.int .i64 n, .int .u64 (U (k)), .int .u64 (U (h))] 60)).alloc (.cells #[.int .i64 m, .int .u64 (U (p)), .int .u64 (U (q))] 60)).alloc (.cells #[.int .i64 0, .int .u64 0, .int .u64 0] 60)) := by refine ⟨.int .i64 0, .int .u64 0, .int .u64 0, ?_, ?_, ?_, ?_, ?_, ?_⟩ <;> go_simp
  go_region_held3 (fun w' => w'.cell? ⟨w.heap.size, 0, none⟩ = some (.int .i64 n) ∧ w'.cell? ⟨w.heap.size, 1, none⟩ = some (.int .u64 (U k)) ∧ w'.cell? ⟨w.heap.size, 2, none⟩ = some (.int .u64 (U h)) ∧ w'.cell? ⟨w.heap.size + 1, 0, none⟩ = some (.int .i64 m) ∧ w'.cell? ⟨w.heap.size + 1, 1, none⟩ = some (.int .u64 (U p)) ∧ w'.cell? ⟨w.heap.size + 1, 2, none⟩ = some (.int .u64 (U q))) (first | (go_simp; done) | (refine ⟨?_, ?_, ?_, ?_, ?_, ?_⟩ <;> (refine cell_later hb ?_; go_simp)) | go_keep) (first | (go_at_call 113; refine (iTruthVec false _).mono ?_; rintro e w3 ⟨rfl, hb⟩; have R3 := RB_later hb X0; have hB3 := btr (bdr (bal (bal (bal (brf w) _) _) _)) hb; unfold V) | (go_at_call 123; refine (unhide HC _).mono ?_; rintro e w5 ⟨rfl, hb⟩; have hBz := btr hB3 hb; obtain ⟨x0, y0, z0, c0, c1, c2, f0, f1, f2⟩ := RB_later hb R3; unfold V))
  go_wp2
  have h2 : w.heap.size ≤ w.heap.size + 1 + 1 := by omega
  exact bodyPost_ret (v := V n A B) (by simp [results, Try.results99, go_sem, V, c0, c1, c2]) rfl ⟨rfl, bst (bst (bst hBz h2 _) h2 _) h2 _⟩
set_option maxRecDepth 100000 in
set_option maxHeartbeats 400000 in
theorem iDownSign (n m : Nat) (k h p q T1 T2 A B : BitVec 64) (ht : ∀ w, Calls Try.prog 112 #[.agg #[.int .i64 n, .int .u64 (U k), .int .u64 (U h)]] w fun e w' => e = .returned (V 1 T1 T2) ∧ Below w.heap.size w w') (hc : ∀ w, Calls Try.prog 123 #[.agg #[.int .i64 n, .int .u64 (U k), .int .u64 (U h)], .agg #[.int .i64 m, .int .u64 (U p), .int .u64 (U q)], .agg #[.int .i64 (1 : Nat), .int .u64 (U T1), .int .u64 (U T2)]] w fun e w' => e = .returned (V n A B) ∧ Below w.heap.size w w') (w : World) :
    Calls Try.prog 100 #[V n k h, V m p q] w fun e w' => e = .returned (V n A B) ∧ Below w.heap.size w w' := by
  have HC := hide hc
  have HT := hide ht
  clear hc ht
  unfold V
  go_enter Try.func100, Try.ntmps100
  go_wp2_with fail
  have X0 : RB (w.heap.size + 1 + 1) (((w.alloc (.cells #[.int .i64 n, .int .u64 (U (k)), .int .u64 (U (h))] 60)).alloc (.cells #[.int .i64 m, .int .u64 (U (p)), .int .u64 (U (q))] 60)).alloc (.cells #[.int .i64 0, .int .u64 0, .int .u64 0] 60)) := by refine ⟨.int .i64 0, .int .u64 0, .int .u64 0, ?_, ?_, ?_, ?_, ?_, ?_⟩ <;> go_simp
  go_region_held3 (fun w' => w'.cell? ⟨w.heap.size, 0, none⟩ = some (.int .i64 n) ∧ w'.cell? ⟨w.heap.size, 1, none⟩ = some (.int .u64 (U k)) ∧ w'.cell? ⟨w.heap.size, 2, none⟩ = some (.int .u64 (U h)) ∧ w'.cell? ⟨w.heap.size + 1, 0, none⟩ = some (.int .i64 m) ∧ w'.cell? ⟨w.heap.size + 1, 1, none⟩ = some (.int .u64 (U p)) ∧ w'.cell? ⟨w.heap.size + 1, 2, none⟩ = some (.int .u64 (U q))) (first | (go_simp; done) | (refine ⟨?_, ?_, ?_, ?_, ?_, ?_⟩ <;> (refine cell_later hb ?_; go_simp)) | go_keep) (first | (go_at_call 112; refine (unhide HT _).mono ?_; rintro e w3 ⟨rfl, hb⟩; have R3 := RB_later hb X0; have hB3 := btr (bdr (bal (bal (bal (brf w) _) _) _)) hb; unfold V) | (go_at_call 123; refine (unhide HC _).mono ?_; rintro e w5 ⟨rfl, hb⟩; have hBz := btr hB3 hb; obtain ⟨x0, y0, z0, c0, c1, c2, f0, f1, f2⟩ := RB_later hb R3; unfold V))
  go_wp2
  have h2 : w.heap.size ≤ w.heap.size + 1 + 1 := by omega
  exact bodyPost_ret (v := V n A B) (by simp [results, Try.results100, go_sem, V, c0, c1, c2]) rfl ⟨rfl, bst (bst (bst hBz h2 _) h2 _) h2 _⟩
set_option maxRecDepth 100000 in
set_option maxHeartbeats 400000 in
theorem iRest (n m : Nat) (k h p q Q1 Q2 M1 M2 A B : BitVec 64) (sg : Bool) (hq : ∀ w, Calls Try.prog 88 #[.agg #[.int .i64 n, .int .u64 (U k), .int .u64 (U h)], .agg #[.int .i64 m, .int .u64 (U p), .int .u64 (U q)], .bool sg] w fun e w' => e = .returned (V n Q1 Q2) ∧ Below w.heap.size w w') (hm : ∀ w, Calls Try.prog 86 #[.agg #[.int .i64 n, .int .u64 (U Q1), .int .u64 (U Q2)], .agg #[.int .i64 m, .int .u64 (U p), .int .u64 (U q)]] w fun e w' => e = .returned (V n M1 M2) ∧ Below w.heap.size w w') (hs : ∀ w, Calls Try.prog 85 #[.agg #[.int .i64 n, .int .u64 (U k), .int .u64 (U h)], .agg #[.int .i64 n, .int .u64 (U M1), .int .u64 (U M2)]] w fun e w' => e = .returned (V n A B) ∧ Below w.heap.size w w') (w : World) :
    Calls Try.prog 90 #[V n k h, V m p q, .bool sg] w fun e w' => e = .returned (V n A B) ∧ Below w.heap.size w w' := by
  have HQ := hide hq
  have HM := hide hm
  have HS := hide hs
  clear hq hm hs
  unfold V
  go_enter Try.func90, Try.ntmps90
  go_wp2_with fail
  have X0 : RB (w.heap.size + 1 + 1) (((w.alloc (.cells #[.int .i64 n, .int .u64 (U (k)), .int .u64 (U (h))] 60)).alloc (.cells #[.int .i64 m, .int .u64 (U (p)), .int .u64 (U (q))] 60)).alloc (.cells #[.int .i64 0, .int .u64 0, .int .u64 0] 60)) := by refine ⟨.int .i64 0, .int .u64 0, .int .u64 0, ?_, ?_, ?_, ?_, ?_, ?_⟩ <;> go_simp
  go_region_held3 (fun w' => w'.cell? ⟨w.heap.size, 0, none⟩ = some (.int .i64 n) ∧ w'.cell? ⟨w.heap.size, 1, none⟩ = some (.int .u64 (U k)) ∧ w'.cell? ⟨w.heap.size, 2, none⟩ = some (.int .u64 (U h)) ∧ w'.cell? ⟨w.heap.size + 1, 0, none⟩ = some (.int .i64 m) ∧ w'.cell? ⟨w.heap.size + 1, 1, none⟩ = some (.int .u64 (U p)) ∧ w'.cell? ⟨w.heap.size + 1, 2, none⟩ = some (.int .u64 (U q))) (first | (go_simp; done) | (refine ⟨?_, ?_, ?_, ?_, ?_, ?_⟩ <;> (refine cell_later hb ?_; go_simp)) | go_keep) (first | (go_at_call 88; refine (unhide HQ _).mono ?_; rintro e w3 ⟨rfl, hb⟩; have R3 := RB_later hb X0; have hB3 := btr (bdr (bal (bal (bal (brf w) _) _) _)) hb; unfold V) | (go_at_call 86; refine (unhide HM _).mono ?_; rintro e w4 ⟨rfl, hb⟩; have R4 := RB_later hb R3; have hB4 := btr hB3 hb; unfold V) | (go_at_call 85; refine (unhide HS _).mono ?_; rintro e w5 ⟨rfl, hb⟩; have hBz := btr hB4 hb; obtain ⟨x0, y0, z0, c0, c1, c2, f0, f1, f2⟩ := RB_later hb R4; unfold V))
  go_wp2
  have h2 : w.heap.size ≤ w.heap.size + 1 + 1 := by omega
  exact bodyPost_ret (v := V n A B) (by simp [results, Try.results90, go_sem, V, c0, c1, c2]) rfl ⟨rfl, bst (bst (bst hBz h2 _) h2 _) h2 _⟩
set_option maxRecDepth 100000 in
set_option maxHeartbeats 400000 in
theorem iQuotA (n m : Nat) (k h p q : BitVec 64) (sg : Bool) (hn : n ≤ 64) (hm : m ≤ 64) (h1 : ¬ k = Vb.ones n) (w : World) :
    Calls Try.prog 88 #[V n k h, V m p q, .bool sg] w fun e w' => e = .returned (V n 0#64 0#64) ∧ Below w.heap.size w w' := by
  have b1 : (k == Vb.ones n) = false := by simp [h1]
  have B1 := hide b1
  clear h1 b1
  unfold V
  go_enter Try.func88, Try.ntmps88
  go_wp2_with fail
  refine (iIsKnown _ _ _ hn _).mono ?_
  rw [unhide B1]
  rintro e w1 ⟨rfl, hb1⟩
  have hB1 : Below w.heap.size w w1 := btr (bal (bal (bal (brf w) _) _) _) hb1
  obtain ⟨v0_1, v1_1, v2_1⟩ : VB (w.heap.size) n k h w1 := by refine VB_later hb1 ⟨?_, ?_, ?_⟩ <;> go_simp
  obtain ⟨u0_1, u1_1, u2_1⟩ : VB (w.heap.size + 1) m p q w1 := by refine VB_later hb1 ⟨?_, ?_, ?_⟩ <;> go_simp
  have Xr1 : RB (w.heap.size + 1 + 1) w1 := by refine RB_later hb1 ⟨.int .i64 0, .int .u64 0, .int .u64 0, ?_, ?_, ?_, ?_, ?_, ?_⟩ <;> go_simp
  go_wp2_with fail
  refine (iUnknown n _).mono ?_
  rintro e w2 ⟨rfl, hb2⟩
  have hB2 := btr hB1 hb2
  obtain ⟨v0_2, v1_2, v2_2⟩ : VB (w.heap.size) n k h w2 := VB_later hb2 ⟨v0_1, v1_1, v2_1⟩
  obtain ⟨u0_2, u1_2, u2_2⟩ : VB (w.heap.size + 1) m p q w2 := VB_later hb2 ⟨u0_1, u1_1, u2_1⟩
  have Xr2 := RB_later hb2 Xr1
  obtain ⟨x0, y0, z0, c0, c1, c2, f0, f1, f2⟩ := Xr2
  have h2 : w.heap.size ≤ w.heap.size + 1 + 1 := by omega
  unfold V
  go_wp2
  exact bodyPost_ret (v := V n (0#64) (0#64)) (by simp [results, Try.results88, go_sem, V, c0, c1, c2]) rfl ⟨rfl, bst (bst (bst hB2 h2 _) h2 _) h2 _⟩
set_option maxRecDepth 100000 in
set_option maxHeartbeats 400000 in
theorem iQuotB (n m : Nat) (k h p q : BitVec 64) (sg : Bool) (hn : n ≤ 64) (hm : m ≤ 64) (h1 : k = Vb.ones n) (h2 : ¬ p = Vb.ones m) (w : World) :
    Calls Try.prog 88 #[V n k h, V m p q, .bool sg] w fun e w' => e = .returned (V n 0#64 0#64) ∧ Below w.heap.size w w' := by
  have b1 : (k == Vb.ones n) = true := by simp [h1]
  have B1 := hide b1
  have b2 : (p == Vb.ones m) = false := by simp [h2]
  have B2 := hide b2
  clear h1 b1 h2 b2
  unfold V
  go_enter Try.func88, Try.ntmps88
  go_wp2_with fail
  refine (iIsKnown _ _ _ hn _).mono ?_
  rw [unhide B1]
  rintro e w1 ⟨rfl, hb1⟩
  have hB1 : Below w.heap.size w w1 := btr (bal (bal (bal (brf w) _) _) _) hb1
  obtain ⟨v0_1, v1_1, v2_1⟩ : VB (w.heap.size) n k h w1 := by refine VB_later hb1 ⟨?_, ?_, ?_⟩ <;> go_simp
  obtain ⟨u0_1, u1_1, u2_1⟩ : VB (w.heap.size + 1) m p q w1 := by refine VB_later hb1 ⟨?_, ?_, ?_⟩ <;> go_simp
  have Xr1 : RB (w.heap.size + 1 + 1) w1 := by refine RB_later hb1 ⟨.int .i64 0, .int .u64 0, .int .u64 0, ?_, ?_, ?_, ?_, ?_, ?_⟩ <;> go_simp
  go_wp2_with fail
  refine (iIsKnown _ _ _ hm _).mono ?_
  rw [unhide B2]
  rintro e w2 ⟨rfl, hb2⟩
  have hB2 := btr hB1 hb2
  obtain ⟨v0_2, v1_2, v2_2⟩ : VB (w.heap.size) n k h w2 := VB_later hb2 ⟨v0_1, v1_1, v2_1⟩
  obtain ⟨u0_2, u1_2, u2_2⟩ : VB (w.heap.size + 1) m p q w2 := VB_later hb2 ⟨u0_1, u1_1, u2_1⟩
  have Xr2 := RB_later hb2 Xr1
  go_wp2_with fail
  refine (iUnknown n _).mono ?_
  rintro e w3 ⟨rfl, hb3⟩
  have hB3 := btr hB2 hb3
  obtain ⟨v0_3, v1_3, v2_3⟩ : VB (w.heap.size) n k h w3 := VB_later hb3 ⟨v0_2, v1_2, v2_2⟩
  obtain ⟨u0_3, u1_3, u2_3⟩ : VB (w.heap.size + 1) m p q w3 := VB_later hb3 ⟨u0_2, u1_2, u2_2⟩
  have Xr3 := RB_later hb3 Xr2
  obtain ⟨x0, y0, z0, c0, c1, c2, f0, f1, f2⟩ := Xr3
  have h2 : w.heap.size ≤ w.heap.size + 1 + 1 := by omega
  unfold V
  go_wp2
  exact bodyPost_ret (v := V n (0#64) (0#64)) (by simp [results, Try.results88, go_sem, V, c0, c1, c2]) rfl ⟨rfl, bst (bst (bst hB3 h2 _) h2 _) h2 _⟩
set_option maxRecDepth 100000 in
set_option maxHeartbeats 400000 in
theorem iQuotC (n m : Nat) (k h p q : BitVec 64) (sg : Bool) (hn : n ≤ 64) (hm : m ≤ 64) (h1 : k = Vb.ones n) (h2 : p = Vb.ones m) (h3 : q = 0#64) (w : World) :
    Calls Try.prog 88 #[V n k h, V m p q, .bool sg] w fun e w' => e = .returned (V n 0#64 0#64) ∧ Below w.heap.size w w' := by
  have b1 : (k == Vb.ones n) = true := by simp [h1]
  have B1 := hide b1
  have b2 : (p == Vb.ones m) = true := by simp [h2]
  have B2 := hide b2
  subst h3
  have z0 : (U 0#64 == 0) = true := rfl
  clear h1 b1 h2 b2
  unfold V
  go_enter Try.func88, Try.ntmps88
  go_wp2_with fail
  refine (iIsKnown _ _ _ hn _).mono ?_
  rw [unhide B1]
  rintro e w1 ⟨rfl, hb1⟩
  have hB1 : Below w.heap.size w w1 := btr (bal (bal (bal (brf w) _) _) _) hb1
  obtain ⟨v0_1, v1_1, v2_1⟩ : VB (w.heap.size) n k h w1 := by refine VB_later hb1 ⟨?_, ?_, ?_⟩ <;> go_simp
  obtain ⟨u0_1, u1_1, u2_1⟩ : VB (w.heap.size + 1) m p 0#64 w1 := by refine VB_later hb1 ⟨?_, ?_, ?_⟩ <;> go_simp
  have Xr1 : RB (w.heap.size + 1 + 1) w1 := by refine RB_later hb1 ⟨.int .i64 0, .int .u64 0, .int .u64 0, ?_, ?_, ?_, ?_, ?_, ?_⟩ <;> go_simp
  go_wp2_with fail
  refine (iIsKnown _ _ _ hm _).mono ?_
  rw [unhide B2]
  rintro e w2 ⟨rfl, hb2⟩
  have hB2 := btr hB1 hb2
  obtain ⟨v0_2, v1_2, v2_2⟩ : VB (w.heap.size) n k h w2 := VB_later hb2 ⟨v0_1, v1_1, v2_1⟩
  obtain ⟨u0_2, u1_2, u2_2⟩ : VB (w.heap.size + 1) m p 0#64 w2 := VB_later hb2 ⟨u0_1, u1_1, u2_1⟩
  have Xr2 := RB_later hb2 Xr1
  go_wp2_with fail
  refine (iUnknown n _).mono ?_
  rintro e w3 ⟨rfl, hb3⟩
  have hB3 := btr hB2 hb3
  obtain ⟨v0_3, v1_3, v2_3⟩ : VB (w.heap.size) n k h w3 := VB_later hb3 ⟨v0_2, v1_2, v2_2⟩
  obtain ⟨u0_3, u1_3, u2_3⟩ : VB (w.heap.size + 1) m p 0#64 w3 := VB_later hb3 ⟨u0_2, u1_2, u2_2⟩
  have Xr3 := RB_later hb3 Xr2
  obtain ⟨x0, y0, z0, c0, c1, c2, f0, f1, f2⟩ := Xr3
  have h2 : w.heap.size ≤ w.heap.size + 1 + 1 := by omega
  unfold V
  go_wp2
  exact bodyPost_ret (v := V n (0#64) (0#64)) (by simp [results, Try.results88, go_sem, V, c0, c1, c2]) rfl ⟨rfl, bst (bst (bst hB3 h2 _) h2 _) h2 _⟩
theorem U_div (x y : BitVec 64) : U x / U y = U (x / y) := by unfold U; rw [BitVec.toNat_udiv]; rfl
theorem U_tdiv (x y : BitVec 64) : (U x).tdiv (U y) = U (x / y) := by rw [Int.tdiv_eq_ediv_of_nonneg (U_nonneg x), U_div]
theorem U_self (x : BitVec 64) : IntKind.u64.wrap (U x) = U x := by rw [U_wrap]; unfold U; simp
theorem tdiv_fits (X Y : Int) (hd : ¬ Y = -1) (hY0 : ¬ Y = 0) (bX : -9223372036854775808 ≤ X ∧ X ≤ 9223372036854775807) : IntKind.i64.wrap (X.tdiv Y) = X.tdiv Y := by
  have h1 : (X.tdiv Y).natAbs = X.natAbs / Y.natAbs := Int.natAbs_tdiv X Y
  by_cases hy : Y = 1
  · subst hy; rw [Int.tdiv_one, IntKind.wrap_i64]; omega
  · have h2 : 2 ≤ Y.natAbs := by omega
    have h3 : X.natAbs / Y.natAbs ≤ X.natAbs / 2 := Nat.div_le_div_left h2 (by decide)
    rw [IntKind.wrap_i64]; omega
set_option maxRecDepth 100000 in
set_option maxHeartbeats 400000 in
theorem iQuotD (n m : Nat) (k h p q : BitVec 64) (hn : n ≤ 64) (hm : m ≤ 64) (h1 : k = Vb.ones n) (h2 : p = Vb.ones m) (h3 : ¬ q = 0#64)  (w : World) :
    Calls Try.prog 88 #[V n k h, V m p q, .bool false] w fun e w' => e = .returned (V n (Vb.ones n) (h / q &&& Vb.ones n)) ∧ Below w.heap.size w w' := by
  have b1 : (k == Vb.ones n) = true := by simp [h1]
  have B1 := hide b1
  have b2 : (p == Vb.ones m) = true := by simp [h2]
  have B2 := hide b2
  have z0 : (q == 0#64) = false := by simp [h3]
  have z1 : (U q == 0) = false := by rw [show (0 : Int) = U 0#64 from rfl, U_beq]; exact z0
  clear h1 b1 h2 b2 h3
  unfold V
  go_enter Try.func88, Try.ntmps88
  go_wp2_with fail
  refine (iIsKnown _ _ _ hn _).mono ?_
  rw [unhide B1]
  rintro e w1 ⟨rfl, hb1⟩
  have hB1 : Below w.heap.size w w1 := btr (bal (bal (bal (brf w) _) _) _) hb1
  obtain ⟨v0_1, v1_1, v2_1⟩ : VB (w.heap.size) n k h w1 := by refine VB_later hb1 ⟨?_, ?_, ?_⟩ <;> go_simp
  obtain ⟨u0_1, u1_1, u2_1⟩ : VB (w.heap.size + 1) m p q w1 := by refine VB_later hb1 ⟨?_, ?_, ?_⟩ <;> go_simp
  have Xr1 : RB (w.heap.size + 1 + 1) w1 := by refine RB_later hb1 ⟨.int .i64 0, .int .u64 0, .int .u64 0, ?_, ?_, ?_, ?_, ?_, ?_⟩ <;> go_simp
  go_wp2_with fail
  refine (iIsKnown _ _ _ hm _).mono ?_
  rw [unhide B2]
  rintro e w2 ⟨rfl, hb2⟩
  have hB2 := btr hB1 hb2
  obtain ⟨v0_2, v1_2, v2_2⟩ : VB (w.heap.size) n k h w2 := VB_later hb2 ⟨v0_1, v1_1, v2_1⟩
  obtain ⟨u0_2, u1_2, u2_2⟩ : VB (w.heap.size + 1) m p q w2 := VB_later hb2 ⟨u0_1, u1_1, u2_1⟩
  have Xr2 := RB_later hb2 Xr1
  have hqp : ¬ U q = 0 := by intro e; rw [e] at z1; exact absurd z1 (by decide)
  have hdv := U_tdiv h q
  have hdw := U_self (h / q)
  generalize hA : h / q = D at *
  have HAq := hide hA
  clear hA
  have HN : Hid (∀ w, Calls Try.prog 77 #[.int .u64 (U D), .int .i64 n] w fun e w' => e = .returned (V n (Vb.ones n) (D &&& Vb.ones n)) ∧ Below w.heap.size w w') := fun w => iNumber n D hn w
  go_wp2_with fail
  go_region_held3 (fun w' => w'.cell? ⟨w.heap.size, 0, none⟩ = some (.int .i64 n) ∧ w'.cell? ⟨w.heap.size, 1, none⟩ = some (.int .u64 (U k)) ∧ w'.cell? ⟨w.heap.size, 2, none⟩ = some (.int .u64 (U h)) ∧ w'.cell? ⟨w.heap.size + 1, 0, none⟩ = some (.int .i64 m) ∧ w'.cell? ⟨w.heap.size + 1, 1, none⟩ = some (.int .u64 (U p)) ∧ w'.cell? ⟨w.heap.size + 1, 2, none⟩ = some (.int .u64 (U q))) (first | (go_simp; done) | (refine ⟨?_, ?_, ?_, ?_, ?_, ?_⟩ <;> (refine cell_later hb ?_; go_simp)) | go_keep) (first | (go_at_call 77; refine (unhide HN _).mono ?_; rintro e w5 ⟨rfl, hb⟩; have hBz := btr (bdr hB2) hb; obtain ⟨x0, y0, zz, c0, c1, c2, f0, f1, f2⟩ := RB_later hb Xr2; unfold V))
  go_wp2
  have h2 : w.heap.size ≤ w.heap.size + 1 + 1 := by omega
  exact bodyPost_ret (v := V n (Vb.ones n) (D &&& Vb.ones n)) (by simp [results, Try.results88, go_sem, V, c0, c1, c2]) rfl ⟨by rw [unhide HAq]; rfl, bst (bst (bst hBz h2 _) h2 _) h2 _⟩
set_option maxRecDepth 100000 in
set_option maxHeartbeats 400000 in
theorem iQuotE (n m : Nat) (k h p q : BitVec 64) (hn : n ≤ 64) (hm : m ≤ 64) (h1 : k = Vb.ones n) (h2 : p = Vb.ones m) (h3 : ¬ q = 0#64) (X Y : Int) (hX : sgn n h = X) (hY : sgn m q = Y) (hd : Y = -1) (w : World) :
    Calls Try.prog 88 #[V n k h, V m p q, .bool true] w fun e w' => e = .returned (V n (rkK n n (Vb.ones n) k) (rkH n n (Vb.ones n) k (0#64 - h))) ∧ Below w.heap.size w w' := by
  have b1 : (k == Vb.ones n) = true := by simp [h1]
  have B1 := hide b1
  have b2 : (p == Vb.ones m) = true := by simp [h2]
  have B2 := hide b2
  have z0 : (q == 0#64) = false := by simp [h3]
  have z1 : (U q == 0) = false := by rw [show (0 : Int) = U 0#64 from rfl, U_beq]; exact z0
  have HXA : Hid (∀ w, Calls Try.prog 50 #[.agg #[.int .i64 n, .int .u64 (U k), .int .u64 (U h)]] w fun e w' => e = .returned (.int .i64 X) ∧ Below w.heap.size w w') := fun w => by
    have := iSigned n k h hn w
    rw [hX] at this; exact this
  have HXB : Hid (∀ w, Calls Try.prog 50 #[.agg #[.int .i64 m, .int .u64 (U p), .int .u64 (U q)]] w fun e w' => e = .returned (.int .i64 Y) ∧ Below w.heap.size w w') := fun w => by
    have := iSigned m p q hm w
    rw [hY] at this; exact this
  clear h1 b1 h2 b2 h3 hX hY
  generalize hA : rkK n n (Vb.ones n) k = A at *
  generalize hB : rkH n n (Vb.ones n) k (0#64 - h) = B at *
  have HA1 := hide hA
  have HA2 := hide hB
  clear hA hB
  unfold V
  go_enter Try.func88, Try.ntmps88
  go_wp2_with fail
  refine (iIsKnown _ _ _ hn _).mono ?_
  rw [unhide B1]
  rintro e w1 ⟨rfl, hb1⟩
  have hB1 : Below w.heap.size w w1 := btr (bal (bal (bal (brf w) _) _) _) hb1
  obtain ⟨v0_1, v1_1, v2_1⟩ : VB (w.heap.size) n k h w1 := by refine VB_later hb1 ⟨?_, ?_, ?_⟩ <;> go_simp
  obtain ⟨u0_1, u1_1, u2_1⟩ : VB (w.heap.size + 1) m p q w1 := by refine VB_later hb1 ⟨?_, ?_, ?_⟩ <;> go_simp
  have Xr1 : RB (w.heap.size + 1 + 1) w1 := by refine RB_later hb1 ⟨.int .i64 0, .int .u64 0, .int .u64 0, ?_, ?_, ?_, ?_, ?_, ?_⟩ <;> go_simp
  go_wp2_with fail
  refine (iIsKnown _ _ _ hm _).mono ?_
  rw [unhide B2]
  rintro e w2 ⟨rfl, hb2⟩
  have hB2 := btr hB1 hb2
  obtain ⟨v0_2, v1_2, v2_2⟩ : VB (w.heap.size) n k h w2 := VB_later hb2 ⟨v0_1, v1_1, v2_1⟩
  obtain ⟨u0_2, u1_2, u2_2⟩ : VB (w.heap.size + 1) m p q w2 := VB_later hb2 ⟨u0_1, u1_1, u2_1⟩
  have Xr2 := RB_later hb2 Xr1
  subst hd
  go_wp2_with fail
  refine (unhide HXB _).mono ?_
  rintro e w3 ⟨rfl, hb3⟩
  have hB3 := btr hB2 hb3
  obtain ⟨v0_3, v1_3, v2_3⟩ : VB (w.heap.size) n k h w3 := VB_later hb3 ⟨v0_2, v1_2, v2_2⟩
  obtain ⟨u0_3, u1_3, u2_3⟩ : VB (w.heap.size + 1) m p q w3 := VB_later hb3 ⟨u0_2, u1_2, u2_2⟩
  have Xr3 := RB_later hb3 Xr2
  go_wp2_with fail
  refine (iNeg _ _ _ hn _).mono ?_
  rw [unhide HA1, unhide HA2]
  rintro e w4 ⟨rfl, hb4⟩
  have hB4 := btr hB3 hb4
  obtain ⟨v0_4, v1_4, v2_4⟩ : VB (w.heap.size) n k h w4 := VB_later hb4 ⟨v0_3, v1_3, v2_3⟩
  obtain ⟨u0_4, u1_4, u2_4⟩ : VB (w.heap.size + 1) m p q w4 := VB_later hb4 ⟨u0_3, u1_3, u2_3⟩
  have Xr4 := RB_later hb4 Xr3
  obtain ⟨x0, y0, z0, c0, c1, c2, f0, f1, f2⟩ := Xr4
  have h2 : w.heap.size ≤ w.heap.size + 1 + 1 := by omega
  unfold V
  go_wp2
  exact bodyPost_ret (v := V n (A) (B)) (by simp [results, Try.results88, go_sem, V, c0, c1, c2]) rfl ⟨rfl, bst (bst (bst hB4 h2 _) h2 _) h2 _⟩
set_option maxRecDepth 100000 in
set_option maxHeartbeats 400000 in
theorem iQuotF (n m : Nat) (k h p q : BitVec 64) (hn : n ≤ 64) (hm : m ≤ 64) (h1 : k = Vb.ones n) (h2 : p = Vb.ones m) (h3 : ¬ q = 0#64) (X Y : Int) (hX : sgn n h = X) (hY : sgn m q = Y) (hd : ¬ Y = -1) (hY0 : ¬ Y = 0) (bX : -9223372036854775808 ≤ X ∧ X ≤ 9223372036854775807) (bY : -9223372036854775808 ≤ Y ∧ Y ≤ 9223372036854775807) (w : World) :
    Calls Try.prog 88 #[V n k h, V m p q, .bool true] w fun e w' => e = .returned (V n (Vb.ones n) (BitVec.ofInt 64 (X.tdiv Y) &&& Vb.ones n)) ∧ Below w.heap.size w w' := by
  have b1 : (k == Vb.ones n) = true := by simp [h1]
  have B1 := hide b1
  have b2 : (p == Vb.ones m) = true := by simp [h2]
  have B2 := hide b2
  have z0 : (q == 0#64) = false := by simp [h3]
  have z1 : (U q == 0) = false := by rw [show (0 : Int) = U 0#64 from rfl, U_beq]; exact z0
  have HXA : Hid (∀ w, Calls Try.prog 50 #[.agg #[.int .i64 n, .int .u64 (U k), .int .u64 (U h)]] w fun e w' => e = .returned (.int .i64 X) ∧ Below w.heap.size w w') := fun w => by
    have := iSigned n k h hn w
    rw [hX] at this; exact this
  have HXB : Hid (∀ w, Calls Try.prog 50 #[.agg #[.int .i64 m, .int .u64 (U p), .int .u64 (U q)]] w fun e w' => e = .returned (.int .i64 Y) ∧ Below w.heap.size w w') := fun w => by
    have := iSigned m p q hm w
    rw [hY] at this; exact this
  clear h1 b1 h2 b2 h3 hX hY
  have w1e := tdiv_fits X Y hd hY0 bX
  have w2e : IntKind.u64.wrap (X.tdiv Y) = U (BitVec.ofInt 64 (X.tdiv Y)) := U_wrap _
  have y0e : (Y == 0) = false := by rw [beq_eq_false_iff_ne]; exact hY0
  have hN0 : ∀ w, Calls Try.prog 77 #[.int .u64 (IntKind.u64.wrap (IntKind.i64.wrap (X.tdiv Y))), .int .i64 n] w fun e w' => e = .returned (V n (Vb.ones n) (BitVec.ofInt 64 (X.tdiv Y) &&& Vb.ones n)) ∧ Below w.heap.size w w' := fun w => by
    rw [w1e, w2e]; exact iNumber n _ hn w
  generalize BitVec.ofInt 64 (X.tdiv Y) = D at *
  have HN := hide hN0
  clear w1e w2e hN0
  unfold V
  go_enter Try.func88, Try.ntmps88
  go_wp2_with fail
  refine (iIsKnown _ _ _ hn _).mono ?_
  rw [unhide B1]
  rintro e w1 ⟨rfl, hb1⟩
  have hB1 : Below w.heap.size w w1 := btr (bal (bal (bal (brf w) _) _) _) hb1
  obtain ⟨v0_1, v1_1, v2_1⟩ : VB (w.heap.size) n k h w1 := by refine VB_later hb1 ⟨?_, ?_, ?_⟩ <;> go_simp
  obtain ⟨u0_1, u1_1, u2_1⟩ : VB (w.heap.size + 1) m p q w1 := by refine VB_later hb1 ⟨?_, ?_, ?_⟩ <;> go_simp
  have Xr1 : RB (w.heap.size + 1 + 1) w1 := by refine RB_later hb1 ⟨.int .i64 0, .int .u64 0, .int .u64 0, ?_, ?_, ?_, ?_, ?_, ?_⟩ <;> go_simp
  go_wp2_with fail
  refine (iIsKnown _ _ _ hm _).mono ?_
  rw [unhide B2]
  rintro e w2 ⟨rfl, hb2⟩
  have hB2 := btr hB1 hb2
  obtain ⟨v0_2, v1_2, v2_2⟩ : VB (w.heap.size) n k h w2 := VB_later hb2 ⟨v0_1, v1_1, v2_1⟩
  obtain ⟨u0_2, u1_2, u2_2⟩ : VB (w.heap.size + 1) m p q w2 := VB_later hb2 ⟨u0_1, u1_1, u2_1⟩
  have Xr2 := RB_later hb2 Xr1
  have hyd : (Y == -1) = false := by rw [beq_eq_false_iff_ne]; exact hd
  go_wp2_with fail
  refine (unhide HXB _).mono ?_
  rintro e w3 ⟨rfl, hb3⟩
  have hB3 := btr hB2 hb3
  obtain ⟨v0_3, v1_3, v2_3⟩ : VB (w.heap.size) n k h w3 := VB_later hb3 ⟨v0_2, v1_2, v2_2⟩
  obtain ⟨u0_3, u1_3, u2_3⟩ : VB (w.heap.size + 1) m p q w3 := VB_later hb3 ⟨u0_2, u1_2, u2_2⟩
  have Xr3 := RB_later hb3 Xr2
  go_wp2_with fail
  go_region_held3 (fun w' => w'.cell? ⟨w.heap.size, 0, none⟩ = some (.int .i64 n) ∧ w'.cell? ⟨w.heap.size, 1, none⟩ = some (.int .u64 (U k)) ∧ w'.cell? ⟨w.heap.size, 2, none⟩ = some (.int .u64 (U h)) ∧ w'.cell? ⟨w.heap.size + 1, 0, none⟩ = some (.int .i64 m) ∧ w'.cell? ⟨w.heap.size + 1, 1, none⟩ = some (.int .u64 (U p)) ∧ w'.cell? ⟨w.heap.size + 1, 2, none⟩ = some (.int .u64 (U q))) (first | (go_simp; done) | (refine ⟨?_, ?_, ?_, ?_, ?_, ?_⟩ <;> (refine cell_later hb ?_; go_simp)) | go_keep) (first | (go_at_call 50; first | (have R4x := R4; refine (unhide HXB _).mono ?_; rintro e w5 ⟨rfl, hb⟩; have R5 := RB_later hb R4; have hB5 := btr hB4 hb) | (refine (unhide HXA _).mono ?_; rintro e w4 ⟨rfl, hb⟩; have R4 := RB_later hb Xr3; have hB4 := btr (bdr hB3) hb)) | (go_at_call 77; refine (unhide HN _).mono ?_; rintro e w6 ⟨rfl, hb⟩; have hBz := btr hB5 hb; obtain ⟨x0, y0, zz, c0, c1, c2, f0, f1, f2⟩ := RB_later hb R5; unfold V))
  go_wp2
  have h2 : w.heap.size ≤ w.heap.size + 1 + 1 := by omega
  exact bodyPost_ret (v := V n (Vb.ones n) (D &&& Vb.ones n)) (by simp [results, Try.results88, go_sem, V, c0, c1, c2]) rfl ⟨rfl, bst (bst (bst hBz h2 _) h2 _) h2 _⟩
end Go.Proofs.Ytmbllgblbdfobaa
