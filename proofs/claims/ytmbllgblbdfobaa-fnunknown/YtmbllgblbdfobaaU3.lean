/- What the program's reckon, add, sub, mul, neg, all, none, odd answer. -/
import Derived.Test.YtmbllgblbdfobaaG6UM
import Derived.Test.YtmbllgblbdfobaaG2I1
namespace Go.Proofs.Ytmbllgblbdfobaa
open Go.RowKit
attribute [local go_sem] U_and U_or U_xor U_andNot U_shl U_shr U_shl1 U_or1 U_and1 U_toNat U_nonneg U_low U_beq U_bne
theorem ret_u64' {a b : Int} (h : a = b) : Ending.returned (.int .u64 a) = .returned (.int .u64 b) := by rw [h]
theorem U_sub (x y : BitVec 64) : IntKind.u64.wrap (U x - U y) = U (x - y) := by
  rw [IntKind.wrap_u64]; unfold U; rw [BitVec.toNat_sub]; have := x.isLt; have := y.isLt; omega
theorem U_mul (x y : BitVec 64) : IntKind.u64.wrap (U x * U y) = U (x * y) := by
  rw [IntKind.wrap_u64]; unfold U; rw [BitVec.toNat_mul, Int.natCast_emod, Int.natCast_mul]; rfl
/-- Function F answers f of two words. -/
def Ans (F : Nat) (f : BitVec 64 → BitVec 64 → BitVec 64) : Prop := ∀ a b w, Calls Try.prog F #[.int .u64 (U a), .int .u64 (U b)] w fun e w' => e = .returned (.int .u64 (U (f a b))) ∧ w = w'
set_option maxHeartbeats 400000 in
theorem ans_add : Ans 119 (· + ·) := by
  intro a b w
  go_enter Try.func119, Try.ntmps119
  go_wp2
  go_ret
  exact ⟨ret_u64' (U_add a b), rfl⟩
set_option maxHeartbeats 400000 in
theorem ans_sub : Ans 120 (· - ·) := by
  intro a b w
  go_enter Try.func120, Try.ntmps120
  go_wp2
  go_ret
  exact ⟨ret_u64' (U_sub a b), rfl⟩
set_option maxHeartbeats 400000 in
theorem ans_mul : Ans 121 (· * ·) := by
  intro a b w
  go_enter Try.func121, Try.ntmps121
  go_wp2
  go_ret
  exact ⟨ret_u64' (U_mul a b), rfl⟩
/-- The words of what reckon answers. -/
def rkK (n m : Nat) (k p : BitVec 64) : BitVec 64 := if k = Vb.ones n ∧ p = Vb.ones m then Vb.ones n else 0#64
def rkH (n m : Nat) (k p x : BitVec 64) : BitVec 64 := if k = Vb.ones n ∧ p = Vb.ones m then x &&& Vb.ones n else 0#64
set_option maxHeartbeats 400000 in
theorem iReckon119 (f : BitVec 64 → BitVec 64 → BitVec 64) (hF : Ans 119 f) (n m : Nat) (k h p q : BitVec 64) (hn : n ≤ 64) (hm : m ≤ 64) (w : World) :
    Calls Try.prog 118 #[V n k h, V m p q, .func (.func 119) #[] #[]] w fun e w' => e = .returned (V n (rkK n m k p) (rkH n m k p (f h q))) ∧ Below w.heap.size w w' := by
  have HF := hide hF
  clear hF
  by_cases h1 : k = Vb.ones n
  · have b1 : (k == Vb.ones n) = true := by simp [h1]
    by_cases h2 : p = Vb.ones m
    · have b2 : (p == Vb.ones m) = true := by simp [h2]
      rw [rkK, rkH, if_pos ⟨h1, h2⟩, if_pos ⟨h1, h2⟩]
      have B1 := hide b1
      have B2 := hide b2
      clear h1 h2 b1 b2
      unfold V
      go_enter Try.func118, Try.ntmps118
      go_wp2_with fail
      refine (iIsKnown _ _ _ hn _).mono ?_
      rw [unhide B1]
      rintro e w1 ⟨rfl, hb1⟩
      have hB1 : Below w.heap.size w w1 := btr (bal (bal (bal (brf w) _) _) _) hb1
      have Xv : VB w.heap.size n k h w1 := by refine VB_later hb1 ⟨?_, ?_, ?_⟩ <;> go_simp
      have Xw : VB (w.heap.size + 1) m p q w1 := by refine VB_later hb1 ⟨?_, ?_, ?_⟩ <;> go_simp
      have Xr : RB (w.heap.size + 1 + 1) w1 := by refine RB_later hb1 ⟨.int .i64 0, .int .u64 0, .int .u64 0, ?_, ?_, ?_, ?_, ?_, ?_⟩ <;> go_simp
      obtain ⟨v0, v1, v2⟩ := Xv
      obtain ⟨u0, u1, u2⟩ := Xw
      go_wp2_with fail
      refine (iIsKnown _ _ _ hm _).mono ?_
      rw [unhide B2]
      rintro e w2 ⟨rfl, hb2⟩
      obtain ⟨v0', v1', v2'⟩ := VB_later hb2 ⟨v0, v1, v2⟩
      obtain ⟨u0', u1', u2'⟩ := VB_later hb2 ⟨u0, u1, u2⟩
      have Xr2 := RB_later hb2 Xr
      have hB2 := btr hB1 hb2
      go_wp2_with fail
      go_region_held3 (fun w' => w'.cell? ⟨w.heap.size, 0, none⟩ = some (.int .i64 n) ∧ w'.cell? ⟨w.heap.size, 1, none⟩ = some (.int .u64 (U k)) ∧ w'.cell? ⟨w.heap.size, 2, none⟩ = some (.int .u64 (U h)) ∧ w'.cell? ⟨w.heap.size + 1, 0, none⟩ = some (.int .i64 m) ∧ w'.cell? ⟨w.heap.size + 1, 1, none⟩ = some (.int .u64 (U p)) ∧ w'.cell? ⟨w.heap.size + 1, 2, none⟩ = some (.int .u64 (U q))) (first | (go_simp; done) | (refine ⟨?_, ?_, ?_, ?_, ?_, ?_⟩ <;> (refine cell_later hb ?_; go_simp)) | go_keep) (first | (go_at_call 119; refine (unhide HF _ _ _).mono ?_; rintro e w' ⟨rfl, rfl⟩) | (go_at_call 77; refine (iNumber _ _ hn _).mono ?_; rintro e w4 ⟨rfl, hb⟩; have R4 := RB_later hb Xr2; obtain ⟨x0, y0, z0, c0, c1, c2, f0, f1, f2⟩ := R4; unfold V))
      go_wp2
      have h2 : w.heap.size ≤ w.heap.size + 1 + 1 := by omega
      refine bodyPost_ret (v := V n (Vb.ones n) (f h q &&& Vb.ones n)) (by simp [results, Try.results118, go_sem, V, c0, c1, c2]) rfl ⟨rfl, ?_⟩
      exact bst (bst (bst (btr (bdr hB2) hb) h2 _) h2 _) h2 _
    · have b2 : (p == Vb.ones m) = false := by simp [h2]
      rw [rkK, rkH, if_neg (fun h => h2 h.2), if_neg (fun h => h2 h.2)]
      have B1 := hide b1
      have B2 := hide b2
      clear h1 h2 b1 b2
      unfold V
      go_enter Try.func118, Try.ntmps118
      go_wp2_with fail
      refine (iIsKnown _ _ _ hn _).mono ?_
      rw [unhide B1]
      rintro e w1 ⟨rfl, hb1⟩
      have hB1 : Below w.heap.size w w1 := btr (bal (bal (bal (brf w) _) _) _) hb1
      have Xv : VB w.heap.size n k h w1 := by refine VB_later hb1 ⟨?_, ?_, ?_⟩ <;> go_simp
      have Xw : VB (w.heap.size + 1) m p q w1 := by refine VB_later hb1 ⟨?_, ?_, ?_⟩ <;> go_simp
      have Xr : RB (w.heap.size + 1 + 1) w1 := by refine RB_later hb1 ⟨.int .i64 0, .int .u64 0, .int .u64 0, ?_, ?_, ?_, ?_, ?_, ?_⟩ <;> go_simp
      obtain ⟨v0, v1, v2⟩ := Xv
      obtain ⟨u0, u1, u2⟩ := Xw
      go_wp2_with fail
      refine (iIsKnown _ _ _ hm _).mono ?_
      rw [unhide B2]
      rintro e w2 ⟨rfl, hb2⟩
      obtain ⟨v0', v1', v2'⟩ := VB_later hb2 ⟨v0, v1, v2⟩
      obtain ⟨u0', u1', u2'⟩ := VB_later hb2 ⟨u0, u1, u2⟩
      have Xr2 := RB_later hb2 Xr
      have hB2 := btr hB1 hb2
      go_wp2_with fail
      refine (iUnknown n _).mono ?_
      rintro e w4 ⟨rfl, hb4⟩
      obtain ⟨x0, y0, z0, c0, c1, c2, f0, f1, f2⟩ := RB_later hb4 Xr2
      have h2 : w.heap.size ≤ w.heap.size + 1 + 1 := by omega
      unfold V
      go_wp2
      exact bodyPost_ret (v := V n 0#64 0#64) (by simp [results, Try.results118, go_sem, V, c0, c1, c2]) rfl ⟨rfl, bst (bst (bst (btr hB2 hb4) h2 _) h2 _) h2 _⟩
  · have b1 : (k == Vb.ones n) = false := by simp [h1]
    rw [rkK, rkH, if_neg (fun h => h1 h.1), if_neg (fun h => h1 h.1)]
    have B1 := hide b1
    clear h1 b1
    unfold V
    go_enter Try.func118, Try.ntmps118
    go_wp2_with fail
    refine (iIsKnown _ _ _ hn _).mono ?_
    rw [unhide B1]
    rintro e w1 ⟨rfl, hb1⟩
    have hB1 : Below w.heap.size w w1 := btr (bal (bal (bal (brf w) _) _) _) hb1
    have Xv : VB w.heap.size n k h w1 := by refine VB_later hb1 ⟨?_, ?_, ?_⟩ <;> go_simp
    have Xw : VB (w.heap.size + 1) m p q w1 := by refine VB_later hb1 ⟨?_, ?_, ?_⟩ <;> go_simp
    have Xr : RB (w.heap.size + 1 + 1) w1 := by refine RB_later hb1 ⟨.int .i64 0, .int .u64 0, .int .u64 0, ?_, ?_, ?_, ?_, ?_, ?_⟩ <;> go_simp
    obtain ⟨v0, v1, v2⟩ := Xv
    obtain ⟨u0, u1, u2⟩ := Xw
    go_wp2_with fail
    refine (iUnknown n _).mono ?_
    rintro e w4 ⟨rfl, hb4⟩
    obtain ⟨x0, y0, z0, c0, c1, c2, f0, f1, f2⟩ := RB_later hb4 Xr
    have h2 : w.heap.size ≤ w.heap.size + 1 + 1 := by omega
    unfold V
    go_wp2
    exact bodyPost_ret (v := V n 0#64 0#64) (by simp [results, Try.results118, go_sem, V, c0, c1, c2]) rfl ⟨rfl, bst (bst (bst (btr hB1 hb4) h2 _) h2 _) h2 _⟩
set_option maxHeartbeats 400000 in
theorem iReckon120 (f : BitVec 64 → BitVec 64 → BitVec 64) (hF : Ans 120 f) (n m : Nat) (k h p q : BitVec 64) (hn : n ≤ 64) (hm : m ≤ 64) (w : World) :
    Calls Try.prog 118 #[V n k h, V m p q, .func (.func 120) #[] #[]] w fun e w' => e = .returned (V n (rkK n m k p) (rkH n m k p (f h q))) ∧ Below w.heap.size w w' := by
  have HF := hide hF
  clear hF
  by_cases h1 : k = Vb.ones n
  · have b1 : (k == Vb.ones n) = true := by simp [h1]
    by_cases h2 : p = Vb.ones m
    · have b2 : (p == Vb.ones m) = true := by simp [h2]
      rw [rkK, rkH, if_pos ⟨h1, h2⟩, if_pos ⟨h1, h2⟩]
      have B1 := hide b1
      have B2 := hide b2
      clear h1 h2 b1 b2
      unfold V
      go_enter Try.func118, Try.ntmps118
      go_wp2_with fail
      refine (iIsKnown _ _ _ hn _).mono ?_
      rw [unhide B1]
      rintro e w1 ⟨rfl, hb1⟩
      have hB1 : Below w.heap.size w w1 := btr (bal (bal (bal (brf w) _) _) _) hb1
      have Xv : VB w.heap.size n k h w1 := by refine VB_later hb1 ⟨?_, ?_, ?_⟩ <;> go_simp
      have Xw : VB (w.heap.size + 1) m p q w1 := by refine VB_later hb1 ⟨?_, ?_, ?_⟩ <;> go_simp
      have Xr : RB (w.heap.size + 1 + 1) w1 := by refine RB_later hb1 ⟨.int .i64 0, .int .u64 0, .int .u64 0, ?_, ?_, ?_, ?_, ?_, ?_⟩ <;> go_simp
      obtain ⟨v0, v1, v2⟩ := Xv
      obtain ⟨u0, u1, u2⟩ := Xw
      go_wp2_with fail
      refine (iIsKnown _ _ _ hm _).mono ?_
      rw [unhide B2]
      rintro e w2 ⟨rfl, hb2⟩
      obtain ⟨v0', v1', v2'⟩ := VB_later hb2 ⟨v0, v1, v2⟩
      obtain ⟨u0', u1', u2'⟩ := VB_later hb2 ⟨u0, u1, u2⟩
      have Xr2 := RB_later hb2 Xr
      have hB2 := btr hB1 hb2
      go_wp2_with fail
      go_region_held3 (fun w' => w'.cell? ⟨w.heap.size, 0, none⟩ = some (.int .i64 n) ∧ w'.cell? ⟨w.heap.size, 1, none⟩ = some (.int .u64 (U k)) ∧ w'.cell? ⟨w.heap.size, 2, none⟩ = some (.int .u64 (U h)) ∧ w'.cell? ⟨w.heap.size + 1, 0, none⟩ = some (.int .i64 m) ∧ w'.cell? ⟨w.heap.size + 1, 1, none⟩ = some (.int .u64 (U p)) ∧ w'.cell? ⟨w.heap.size + 1, 2, none⟩ = some (.int .u64 (U q))) (first | (go_simp; done) | (refine ⟨?_, ?_, ?_, ?_, ?_, ?_⟩ <;> (refine cell_later hb ?_; go_simp)) | go_keep) (first | (go_at_call 120; refine (unhide HF _ _ _).mono ?_; rintro e w' ⟨rfl, rfl⟩) | (go_at_call 77; refine (iNumber _ _ hn _).mono ?_; rintro e w4 ⟨rfl, hb⟩; have R4 := RB_later hb Xr2; obtain ⟨x0, y0, z0, c0, c1, c2, f0, f1, f2⟩ := R4; unfold V))
      go_wp2
      have h2 : w.heap.size ≤ w.heap.size + 1 + 1 := by omega
      refine bodyPost_ret (v := V n (Vb.ones n) (f h q &&& Vb.ones n)) (by simp [results, Try.results118, go_sem, V, c0, c1, c2]) rfl ⟨rfl, ?_⟩
      exact bst (bst (bst (btr (bdr hB2) hb) h2 _) h2 _) h2 _
    · have b2 : (p == Vb.ones m) = false := by simp [h2]
      rw [rkK, rkH, if_neg (fun h => h2 h.2), if_neg (fun h => h2 h.2)]
      have B1 := hide b1
      have B2 := hide b2
      clear h1 h2 b1 b2
      unfold V
      go_enter Try.func118, Try.ntmps118
      go_wp2_with fail
      refine (iIsKnown _ _ _ hn _).mono ?_
      rw [unhide B1]
      rintro e w1 ⟨rfl, hb1⟩
      have hB1 : Below w.heap.size w w1 := btr (bal (bal (bal (brf w) _) _) _) hb1
      have Xv : VB w.heap.size n k h w1 := by refine VB_later hb1 ⟨?_, ?_, ?_⟩ <;> go_simp
      have Xw : VB (w.heap.size + 1) m p q w1 := by refine VB_later hb1 ⟨?_, ?_, ?_⟩ <;> go_simp
      have Xr : RB (w.heap.size + 1 + 1) w1 := by refine RB_later hb1 ⟨.int .i64 0, .int .u64 0, .int .u64 0, ?_, ?_, ?_, ?_, ?_, ?_⟩ <;> go_simp
      obtain ⟨v0, v1, v2⟩ := Xv
      obtain ⟨u0, u1, u2⟩ := Xw
      go_wp2_with fail
      refine (iIsKnown _ _ _ hm _).mono ?_
      rw [unhide B2]
      rintro e w2 ⟨rfl, hb2⟩
      obtain ⟨v0', v1', v2'⟩ := VB_later hb2 ⟨v0, v1, v2⟩
      obtain ⟨u0', u1', u2'⟩ := VB_later hb2 ⟨u0, u1, u2⟩
      have Xr2 := RB_later hb2 Xr
      have hB2 := btr hB1 hb2
      go_wp2_with fail
      refine (iUnknown n _).mono ?_
      rintro e w4 ⟨rfl, hb4⟩
      obtain ⟨x0, y0, z0, c0, c1, c2, f0, f1, f2⟩ := RB_later hb4 Xr2
      have h2 : w.heap.size ≤ w.heap.size + 1 + 1 := by omega
      unfold V
      go_wp2
      exact bodyPost_ret (v := V n 0#64 0#64) (by simp [results, Try.results118, go_sem, V, c0, c1, c2]) rfl ⟨rfl, bst (bst (bst (btr hB2 hb4) h2 _) h2 _) h2 _⟩
  · have b1 : (k == Vb.ones n) = false := by simp [h1]
    rw [rkK, rkH, if_neg (fun h => h1 h.1), if_neg (fun h => h1 h.1)]
    have B1 := hide b1
    clear h1 b1
    unfold V
    go_enter Try.func118, Try.ntmps118
    go_wp2_with fail
    refine (iIsKnown _ _ _ hn _).mono ?_
    rw [unhide B1]
    rintro e w1 ⟨rfl, hb1⟩
    have hB1 : Below w.heap.size w w1 := btr (bal (bal (bal (brf w) _) _) _) hb1
    have Xv : VB w.heap.size n k h w1 := by refine VB_later hb1 ⟨?_, ?_, ?_⟩ <;> go_simp
    have Xw : VB (w.heap.size + 1) m p q w1 := by refine VB_later hb1 ⟨?_, ?_, ?_⟩ <;> go_simp
    have Xr : RB (w.heap.size + 1 + 1) w1 := by refine RB_later hb1 ⟨.int .i64 0, .int .u64 0, .int .u64 0, ?_, ?_, ?_, ?_, ?_, ?_⟩ <;> go_simp
    obtain ⟨v0, v1, v2⟩ := Xv
    obtain ⟨u0, u1, u2⟩ := Xw
    go_wp2_with fail
    refine (iUnknown n _).mono ?_
    rintro e w4 ⟨rfl, hb4⟩
    obtain ⟨x0, y0, z0, c0, c1, c2, f0, f1, f2⟩ := RB_later hb4 Xr
    have h2 : w.heap.size ≤ w.heap.size + 1 + 1 := by omega
    unfold V
    go_wp2
    exact bodyPost_ret (v := V n 0#64 0#64) (by simp [results, Try.results118, go_sem, V, c0, c1, c2]) rfl ⟨rfl, bst (bst (bst (btr hB1 hb4) h2 _) h2 _) h2 _⟩
set_option maxHeartbeats 400000 in
theorem iReckon121 (f : BitVec 64 → BitVec 64 → BitVec 64) (hF : Ans 121 f) (n m : Nat) (k h p q : BitVec 64) (hn : n ≤ 64) (hm : m ≤ 64) (w : World) :
    Calls Try.prog 118 #[V n k h, V m p q, .func (.func 121) #[] #[]] w fun e w' => e = .returned (V n (rkK n m k p) (rkH n m k p (f h q))) ∧ Below w.heap.size w w' := by
  have HF := hide hF
  clear hF
  by_cases h1 : k = Vb.ones n
  · have b1 : (k == Vb.ones n) = true := by simp [h1]
    by_cases h2 : p = Vb.ones m
    · have b2 : (p == Vb.ones m) = true := by simp [h2]
      rw [rkK, rkH, if_pos ⟨h1, h2⟩, if_pos ⟨h1, h2⟩]
      have B1 := hide b1
      have B2 := hide b2
      clear h1 h2 b1 b2
      unfold V
      go_enter Try.func118, Try.ntmps118
      go_wp2_with fail
      refine (iIsKnown _ _ _ hn _).mono ?_
      rw [unhide B1]
      rintro e w1 ⟨rfl, hb1⟩
      have hB1 : Below w.heap.size w w1 := btr (bal (bal (bal (brf w) _) _) _) hb1
      have Xv : VB w.heap.size n k h w1 := by refine VB_later hb1 ⟨?_, ?_, ?_⟩ <;> go_simp
      have Xw : VB (w.heap.size + 1) m p q w1 := by refine VB_later hb1 ⟨?_, ?_, ?_⟩ <;> go_simp
      have Xr : RB (w.heap.size + 1 + 1) w1 := by refine RB_later hb1 ⟨.int .i64 0, .int .u64 0, .int .u64 0, ?_, ?_, ?_, ?_, ?_, ?_⟩ <;> go_simp
      obtain ⟨v0, v1, v2⟩ := Xv
      obtain ⟨u0, u1, u2⟩ := Xw
      go_wp2_with fail
      refine (iIsKnown _ _ _ hm _).mono ?_
      rw [unhide B2]
      rintro e w2 ⟨rfl, hb2⟩
      obtain ⟨v0', v1', v2'⟩ := VB_later hb2 ⟨v0, v1, v2⟩
      obtain ⟨u0', u1', u2'⟩ := VB_later hb2 ⟨u0, u1, u2⟩
      have Xr2 := RB_later hb2 Xr
      have hB2 := btr hB1 hb2
      go_wp2_with fail
      go_region_held3 (fun w' => w'.cell? ⟨w.heap.size, 0, none⟩ = some (.int .i64 n) ∧ w'.cell? ⟨w.heap.size, 1, none⟩ = some (.int .u64 (U k)) ∧ w'.cell? ⟨w.heap.size, 2, none⟩ = some (.int .u64 (U h)) ∧ w'.cell? ⟨w.heap.size + 1, 0, none⟩ = some (.int .i64 m) ∧ w'.cell? ⟨w.heap.size + 1, 1, none⟩ = some (.int .u64 (U p)) ∧ w'.cell? ⟨w.heap.size + 1, 2, none⟩ = some (.int .u64 (U q))) (first | (go_simp; done) | (refine ⟨?_, ?_, ?_, ?_, ?_, ?_⟩ <;> (refine cell_later hb ?_; go_simp)) | go_keep) (first | (go_at_call 121; refine (unhide HF _ _ _).mono ?_; rintro e w' ⟨rfl, rfl⟩) | (go_at_call 77; refine (iNumber _ _ hn _).mono ?_; rintro e w4 ⟨rfl, hb⟩; have R4 := RB_later hb Xr2; obtain ⟨x0, y0, z0, c0, c1, c2, f0, f1, f2⟩ := R4; unfold V))
      go_wp2
      have h2 : w.heap.size ≤ w.heap.size + 1 + 1 := by omega
      refine bodyPost_ret (v := V n (Vb.ones n) (f h q &&& Vb.ones n)) (by simp [results, Try.results118, go_sem, V, c0, c1, c2]) rfl ⟨rfl, ?_⟩
      exact bst (bst (bst (btr (bdr hB2) hb) h2 _) h2 _) h2 _
    · have b2 : (p == Vb.ones m) = false := by simp [h2]
      rw [rkK, rkH, if_neg (fun h => h2 h.2), if_neg (fun h => h2 h.2)]
      have B1 := hide b1
      have B2 := hide b2
      clear h1 h2 b1 b2
      unfold V
      go_enter Try.func118, Try.ntmps118
      go_wp2_with fail
      refine (iIsKnown _ _ _ hn _).mono ?_
      rw [unhide B1]
      rintro e w1 ⟨rfl, hb1⟩
      have hB1 : Below w.heap.size w w1 := btr (bal (bal (bal (brf w) _) _) _) hb1
      have Xv : VB w.heap.size n k h w1 := by refine VB_later hb1 ⟨?_, ?_, ?_⟩ <;> go_simp
      have Xw : VB (w.heap.size + 1) m p q w1 := by refine VB_later hb1 ⟨?_, ?_, ?_⟩ <;> go_simp
      have Xr : RB (w.heap.size + 1 + 1) w1 := by refine RB_later hb1 ⟨.int .i64 0, .int .u64 0, .int .u64 0, ?_, ?_, ?_, ?_, ?_, ?_⟩ <;> go_simp
      obtain ⟨v0, v1, v2⟩ := Xv
      obtain ⟨u0, u1, u2⟩ := Xw
      go_wp2_with fail
      refine (iIsKnown _ _ _ hm _).mono ?_
      rw [unhide B2]
      rintro e w2 ⟨rfl, hb2⟩
      obtain ⟨v0', v1', v2'⟩ := VB_later hb2 ⟨v0, v1, v2⟩
      obtain ⟨u0', u1', u2'⟩ := VB_later hb2 ⟨u0, u1, u2⟩
      have Xr2 := RB_later hb2 Xr
      have hB2 := btr hB1 hb2
      go_wp2_with fail
      refine (iUnknown n _).mono ?_
      rintro e w4 ⟨rfl, hb4⟩
      obtain ⟨x0, y0, z0, c0, c1, c2, f0, f1, f2⟩ := RB_later hb4 Xr2
      have h2 : w.heap.size ≤ w.heap.size + 1 + 1 := by omega
      unfold V
      go_wp2
      exact bodyPost_ret (v := V n 0#64 0#64) (by simp [results, Try.results118, go_sem, V, c0, c1, c2]) rfl ⟨rfl, bst (bst (bst (btr hB2 hb4) h2 _) h2 _) h2 _⟩
  · have b1 : (k == Vb.ones n) = false := by simp [h1]
    rw [rkK, rkH, if_neg (fun h => h1 h.1), if_neg (fun h => h1 h.1)]
    have B1 := hide b1
    clear h1 b1
    unfold V
    go_enter Try.func118, Try.ntmps118
    go_wp2_with fail
    refine (iIsKnown _ _ _ hn _).mono ?_
    rw [unhide B1]
    rintro e w1 ⟨rfl, hb1⟩
    have hB1 : Below w.heap.size w w1 := btr (bal (bal (bal (brf w) _) _) _) hb1
    have Xv : VB w.heap.size n k h w1 := by refine VB_later hb1 ⟨?_, ?_, ?_⟩ <;> go_simp
    have Xw : VB (w.heap.size + 1) m p q w1 := by refine VB_later hb1 ⟨?_, ?_, ?_⟩ <;> go_simp
    have Xr : RB (w.heap.size + 1 + 1) w1 := by refine RB_later hb1 ⟨.int .i64 0, .int .u64 0, .int .u64 0, ?_, ?_, ?_, ?_, ?_, ?_⟩ <;> go_simp
    obtain ⟨v0, v1, v2⟩ := Xv
    obtain ⟨u0, u1, u2⟩ := Xw
    go_wp2_with fail
    refine (iUnknown n _).mono ?_
    rintro e w4 ⟨rfl, hb4⟩
    obtain ⟨x0, y0, z0, c0, c1, c2, f0, f1, f2⟩ := RB_later hb4 Xr
    have h2 : w.heap.size ≤ w.heap.size + 1 + 1 := by omega
    unfold V
    go_wp2
    exact bodyPost_ret (v := V n 0#64 0#64) (by simp [results, Try.results118, go_sem, V, c0, c1, c2]) rfl ⟨rfl, bst (bst (bst (btr hB1 hb4) h2 _) h2 _) h2 _⟩
set_option maxHeartbeats 400000 in
theorem iAddV (n m : Nat) (k h p q : BitVec 64) (hn : n ≤ 64) (hm : m ≤ 64) (w : World) :
    Calls Try.prog 84 #[V n k h, V m p q] w fun e w' => e = .returned (V n (rkK n m k p) (rkH n m k p (h + q))) ∧ Below w.heap.size w w' := by
  have hmf : ∀ (fn : Fn) (first cap : Array Value) (w : World), (Instr.makeFunc fn first cap).run Try.prog w = .ok (.func fn first cap) w := fun _ _ _ _ => rfl
  generalize hA : rkK n m k p = A
  generalize hB : rkH n m k p (h + q) = B
  have HA := hide hA
  have HB := hide hB
  clear hA hB
  unfold V
  go_enter Try.func84, Try.ntmps84
  go_wp2_with fail
  refine (iReckon119 _ ans_add n m k h p q hn hm _).mono ?_
  rw [unhide HA]
  rintro e w1 ⟨he, hb1⟩
  rw [show rkH n m k p ((fun x y => x + y) h q) = B from unhide HB] at he
  subst he
  have Xr : RB (w.heap.size + 1 + 1) w1 := by refine RB_later hb1 ⟨.int .i64 0, .int .u64 0, .int .u64 0, ?_, ?_, ?_, ?_, ?_, ?_⟩ <;> go_simp
  obtain ⟨x0, y0, z0, c0, c1, c2, f0, f1, f2⟩ := Xr
  have h2 : w.heap.size ≤ w.heap.size + 1 + 1 := by omega
  unfold V
  go_wp2
  exact bodyPost_ret (v := V n A B) (by simp [results, Try.results84, go_sem, V, c0, c1, c2]) rfl ⟨rfl, bst (bst (bst (btr (bal (bal (bal (brf w) _) _) _) hb1) h2 _) h2 _) h2 _⟩
set_option maxHeartbeats 400000 in
theorem iSubV (n m : Nat) (k h p q : BitVec 64) (hn : n ≤ 64) (hm : m ≤ 64) (w : World) :
    Calls Try.prog 85 #[V n k h, V m p q] w fun e w' => e = .returned (V n (rkK n m k p) (rkH n m k p (h - q))) ∧ Below w.heap.size w w' := by
  have hmf : ∀ (fn : Fn) (first cap : Array Value) (w : World), (Instr.makeFunc fn first cap).run Try.prog w = .ok (.func fn first cap) w := fun _ _ _ _ => rfl
  generalize hA : rkK n m k p = A
  generalize hB : rkH n m k p (h - q) = B
  have HA := hide hA
  have HB := hide hB
  clear hA hB
  unfold V
  go_enter Try.func85, Try.ntmps85
  go_wp2_with fail
  refine (iReckon120 _ ans_sub n m k h p q hn hm _).mono ?_
  rw [unhide HA]
  rintro e w1 ⟨he, hb1⟩
  rw [show rkH n m k p ((fun x y => x - y) h q) = B from unhide HB] at he
  subst he
  have Xr : RB (w.heap.size + 1 + 1) w1 := by refine RB_later hb1 ⟨.int .i64 0, .int .u64 0, .int .u64 0, ?_, ?_, ?_, ?_, ?_, ?_⟩ <;> go_simp
  obtain ⟨x0, y0, z0, c0, c1, c2, f0, f1, f2⟩ := Xr
  have h2 : w.heap.size ≤ w.heap.size + 1 + 1 := by omega
  unfold V
  go_wp2
  exact bodyPost_ret (v := V n A B) (by simp [results, Try.results85, go_sem, V, c0, c1, c2]) rfl ⟨rfl, bst (bst (bst (btr (bal (bal (bal (brf w) _) _) _) hb1) h2 _) h2 _) h2 _⟩
set_option maxHeartbeats 400000 in
theorem iMulV (n m : Nat) (k h p q : BitVec 64) (hn : n ≤ 64) (hm : m ≤ 64) (w : World) :
    Calls Try.prog 86 #[V n k h, V m p q] w fun e w' => e = .returned (V n (rkK n m k p) (rkH n m k p (h * q))) ∧ Below w.heap.size w w' := by
  have hmf : ∀ (fn : Fn) (first cap : Array Value) (w : World), (Instr.makeFunc fn first cap).run Try.prog w = .ok (.func fn first cap) w := fun _ _ _ _ => rfl
  generalize hA : rkK n m k p = A
  generalize hB : rkH n m k p (h * q) = B
  have HA := hide hA
  have HB := hide hB
  clear hA hB
  unfold V
  go_enter Try.func86, Try.ntmps86
  go_wp2_with fail
  refine (iReckon121 _ ans_mul n m k h p q hn hm _).mono ?_
  rw [unhide HA]
  rintro e w1 ⟨he, hb1⟩
  rw [show rkH n m k p ((fun x y => x * y) h q) = B from unhide HB] at he
  subst he
  have Xr : RB (w.heap.size + 1 + 1) w1 := by refine RB_later hb1 ⟨.int .i64 0, .int .u64 0, .int .u64 0, ?_, ?_, ?_, ?_, ?_, ?_⟩ <;> go_simp
  obtain ⟨x0, y0, z0, c0, c1, c2, f0, f1, f2⟩ := Xr
  have h2 : w.heap.size ≤ w.heap.size + 1 + 1 := by omega
  unfold V
  go_wp2
  exact bodyPost_ret (v := V n A B) (by simp [results, Try.results86, go_sem, V, c0, c1, c2]) rfl ⟨rfl, bst (bst (bst (btr (bal (bal (bal (brf w) _) _) _) hb1) h2 _) h2 _) h2 _⟩
end Go.Proofs.Ytmbllgblbdfobaa
