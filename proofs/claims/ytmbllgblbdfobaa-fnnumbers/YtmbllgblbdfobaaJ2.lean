/- What the program's less and atMost answer. -/
import Derived.Test.YtmbllgblbdfobaaJ1
namespace Go.Proofs.Ytmbllgblbdfobaa
open Go.RowKit
attribute [local go_sem] U_and U_or U_xor U_andNot U_shl U_shr U_shl1 U_or1 U_and1 U_toNat U_nonneg U_low U_beq U_bne
/-- Below, as a letter. -/
def ltV (n m : Nat) (h q : BitVec 64) (sg : Bool) : Bool := if sg = true then decide (sgn n h < sgn m q) else decide (U h < U q)
def lsV (n m : Nat) (k h p q : BitVec 64) (sg : Bool) : UInt8 := if k = Vb.ones n ∧ p = Vb.ones m then bl (ltV n m h q sg) else 120
theorem ltV_no (n m : Nat) (h q : BitVec 64) : ltV n m h q false = decide (U h < U q) := by unfold ltV; rw [if_neg (by decide)]
theorem ltV_sg (n m : Nat) (h q : BitVec 64) : ltV n m h q true = decide (sgn n h < sgn m q) := by unfold ltV; rw [if_pos rfl]
theorem kn_bl1 (b : Bool) : Vb.kn [bl b] = 1#64 := by cases b <;> rfl
theorem wh_bl1 (b : Bool) : Vb.wh [bl b] = if b = true then 1#64 else 0#64 := by cases b <;> rfl
set_option maxRecDepth 100000 in
set_option maxHeartbeats 400000 in
theorem iLess01 (n m : Nat) (k h p q : BitVec 64) (hn : n ≤ 64) (hm : m ≤ 64) (h1 : k = Vb.ones n) (h2 : p = Vb.ones m) (hlt : U h < U q) (w : World) :
    Calls Try.prog 95 #[V n k h, V m p q, .bool false] w fun e w' => e = .returned (V 1 1#64 1#64) ∧ Below w.heap.size w w' := by
  have b1 : (k == Vb.ones n) = true := by simp [h1]
  have b2 : (p == Vb.ones m) = true := by simp [h2]
  have B1 := hide b1
  have B2 := hide b2
  clear h1 h2 b1 b2
  unfold V
  go_enter Try.func95, Try.ntmps95
  go_wp2_with fail
  refine (iIsKnown _ _ _ hn _).mono ?_
  rw [unhide B1]
  rintro e w1 ⟨rfl, hb1⟩
  have hB1 : Below w.heap.size w w1 := btr (bal (bal (bal (brf w) _) _) _) hb1
  obtain ⟨v0_1, v1_1, v2_1⟩ : VB (w.heap.size) n k h w1 := by refine VB_later hb1 ⟨?_, ?_, ?_⟩ <;> go_simp
  obtain ⟨u0_1, u1_1, u2_1⟩ : VB (w.heap.size + 1) m p q w1 := by refine VB_later hb1 ⟨?_, ?_, ?_⟩ <;> go_simp
  have Xr1 : RB (w.heap.size + 1 + 1) w1 := by refine RB_later hb1 ⟨.int .i64 0, .int .u64 0, .int .u64 0, ?_, ?_, ?_, ?_, ?_, ?_⟩ <;> go_simp
  go_wp2_with fail
  refine (iIsKnown _ _ _ hm _).mono ?_
  rw [unhide B2]
  rintro e w2 ⟨rfl, hb2⟩
  have hB2 := btr hB1 hb2
  obtain ⟨v0_2, v1_2, v2_2⟩ : VB (w.heap.size) n k h w2 := VB_later hb2 ⟨v0_1, v1_1, v2_1⟩
  obtain ⟨u0_2, u1_2, u2_2⟩ : VB (w.heap.size + 1) m p q w2 := VB_later hb2 ⟨u0_1, u1_1, u2_1⟩
  have Xr2 := RB_later hb2 Xr1
  go_wp2_with fail
  refine (iTruthVec true _).mono ?_
  rintro e w3 ⟨rfl, hb3⟩
  have hB3 := btr hB2 hb3
  obtain ⟨v0_3, v1_3, v2_3⟩ : VB (w.heap.size) n k h w3 := VB_later hb3 ⟨v0_2, v1_2, v2_2⟩
  obtain ⟨u0_3, u1_3, u2_3⟩ : VB (w.heap.size + 1) m p q w3 := VB_later hb3 ⟨u0_2, u1_2, u2_2⟩
  have Xr3 := RB_later hb3 Xr2
  obtain ⟨x0, y0, z0, c0, c1, c2, f0, f1, f2⟩ := Xr3
  have h2 : w.heap.size ≤ w.heap.size + 1 + 1 := by omega
  unfold V
  go_wp2
  exact bodyPost_ret (v := V 1 (1#64) (1#64)) (by simp [results, Try.results95, go_sem, V, c0, c1, c2]) rfl ⟨rfl, bst (bst (bst hB3 h2 _) h2 _) h2 _⟩
set_option maxRecDepth 100000 in
set_option maxHeartbeats 400000 in
theorem iLess00 (n m : Nat) (k h p q : BitVec 64) (hn : n ≤ 64) (hm : m ≤ 64) (h1 : k = Vb.ones n) (h2 : p = Vb.ones m) (hlt : ¬ U h < U q) (w : World) :
    Calls Try.prog 95 #[V n k h, V m p q, .bool false] w fun e w' => e = .returned (V 1 1#64 0#64) ∧ Below w.heap.size w w' := by
  have b1 : (k == Vb.ones n) = true := by simp [h1]
  have b2 : (p == Vb.ones m) = true := by simp [h2]
  have B1 := hide b1
  have B2 := hide b2
  clear h1 h2 b1 b2
  have hd : decide (U h < U q) = false := decide_eq_false hlt
  clear hlt
  unfold V
  go_enter Try.func95, Try.ntmps95
  go_wp2_with fail
  refine (iIsKnown _ _ _ hn _).mono ?_
  rw [unhide B1]
  rintro e w1 ⟨rfl, hb1⟩
  have hB1 : Below w.heap.size w w1 := btr (bal (bal (bal (brf w) _) _) _) hb1
  obtain ⟨v0_1, v1_1, v2_1⟩ : VB (w.heap.size) n k h w1 := by refine VB_later hb1 ⟨?_, ?_, ?_⟩ <;> go_simp
  obtain ⟨u0_1, u1_1, u2_1⟩ : VB (w.heap.size + 1) m p q w1 := by refine VB_later hb1 ⟨?_, ?_, ?_⟩ <;> go_simp
  have Xr1 : RB (w.heap.size + 1 + 1) w1 := by refine RB_later hb1 ⟨.int .i64 0, .int .u64 0, .int .u64 0, ?_, ?_, ?_, ?_, ?_, ?_⟩ <;> go_simp
  go_wp2_with fail
  refine (iIsKnown _ _ _ hm _).mono ?_
  rw [unhide B2]
  rintro e w2 ⟨rfl, hb2⟩
  have hB2 := btr hB1 hb2
  obtain ⟨v0_2, v1_2, v2_2⟩ : VB (w.heap.size) n k h w2 := VB_later hb2 ⟨v0_1, v1_1, v2_1⟩
  obtain ⟨u0_2, u1_2, u2_2⟩ : VB (w.heap.size + 1) m p q w2 := VB_later hb2 ⟨u0_1, u1_1, u2_1⟩
  have Xr2 := RB_later hb2 Xr1
  go_wp2_with fail
  refine (iTruthVec false _).mono ?_
  rintro e w3 ⟨rfl, hb3⟩
  have hB3 := btr hB2 hb3
  obtain ⟨v0_3, v1_3, v2_3⟩ : VB (w.heap.size) n k h w3 := VB_later hb3 ⟨v0_2, v1_2, v2_2⟩
  obtain ⟨u0_3, u1_3, u2_3⟩ : VB (w.heap.size + 1) m p q w3 := VB_later hb3 ⟨u0_2, u1_2, u2_2⟩
  have Xr3 := RB_later hb3 Xr2
  obtain ⟨x0, y0, z0, c0, c1, c2, f0, f1, f2⟩ := Xr3
  have h2 : w.heap.size ≤ w.heap.size + 1 + 1 := by omega
  unfold V
  go_wp2
  exact bodyPost_ret (v := V 1 (1#64) (0#64)) (by simp [results, Try.results95, go_sem, V, c0, c1, c2]) rfl ⟨rfl, bst (bst (bst hB3 h2 _) h2 _) h2 _⟩
set_option maxRecDepth 100000 in
set_option maxHeartbeats 400000 in
theorem iLess11 (n m : Nat) (k h p q : BitVec 64) (hn : n ≤ 64) (hm : m ≤ 64) (h1 : k = Vb.ones n) (h2 : p = Vb.ones m) (X Y : Int) (hX : sgn n h = X) (hY : sgn m q = Y) (hlt : X < Y) (w : World) :
    Calls Try.prog 95 #[V n k h, V m p q, .bool true] w fun e w' => e = .returned (V 1 1#64 1#64) ∧ Below w.heap.size w w' := by
  have b1 : (k == Vb.ones n) = true := by simp [h1]
  have b2 : (p == Vb.ones m) = true := by simp [h2]
  have B1 := hide b1
  have B2 := hide b2
  have HXA : Hid (∀ w, Calls Try.prog 50 #[.agg #[.int .i64 n, .int .u64 (U k), .int .u64 (U h)]] w fun e w' => e = .returned (.int .i64 X) ∧ Below w.heap.size w w') := fun w => by
    have := iSigned n k h hn w
    rw [hX] at this; exact this
  have HXB : Hid (∀ w, Calls Try.prog 50 #[.agg #[.int .i64 m, .int .u64 (U p), .int .u64 (U q)]] w fun e w' => e = .returned (.int .i64 Y) ∧ Below w.heap.size w w') := fun w => by
    have := iSigned m p q hm w
    rw [hY] at this; exact this
  clear hX hY
  clear h1 h2 b1 b2
  unfold V
  go_enter Try.func95, Try.ntmps95
  go_wp2_with fail
  refine (iIsKnown _ _ _ hn _).mono ?_
  rw [unhide B1]
  rintro e w1 ⟨rfl, hb1⟩
  have hB1 : Below w.heap.size w w1 := btr (bal (bal (bal (brf w) _) _) _) hb1
  obtain ⟨v0_1, v1_1, v2_1⟩ : VB (w.heap.size) n k h w1 := by refine VB_later hb1 ⟨?_, ?_, ?_⟩ <;> go_simp
  obtain ⟨u0_1, u1_1, u2_1⟩ : VB (w.heap.size + 1) m p q w1 := by refine VB_later hb1 ⟨?_, ?_, ?_⟩ <;> go_simp
  have Xr1 : RB (w.heap.size + 1 + 1) w1 := by refine RB_later hb1 ⟨.int .i64 0, .int .u64 0, .int .u64 0, ?_, ?_, ?_, ?_, ?_, ?_⟩ <;> go_simp
  go_wp2_with fail
  refine (iIsKnown _ _ _ hm _).mono ?_
  rw [unhide B2]
  rintro e w2 ⟨rfl, hb2⟩
  have hB2 := btr hB1 hb2
  obtain ⟨v0_2, v1_2, v2_2⟩ : VB (w.heap.size) n k h w2 := VB_later hb2 ⟨v0_1, v1_1, v2_1⟩
  obtain ⟨u0_2, u1_2, u2_2⟩ : VB (w.heap.size + 1) m p q w2 := VB_later hb2 ⟨u0_1, u1_1, u2_1⟩
  have Xr2 := RB_later hb2 Xr1
  go_wp2_with fail
  go_region_held3 (fun w' => w'.cell? ⟨w.heap.size, 0, none⟩ = some (.int .i64 n) ∧ w'.cell? ⟨w.heap.size, 1, none⟩ = some (.int .u64 (U k)) ∧ w'.cell? ⟨w.heap.size, 2, none⟩ = some (.int .u64 (U h)) ∧ w'.cell? ⟨w.heap.size + 1, 0, none⟩ = some (.int .i64 m) ∧ w'.cell? ⟨w.heap.size + 1, 1, none⟩ = some (.int .u64 (U p)) ∧ w'.cell? ⟨w.heap.size + 1, 2, none⟩ = some (.int .u64 (U q))) (first | (go_simp; done) | (refine ⟨?_, ?_, ?_, ?_, ?_, ?_⟩ <;> (refine cell_later hb ?_; go_simp)) | go_keep) (first | (go_at_call 50; first | (have R3x := R3; refine (unhide HXB _).mono ?_; rintro e w4 ⟨rfl, hb⟩; have R4 := RB_later hb R3; have hB4 := btr hB3 hb) | (refine (unhide HXA _).mono ?_; rintro e w3 ⟨rfl, hb⟩; have R3 := RB_later hb Xr2; have hB3 := btr (bdr hB2) hb)) | (go_at_call 113; refine (iTruthVec true _).mono ?_; rintro e w5 ⟨rfl, hb⟩; have hB5 := btr hB4 hb; obtain ⟨x0, y0, z0, c0, c1, c2, f0, f1, f2⟩ := RB_later hb R4; unfold V))
  go_wp2
  have h2 : w.heap.size ≤ w.heap.size + 1 + 1 := by omega
  exact bodyPost_ret (v := V 1 1#64 1#64) (by simp [results, Try.results95, go_sem, V, c0, c1, c2]) rfl ⟨rfl, bst (bst (bst hB5 h2 _) h2 _) h2 _⟩
set_option maxRecDepth 100000 in
set_option maxHeartbeats 400000 in
theorem iLess10 (n m : Nat) (k h p q : BitVec 64) (hn : n ≤ 64) (hm : m ≤ 64) (h1 : k = Vb.ones n) (h2 : p = Vb.ones m) (X Y : Int) (hX : sgn n h = X) (hY : sgn m q = Y) (hlt : ¬ X < Y) (w : World) :
    Calls Try.prog 95 #[V n k h, V m p q, .bool true] w fun e w' => e = .returned (V 1 1#64 0#64) ∧ Below w.heap.size w w' := by
  have b1 : (k == Vb.ones n) = true := by simp [h1]
  have b2 : (p == Vb.ones m) = true := by simp [h2]
  have B1 := hide b1
  have B2 := hide b2
  have HXA : Hid (∀ w, Calls Try.prog 50 #[.agg #[.int .i64 n, .int .u64 (U k), .int .u64 (U h)]] w fun e w' => e = .returned (.int .i64 X) ∧ Below w.heap.size w w') := fun w => by
    have := iSigned n k h hn w
    rw [hX] at this; exact this
  have HXB : Hid (∀ w, Calls Try.prog 50 #[.agg #[.int .i64 m, .int .u64 (U p), .int .u64 (U q)]] w fun e w' => e = .returned (.int .i64 Y) ∧ Below w.heap.size w w') := fun w => by
    have := iSigned m p q hm w
    rw [hY] at this; exact this
  clear hX hY
  clear h1 h2 b1 b2
  have hd : decide (X < Y) = false := decide_eq_false hlt
  clear hlt
  unfold V
  go_enter Try.func95, Try.ntmps95
  go_wp2_with fail
  refine (iIsKnown _ _ _ hn _).mono ?_
  rw [unhide B1]
  rintro e w1 ⟨rfl, hb1⟩
  have hB1 : Below w.heap.size w w1 := btr (bal (bal (bal (brf w) _) _) _) hb1
  obtain ⟨v0_1, v1_1, v2_1⟩ : VB (w.heap.size) n k h w1 := by refine VB_later hb1 ⟨?_, ?_, ?_⟩ <;> go_simp
  obtain ⟨u0_1, u1_1, u2_1⟩ : VB (w.heap.size + 1) m p q w1 := by refine VB_later hb1 ⟨?_, ?_, ?_⟩ <;> go_simp
  have Xr1 : RB (w.heap.size + 1 + 1) w1 := by refine RB_later hb1 ⟨.int .i64 0, .int .u64 0, .int .u64 0, ?_, ?_, ?_, ?_, ?_, ?_⟩ <;> go_simp
  go_wp2_with fail
  refine (iIsKnown _ _ _ hm _).mono ?_
  rw [unhide B2]
  rintro e w2 ⟨rfl, hb2⟩
  have hB2 := btr hB1 hb2
  obtain ⟨v0_2, v1_2, v2_2⟩ : VB (w.heap.size) n k h w2 := VB_later hb2 ⟨v0_1, v1_1, v2_1⟩
  obtain ⟨u0_2, u1_2, u2_2⟩ : VB (w.heap.size + 1) m p q w2 := VB_later hb2 ⟨u0_1, u1_1, u2_1⟩
  have Xr2 := RB_later hb2 Xr1
  go_wp2_with fail
  go_region_held3 (fun w' => w'.cell? ⟨w.heap.size, 0, none⟩ = some (.int .i64 n) ∧ w'.cell? ⟨w.heap.size, 1, none⟩ = some (.int .u64 (U k)) ∧ w'.cell? ⟨w.heap.size, 2, none⟩ = some (.int .u64 (U h)) ∧ w'.cell? ⟨w.heap.size + 1, 0, none⟩ = some (.int .i64 m) ∧ w'.cell? ⟨w.heap.size + 1, 1, none⟩ = some (.int .u64 (U p)) ∧ w'.cell? ⟨w.heap.size + 1, 2, none⟩ = some (.int .u64 (U q))) (first | (go_simp; done) | (refine ⟨?_, ?_, ?_, ?_, ?_, ?_⟩ <;> (refine cell_later hb ?_; go_simp)) | go_keep) (first | (go_at_call 50; first | (have R3x := R3; refine (unhide HXB _).mono ?_; rintro e w4 ⟨rfl, hb⟩; have R4 := RB_later hb R3; have hB4 := btr hB3 hb) | (refine (unhide HXA _).mono ?_; rintro e w3 ⟨rfl, hb⟩; have R3 := RB_later hb Xr2; have hB3 := btr (bdr hB2) hb)) | (go_at_call 113; refine (iTruthVec false _).mono ?_; rintro e w5 ⟨rfl, hb⟩; have hB5 := btr hB4 hb; obtain ⟨x0, y0, z0, c0, c1, c2, f0, f1, f2⟩ := RB_later hb R4; unfold V))
  go_wp2
  have h2 : w.heap.size ≤ w.heap.size + 1 + 1 := by omega
  exact bodyPost_ret (v := V 1 1#64 0#64) (by simp [results, Try.results95, go_sem, V, c0, c1, c2]) rfl ⟨rfl, bst (bst (bst hB5 h2 _) h2 _) h2 _⟩
set_option maxRecDepth 100000 in
set_option maxHeartbeats 400000 in
theorem iLessB (n m : Nat) (k h p q : BitVec 64) (sg : Bool) (hn : n ≤ 64) (hm : m ≤ 64) (h1 : k = Vb.ones n) (h2 : ¬ p = Vb.ones m) (w : World) :
    Calls Try.prog 95 #[V n k h, V m p q, .bool sg] w fun e w' => e = .returned (V 1 (Vb.kn [120]) (Vb.wh [120])) ∧ Below w.heap.size w w' := by
  rw [show Vb.kn [120] = 0#64 from rfl, show Vb.wh [120] = 0#64 from rfl]
  have b1 : (k == Vb.ones n) = true := by simp [h1]
  have b2 : (p == Vb.ones m) = false := by simp [h2]
  have B1 := hide b1
  have B2 := hide b2
  clear h1 h2 b1 b2
  unfold V
  go_enter Try.func95, Try.ntmps95
  go_wp2_with fail
  refine (iIsKnown _ _ _ hn _).mono ?_
  rw [unhide B1]
  rintro e w1 ⟨rfl, hb1⟩
  have hB1 : Below w.heap.size w w1 := btr (bal (bal (bal (brf w) _) _) _) hb1
  obtain ⟨v0_1, v1_1, v2_1⟩ : VB (w.heap.size) n k h w1 := by refine VB_later hb1 ⟨?_, ?_, ?_⟩ <;> go_simp
  obtain ⟨u0_1, u1_1, u2_1⟩ : VB (w.heap.size + 1) m p q w1 := by refine VB_later hb1 ⟨?_, ?_, ?_⟩ <;> go_simp
  have Xr1 : RB (w.heap.size + 1 + 1) w1 := by refine RB_later hb1 ⟨.int .i64 0, .int .u64 0, .int .u64 0, ?_, ?_, ?_, ?_, ?_, ?_⟩ <;> go_simp
  go_wp2_with fail
  refine (iIsKnown _ _ _ hm _).mono ?_
  rw [unhide B2]
  rintro e w2 ⟨rfl, hb2⟩
  have hB2 := btr hB1 hb2
  obtain ⟨v0_2, v1_2, v2_2⟩ : VB (w.heap.size) n k h w2 := VB_later hb2 ⟨v0_1, v1_1, v2_1⟩
  obtain ⟨u0_2, u1_2, u2_2⟩ : VB (w.heap.size + 1) m p q w2 := VB_later hb2 ⟨u0_1, u1_1, u2_1⟩
  have Xr2 := RB_later hb2 Xr1
  go_wp2_with fail
  refine (iUnknown 1 _).mono ?_
  rintro e w3 ⟨rfl, hb3⟩
  have hB3 := btr hB2 hb3
  obtain ⟨v0_3, v1_3, v2_3⟩ : VB (w.heap.size) n k h w3 := VB_later hb3 ⟨v0_2, v1_2, v2_2⟩
  obtain ⟨u0_3, u1_3, u2_3⟩ : VB (w.heap.size + 1) m p q w3 := VB_later hb3 ⟨u0_2, u1_2, u2_2⟩
  have Xr3 := RB_later hb3 Xr2
  obtain ⟨x0, y0, z0, c0, c1, c2, f0, f1, f2⟩ := Xr3
  have h2 : w.heap.size ≤ w.heap.size + 1 + 1 := by omega
  unfold V
  go_wp2
  exact bodyPost_ret (v := V 1 (0#64) (0#64)) (by simp [results, Try.results95, go_sem, V, c0, c1, c2]) rfl ⟨rfl, bst (bst (bst hB3 h2 _) h2 _) h2 _⟩
set_option maxRecDepth 100000 in
set_option maxHeartbeats 400000 in
theorem iLessA (n m : Nat) (k h p q : BitVec 64) (sg : Bool) (hn : n ≤ 64) (h1 : ¬ k = Vb.ones n) (w : World) :
    Calls Try.prog 95 #[V n k h, V m p q, .bool sg] w fun e w' => e = .returned (V 1 (Vb.kn [120]) (Vb.wh [120])) ∧ Below w.heap.size w w' := by
  rw [show Vb.kn [120] = 0#64 from rfl, show Vb.wh [120] = 0#64 from rfl]
  have b1 : (k == Vb.ones n) = false := by simp [h1]
  have B1 := hide b1
  clear h1 b1
  unfold V
  go_enter Try.func95, Try.ntmps95
  go_wp2_with fail
  refine (iIsKnown _ _ _ hn _).mono ?_
  rw [unhide B1]
  rintro e w1 ⟨rfl, hb1⟩
  have hB1 : Below w.heap.size w w1 := btr (bal (bal (bal (brf w) _) _) _) hb1
  obtain ⟨v0_1, v1_1, v2_1⟩ : VB (w.heap.size) n k h w1 := by refine VB_later hb1 ⟨?_, ?_, ?_⟩ <;> go_simp
  obtain ⟨u0_1, u1_1, u2_1⟩ : VB (w.heap.size + 1) m p q w1 := by refine VB_later hb1 ⟨?_, ?_, ?_⟩ <;> go_simp
  have Xr1 : RB (w.heap.size + 1 + 1) w1 := by refine RB_later hb1 ⟨.int .i64 0, .int .u64 0, .int .u64 0, ?_, ?_, ?_, ?_, ?_, ?_⟩ <;> go_simp
  go_wp2_with fail
  refine (iUnknown 1 _).mono ?_
  rintro e w2 ⟨rfl, hb2⟩
  have hB2 := btr hB1 hb2
  obtain ⟨v0_2, v1_2, v2_2⟩ : VB (w.heap.size) n k h w2 := VB_later hb2 ⟨v0_1, v1_1, v2_1⟩
  obtain ⟨u0_2, u1_2, u2_2⟩ : VB (w.heap.size + 1) m p q w2 := VB_later hb2 ⟨u0_1, u1_1, u2_1⟩
  have Xr2 := RB_later hb2 Xr1
  obtain ⟨x0, y0, z0, c0, c1, c2, f0, f1, f2⟩ := Xr2
  have h2 : w.heap.size ≤ w.heap.size + 1 + 1 := by omega
  unfold V
  go_wp2
  exact bodyPost_ret (v := V 1 (0#64) (0#64)) (by simp [results, Try.results95, go_sem, V, c0, c1, c2]) rfl ⟨rfl, bst (bst (bst hB2 h2 _) h2 _) h2 _⟩
set_option maxHeartbeats 400000 in
theorem iLess (n m : Nat) (k h p q : BitVec 64) (sg : Bool) (hn : n ≤ 64) (hm : m ≤ 64) (w : World) :
    Calls Try.prog 95 #[V n k h, V m p q, .bool sg] w fun e w' => e = .returned (V 1 (Vb.kn [lsV n m k h p q sg]) (Vb.wh [lsV n m k h p q sg])) ∧ Below w.heap.size w w' := by
  by_cases h1 : k = Vb.ones n
  · by_cases h2 : p = Vb.ones m
    · rw [show lsV n m k h p q sg = bl (ltV n m h q sg) by unfold lsV; rw [if_pos ⟨h1, h2⟩], kn_bl1, wh_bl1]
      cases sg
      · rw [ltV_no]
        by_cases hlt : U h < U q
        · rw [decide_eq_true hlt, if_pos rfl]; exact iLess01 n m k h p q hn hm h1 h2 hlt w
        · rw [decide_eq_false hlt, if_neg (by decide)]; exact iLess00 n m k h p q hn hm h1 h2 hlt w
      · rw [ltV_sg]
        by_cases hlt : sgn n h < sgn m q
        · rw [decide_eq_true hlt, if_pos rfl]; exact iLess11 n m k h p q hn hm h1 h2 _ _ rfl rfl hlt w
        · rw [decide_eq_false hlt, if_neg (by decide)]; exact iLess10 n m k h p q hn hm h1 h2 _ _ rfl rfl hlt w
    · rw [show lsV n m k h p q sg = 120 by unfold lsV; rw [if_neg (fun h => h2 h.2)]]
      exact iLessB n m k h p q sg hn hm h1 h2 w
  · rw [show lsV n m k h p q sg = 120 by unfold lsV; rw [if_neg (fun h => h1 h.1)]]
    exact iLessA n m k h p q sg hn h1 w
set_option maxHeartbeats 400000 in
theorem iAtMost (n m : Nat) (k h p q : BitVec 64) (sg : Bool) (hn : n ≤ 64) (hm : m ≤ 64) (w : World) :
    Calls Try.prog 97 #[V n k h, V m p q, .bool sg] w fun e w' => e = .returned (V 1 (Vb.kn [lsV m n p q k h sg] &&& Vb.wh [lsV m n p q k h sg] ||| Vb.kn [lsV m n p q k h sg] &&& ~~~Vb.wh [lsV m n p q k h sg]) (Vb.kn [lsV m n p q k h sg] &&& ~~~Vb.wh [lsV m n p q k h sg])) ∧ Below w.heap.size w w' := by
  generalize hT1 : Vb.kn [lsV m n p q k h sg] = T1
  generalize hT2 : Vb.wh [lsV m n p q k h sg] = T2
  have HT1 := hide hT1
  have HT2 := hide hT2
  clear hT1 hT2
  unfold V
  go_enter Try.func97, Try.ntmps97
  go_wp2_with fail
  refine (iLess _ _ _ _ _ _ _ hm hn _).mono ?_
  rw [unhide HT1, unhide HT2]
  rintro e w1 ⟨rfl, hb1⟩
  have hB1 : Below w.heap.size w w1 := btr (bal (bal (bal (brf w) _) _) _) hb1
  obtain ⟨v0_1, v1_1, v2_1⟩ : VB (w.heap.size) n k h w1 := by refine VB_later hb1 ⟨?_, ?_, ?_⟩ <;> go_simp
  obtain ⟨u0_1, u1_1, u2_1⟩ : VB (w.heap.size + 1) m p q w1 := by refine VB_later hb1 ⟨?_, ?_, ?_⟩ <;> go_simp
  have Xr1 : RB (w.heap.size + 1 + 1) w1 := by refine RB_later hb1 ⟨.int .i64 0, .int .u64 0, .int .u64 0, ?_, ?_, ?_, ?_, ?_, ?_⟩ <;> go_simp
  unfold V
  go_wp2_with fail
  refine (iNot _ _ _ _).mono ?_
  rintro e w2 ⟨rfl, hb2⟩
  have hB2 := btr hB1 hb2
  obtain ⟨v0_2, v1_2, v2_2⟩ : VB (w.heap.size) n k h w2 := VB_later hb2 ⟨v0_1, v1_1, v2_1⟩
  obtain ⟨u0_2, u1_2, u2_2⟩ : VB (w.heap.size + 1) m p q w2 := VB_later hb2 ⟨u0_1, u1_1, u2_1⟩
  have Xr2 := RB_later hb2 Xr1
  obtain ⟨x0, y0, z0, c0, c1, c2, f0, f1, f2⟩ := Xr2
  have h2 : w.heap.size ≤ w.heap.size + 1 + 1 := by omega
  unfold V
  go_wp2
  exact bodyPost_ret (v := V 1 (T1 &&& T2 ||| T1 &&& ~~~T2) (T1 &&& ~~~T2)) (by simp [results, Try.results97, go_sem, V, c0, c1, c2]) rfl ⟨rfl, bst (bst (bst hB2 h2 _) h2 _) h2 _⟩
end Go.Proofs.Ytmbllgblbdfobaa
