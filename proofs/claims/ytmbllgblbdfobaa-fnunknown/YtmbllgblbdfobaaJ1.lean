/- What the program's equal, unequal, same, both, either and less answer. -/
import Derived.Test.YtmbllgblbdfobaaG8U4
import Derived.Test.YtmbllgblbdfobaaG3IT
namespace Go.Proofs.Ytmbllgblbdfobaa
open Go.RowKit
attribute [local go_sem] U_and U_or U_xor U_andNot U_shl U_shr U_shl1 U_or1 U_and1 U_toNat U_nonneg U_low U_beq U_bne
/-- Whether two vectors are equal, as a letter. -/
def eqV (n m : Nat) (k h p q : BitVec 64) : UInt8 := if k &&& p &&& (h ^^^ q) ≠ 0#64 then 48 else if k = Vb.ones n ∧ p = Vb.ones m then 49 else 120
theorem and_or_self (a b : BitVec 64) : (a &&& ~~~b ||| a &&& b) &&& (a &&& b) = a &&& b := by
  apply BitVec.eq_of_getLsbD_eq; intro i hi
  simp only [BitVec.getLsbD_and, BitVec.getLsbD_or, BitVec.getLsbD_not]
  cases a.getLsbD i <;> cases b.getLsbD i <;> simp
set_option maxHeartbeats 400000 in
theorem iOnesB (n : Nat) (k h : BitVec 64) (w : World) : Calls Try.prog 114 #[.agg #[.int .i64 n, .int .u64 (U k), .int .u64 (U h)]] w fun e w' => e = .returned (.int .u64 (U (k &&& h))) ∧ Below w.heap.size w w' :=
  (iOnes n k h w).mono fun _ _ ⟨h1, h2⟩ => ⟨h1, by rw [← h2]; exact bal (brf _) _⟩
set_option maxHeartbeats 400000 in
theorem iEqual (n m : Nat) (k h p q : BitVec 64) (hn : n ≤ 64) (hm : m ≤ 64) (w : World) :
    Calls Try.prog 91 #[V n k h, V m p q] w fun e w' => e = .returned (V 1 (Vb.kn [eqV n m k h p q]) (Vb.wh [eqV n m k h p q])) ∧ Below w.heap.size w w' := by
  have hks := and_or_self (k &&& p) (h ^^^ q)
  generalize hK : k &&& p &&& ~~~(h ^^^ q) ||| k &&& p &&& (h ^^^ q) = K at *
  generalize hH : k &&& p &&& (h ^^^ q) = H at *
  have HKH := hide (And.intro hK hH)
  clear hK hH
  by_cases h0 : H = 0#64
  · have hu : (U (K &&& H) != 0) = false := by rw [hks, h0]; rfl
    by_cases h1 : k = Vb.ones n
    · have b1 : (k == Vb.ones n) = true := by simp [h1]
      by_cases h2 : p = Vb.ones m
      · have b2 : (p == Vb.ones m) = true := by simp [h2]
        rw [show eqV n m k h p q = 49 by unfold eqV; rw [(unhide HKH).2, if_neg (by simp [h0]), if_pos ⟨h1, h2⟩], show Vb.kn [49] = 1#64 from rfl, show Vb.wh [49] = 1#64 from rfl]
        have B1 := hide b1
        have B2 := hide b2
        clear h0 h1 h2 b1 b2 hks
        unfold V
        go_enter Try.func91, Try.ntmps91
        go_wp2_with fail
        refine (iXor _ _ _ _ _ _ _).mono ?_
        rw [(unhide HKH).2, (unhide HKH).1]
        rintro e w1 ⟨rfl, hb1⟩
        have hB1 : Below w.heap.size w w1 := btr (bal (bal (bal (brf w) _) _) _) hb1
        obtain ⟨v0_1, v1_1, v2_1⟩ : VB (w.heap.size) n k h w1 := by refine VB_later hb1 ⟨?_, ?_, ?_⟩ <;> go_simp
        obtain ⟨u0_1, u1_1, u2_1⟩ : VB (w.heap.size + 1) m p q w1 := by refine VB_later hb1 ⟨?_, ?_, ?_⟩ <;> go_simp
        have Xr1 : RB (w.heap.size + 1 + 1) w1 := by refine RB_later hb1 ⟨.int .i64 0, .int .u64 0, .int .u64 0, ?_, ?_, ?_, ?_, ?_, ?_⟩ <;> go_simp
        unfold V
        go_wp2_with fail
        refine (iOnesB _ _ _ _).mono ?_
        rintro e w2 ⟨rfl, hb2⟩
        have hB2 := btr hB1 hb2
        obtain ⟨v0_2, v1_2, v2_2⟩ : VB (w.heap.size) n k h w2 := VB_later hb2 ⟨v0_1, v1_1, v2_1⟩
        obtain ⟨u0_2, u1_2, u2_2⟩ : VB (w.heap.size + 1) m p q w2 := VB_later hb2 ⟨u0_1, u1_1, u2_1⟩
        have Xr2 := RB_later hb2 Xr1
        go_wp2_with fail
        refine (iIsKnown _ _ _ hn _).mono ?_
        rw [unhide B1]
        rintro e w3 ⟨rfl, hb3⟩
        have hB3 := btr hB2 hb3
        obtain ⟨v0_3, v1_3, v2_3⟩ : VB (w.heap.size) n k h w3 := VB_later hb3 ⟨v0_2, v1_2, v2_2⟩
        obtain ⟨u0_3, u1_3, u2_3⟩ : VB (w.heap.size + 1) m p q w3 := VB_later hb3 ⟨u0_2, u1_2, u2_2⟩
        have Xr3 := RB_later hb3 Xr2
        go_wp2_with fail
        refine (iIsKnown _ _ _ hm _).mono ?_
        rw [unhide B2]
        rintro e w4 ⟨rfl, hb4⟩
        have hB4 := btr hB3 hb4
        obtain ⟨v0_4, v1_4, v2_4⟩ : VB (w.heap.size) n k h w4 := VB_later hb4 ⟨v0_3, v1_3, v2_3⟩
        obtain ⟨u0_4, u1_4, u2_4⟩ : VB (w.heap.size + 1) m p q w4 := VB_later hb4 ⟨u0_3, u1_3, u2_3⟩
        have Xr4 := RB_later hb4 Xr3
        go_wp2_with fail
        refine (iTruthVec true _).mono ?_
        rintro e w5 ⟨rfl, hb5⟩
        have hB5 := btr hB4 hb5
        obtain ⟨v0_5, v1_5, v2_5⟩ : VB (w.heap.size) n k h w5 := VB_later hb5 ⟨v0_4, v1_4, v2_4⟩
        obtain ⟨u0_5, u1_5, u2_5⟩ : VB (w.heap.size + 1) m p q w5 := VB_later hb5 ⟨u0_4, u1_4, u2_4⟩
        have Xr5 := RB_later hb5 Xr4
        obtain ⟨x0, y0, z0, c0, c1, c2, f0, f1, f2⟩ := Xr5
        have h2 : w.heap.size ≤ w.heap.size + 1 + 1 := by omega
        unfold V
        go_wp2
        exact bodyPost_ret (v := V 1 (1#64) (1#64)) (by simp [results, Try.results91, go_sem, V, c0, c1, c2]) rfl ⟨rfl, bst (bst (bst hB5 h2 _) h2 _) h2 _⟩
      · have b2 : (p == Vb.ones m) = false := by simp [h2]
        rw [show eqV n m k h p q = 120 by unfold eqV; rw [(unhide HKH).2, if_neg (by simp [h0]), if_neg (fun h => h2 h.2)], show Vb.kn [120] = 0#64 from rfl, show Vb.wh [120] = 0#64 from rfl]
        have B1 := hide b1
        have B2 := hide b2
        clear h0 h1 h2 b1 b2 hks
        unfold V
        go_enter Try.func91, Try.ntmps91
        go_wp2_with fail
        refine (iXor _ _ _ _ _ _ _).mono ?_
        rw [(unhide HKH).2, (unhide HKH).1]
        rintro e w1 ⟨rfl, hb1⟩
        have hB1 : Below w.heap.size w w1 := btr (bal (bal (bal (brf w) _) _) _) hb1
        obtain ⟨v0_1, v1_1, v2_1⟩ : VB (w.heap.size) n k h w1 := by refine VB_later hb1 ⟨?_, ?_, ?_⟩ <;> go_simp
        obtain ⟨u0_1, u1_1, u2_1⟩ : VB (w.heap.size + 1) m p q w1 := by refine VB_later hb1 ⟨?_, ?_, ?_⟩ <;> go_simp
        have Xr1 : RB (w.heap.size + 1 + 1) w1 := by refine RB_later hb1 ⟨.int .i64 0, .int .u64 0, .int .u64 0, ?_, ?_, ?_, ?_, ?_, ?_⟩ <;> go_simp
        unfold V
        go_wp2_with fail
        refine (iOnesB _ _ _ _).mono ?_
        rintro e w2 ⟨rfl, hb2⟩
        have hB2 := btr hB1 hb2
        obtain ⟨v0_2, v1_2, v2_2⟩ : VB (w.heap.size) n k h w2 := VB_later hb2 ⟨v0_1, v1_1, v2_1⟩
        obtain ⟨u0_2, u1_2, u2_2⟩ : VB (w.heap.size + 1) m p q w2 := VB_later hb2 ⟨u0_1, u1_1, u2_1⟩
        have Xr2 := RB_later hb2 Xr1
        go_wp2_with fail
        refine (iIsKnown _ _ _ hn _).mono ?_
        rw [unhide B1]
        rintro e w3 ⟨rfl, hb3⟩
        have hB3 := btr hB2 hb3
        obtain ⟨v0_3, v1_3, v2_3⟩ : VB (w.heap.size) n k h w3 := VB_later hb3 ⟨v0_2, v1_2, v2_2⟩
        obtain ⟨u0_3, u1_3, u2_3⟩ : VB (w.heap.size + 1) m p q w3 := VB_later hb3 ⟨u0_2, u1_2, u2_2⟩
        have Xr3 := RB_later hb3 Xr2
        go_wp2_with fail
        refine (iIsKnown _ _ _ hm _).mono ?_
        rw [unhide B2]
        rintro e w4 ⟨rfl, hb4⟩
        have hB4 := btr hB3 hb4
        obtain ⟨v0_4, v1_4, v2_4⟩ : VB (w.heap.size) n k h w4 := VB_later hb4 ⟨v0_3, v1_3, v2_3⟩
        obtain ⟨u0_4, u1_4, u2_4⟩ : VB (w.heap.size + 1) m p q w4 := VB_later hb4 ⟨u0_3, u1_3, u2_3⟩
        have Xr4 := RB_later hb4 Xr3
        go_wp2_with fail
        refine (iUnknown 1 _).mono ?_
        rintro e w5 ⟨rfl, hb5⟩
        have hB5 := btr hB4 hb5
        obtain ⟨v0_5, v1_5, v2_5⟩ : VB (w.heap.size) n k h w5 := VB_later hb5 ⟨v0_4, v1_4, v2_4⟩
        obtain ⟨u0_5, u1_5, u2_5⟩ : VB (w.heap.size + 1) m p q w5 := VB_later hb5 ⟨u0_4, u1_4, u2_4⟩
        have Xr5 := RB_later hb5 Xr4
        obtain ⟨x0, y0, z0, c0, c1, c2, f0, f1, f2⟩ := Xr5
        have h2 : w.heap.size ≤ w.heap.size + 1 + 1 := by omega
        unfold V
        go_wp2
        exact bodyPost_ret (v := V 1 (0#64) (0#64)) (by simp [results, Try.results91, go_sem, V, c0, c1, c2]) rfl ⟨rfl, bst (bst (bst hB5 h2 _) h2 _) h2 _⟩
    · have b1 : (k == Vb.ones n) = false := by simp [h1]
      rw [show eqV n m k h p q = 120 by unfold eqV; rw [(unhide HKH).2, if_neg (by simp [h0]), if_neg (fun h => h1 h.1)], show Vb.kn [120] = 0#64 from rfl, show Vb.wh [120] = 0#64 from rfl]
      have B1 := hide b1
      clear h0 h1 b1 hks
      unfold V
      go_enter Try.func91, Try.ntmps91
      go_wp2_with fail
      refine (iXor _ _ _ _ _ _ _).mono ?_
      rw [(unhide HKH).2, (unhide HKH).1]
      rintro e w1 ⟨rfl, hb1⟩
      have hB1 : Below w.heap.size w w1 := btr (bal (bal (bal (brf w) _) _) _) hb1
      obtain ⟨v0_1, v1_1, v2_1⟩ : VB (w.heap.size) n k h w1 := by refine VB_later hb1 ⟨?_, ?_, ?_⟩ <;> go_simp
      obtain ⟨u0_1, u1_1, u2_1⟩ : VB (w.heap.size + 1) m p q w1 := by refine VB_later hb1 ⟨?_, ?_, ?_⟩ <;> go_simp
      have Xr1 : RB (w.heap.size + 1 + 1) w1 := by refine RB_later hb1 ⟨.int .i64 0, .int .u64 0, .int .u64 0, ?_, ?_, ?_, ?_, ?_, ?_⟩ <;> go_simp
      unfold V
      go_wp2_with fail
      refine (iOnesB _ _ _ _).mono ?_
      rintro e w2 ⟨rfl, hb2⟩
      have hB2 := btr hB1 hb2
      obtain ⟨v0_2, v1_2, v2_2⟩ : VB (w.heap.size) n k h w2 := VB_later hb2 ⟨v0_1, v1_1, v2_1⟩
      obtain ⟨u0_2, u1_2, u2_2⟩ : VB (w.heap.size + 1) m p q w2 := VB_later hb2 ⟨u0_1, u1_1, u2_1⟩
      have Xr2 := RB_later hb2 Xr1
      go_wp2_with fail
      refine (iIsKnown _ _ _ hn _).mono ?_
      rw [unhide B1]
      rintro e w3 ⟨rfl, hb3⟩
      have hB3 := btr hB2 hb3
      obtain ⟨v0_3, v1_3, v2_3⟩ : VB (w.heap.size) n k h w3 := VB_later hb3 ⟨v0_2, v1_2, v2_2⟩
      obtain ⟨u0_3, u1_3, u2_3⟩ : VB (w.heap.size + 1) m p q w3 := VB_later hb3 ⟨u0_2, u1_2, u2_2⟩
      have Xr3 := RB_later hb3 Xr2
      go_wp2_with fail
      refine (iUnknown 1 _).mono ?_
      rintro e w4 ⟨rfl, hb4⟩
      have hB4 := btr hB3 hb4
      obtain ⟨v0_4, v1_4, v2_4⟩ : VB (w.heap.size) n k h w4 := VB_later hb4 ⟨v0_3, v1_3, v2_3⟩
      obtain ⟨u0_4, u1_4, u2_4⟩ : VB (w.heap.size + 1) m p q w4 := VB_later hb4 ⟨u0_3, u1_3, u2_3⟩
      have Xr4 := RB_later hb4 Xr3
      obtain ⟨x0, y0, z0, c0, c1, c2, f0, f1, f2⟩ := Xr4
      have h2 : w.heap.size ≤ w.heap.size + 1 + 1 := by omega
      unfold V
      go_wp2
      exact bodyPost_ret (v := V 1 (0#64) (0#64)) (by simp [results, Try.results91, go_sem, V, c0, c1, c2]) rfl ⟨rfl, bst (bst (bst hB4 h2 _) h2 _) h2 _⟩
  · have hu : (U (K &&& H) != 0) = true := by rw [hks, U_ne0]; simp [h0]
    rw [show eqV n m k h p q = 48 by unfold eqV; rw [(unhide HKH).2, if_pos h0], show Vb.kn [48] = 1#64 from rfl, show Vb.wh [48] = 0#64 from rfl]
    clear h0 hks
    unfold V
    go_enter Try.func91, Try.ntmps91
    go_wp2_with fail
    refine (iXor _ _ _ _ _ _ _).mono ?_
    rw [(unhide HKH).2, (unhide HKH).1]
    rintro e w1 ⟨rfl, hb1⟩
    have hB1 : Below w.heap.size w w1 := btr (bal (bal (bal (brf w) _) _) _) hb1
    obtain ⟨v0_1, v1_1, v2_1⟩ : VB (w.heap.size) n k h w1 := by refine VB_later hb1 ⟨?_, ?_, ?_⟩ <;> go_simp
    obtain ⟨u0_1, u1_1, u2_1⟩ : VB (w.heap.size + 1) m p q w1 := by refine VB_later hb1 ⟨?_, ?_, ?_⟩ <;> go_simp
    have Xr1 : RB (w.heap.size + 1 + 1) w1 := by refine RB_later hb1 ⟨.int .i64 0, .int .u64 0, .int .u64 0, ?_, ?_, ?_, ?_, ?_, ?_⟩ <;> go_simp
    unfold V
    go_wp2_with fail
    refine (iOnesB _ _ _ _).mono ?_
    rintro e w2 ⟨rfl, hb2⟩
    have hB2 := btr hB1 hb2
    obtain ⟨v0_2, v1_2, v2_2⟩ : VB (w.heap.size) n k h w2 := VB_later hb2 ⟨v0_1, v1_1, v2_1⟩
    obtain ⟨u0_2, u1_2, u2_2⟩ : VB (w.heap.size + 1) m p q w2 := VB_later hb2 ⟨u0_1, u1_1, u2_1⟩
    have Xr2 := RB_later hb2 Xr1
    go_wp2_with fail
    refine (iTruthVec false _).mono ?_
    rintro e w3 ⟨rfl, hb3⟩
    have hB3 := btr hB2 hb3
    obtain ⟨v0_3, v1_3, v2_3⟩ : VB (w.heap.size) n k h w3 := VB_later hb3 ⟨v0_2, v1_2, v2_2⟩
    obtain ⟨u0_3, u1_3, u2_3⟩ : VB (w.heap.size + 1) m p q w3 := VB_later hb3 ⟨u0_2, u1_2, u2_2⟩
    have Xr3 := RB_later hb3 Xr2
    obtain ⟨x0, y0, z0, c0, c1, c2, f0, f1, f2⟩ := Xr3
    have h2 : w.heap.size ≤ w.heap.size + 1 + 1 := by omega
    unfold V
    go_wp2
    exact bodyPost_ret (v := V 1 (1#64) (0#64)) (by simp [results, Try.results91, go_sem, V, c0, c1, c2]) rfl ⟨rfl, bst (bst (bst hB3 h2 _) h2 _) h2 _⟩
set_option maxHeartbeats 400000 in
theorem iUnequal (n m : Nat) (k h p q : BitVec 64) (hn : n ≤ 64) (hm : m ≤ 64) (w : World) :
    Calls Try.prog 92 #[V n k h, V m p q] w fun e w' => e = .returned (V 1 (Vb.kn [eqV n m k h p q] &&& Vb.wh [eqV n m k h p q] ||| Vb.kn [eqV n m k h p q] &&& ~~~Vb.wh [eqV n m k h p q]) (Vb.kn [eqV n m k h p q] &&& ~~~Vb.wh [eqV n m k h p q])) ∧ Below w.heap.size w w' := by
  generalize hT1 : Vb.kn [eqV n m k h p q] = T1
  generalize hT2 : Vb.wh [eqV n m k h p q] = T2
  have HT1 := hide hT1
  have HT2 := hide hT2
  clear hT1 hT2
  unfold V
  go_enter Try.func92, Try.ntmps92
  go_wp2_with fail
  refine (iEqual _ _ _ _ _ _ hn hm _).mono ?_
  rw [unhide HT1, unhide HT2]
  rintro e w1 ⟨rfl, hb1⟩
  have hB1 : Below w.heap.size w w1 := btr (bal (bal (bal (brf w) _) _) _) hb1
  obtain ⟨v0_1, v1_1, v2_1⟩ : VB (w.heap.size) n k h w1 := by refine VB_later hb1 ⟨?_, ?_, ?_⟩ <;> go_simp
  obtain ⟨u0_1, u1_1, u2_1⟩ : VB (w.heap.size + 1) m p q w1 := by refine VB_later hb1 ⟨?_, ?_, ?_⟩ <;> go_simp
  have Xr1 : RB (w.heap.size + 1 + 1) w1 := by refine RB_later hb1 ⟨.int .i64 0, .int .u64 0, .int .u64 0, ?_, ?_, ?_, ?_, ?_, ?_⟩ <;> go_simp
  unfold V
  go_wp2_with fail
  refine (iNot _ _ _ _).mono ?_
  rintro e w2 ⟨rfl, hb2⟩
  have hB2 := btr hB1 hb2
  obtain ⟨v0_2, v1_2, v2_2⟩ : VB (w.heap.size) n k h w2 := VB_later hb2 ⟨v0_1, v1_1, v2_1⟩
  obtain ⟨u0_2, u1_2, u2_2⟩ : VB (w.heap.size + 1) m p q w2 := VB_later hb2 ⟨u0_1, u1_1, u2_1⟩
  have Xr2 := RB_later hb2 Xr1
  obtain ⟨x0, y0, z0, c0, c1, c2, f0, f1, f2⟩ := Xr2
  have h2 : w.heap.size ≤ w.heap.size + 1 + 1 := by omega
  unfold V
  go_wp2
  exact bodyPost_ret (v := V 1 (T1 &&& T2 ||| T1 &&& ~~~T2) (T1 &&& ~~~T2)) (by simp [results, Try.results92, go_sem, V, c0, c1, c2]) rfl ⟨rfl, bst (bst (bst hB2 h2 _) h2 _) h2 _⟩
set_option maxHeartbeats 400000 in
theorem iSame (n m : Nat) (k h p q : BitVec 64) (w : World) :
    Calls Try.prog 93 #[V n k h, V m p q] w fun e w' => e = .returned (V 1 1#64 (if n = m ∧ k = p ∧ h = q then 1#64 else 0#64)) ∧ Below w.heap.size w w' := by
  by_cases hs : n = m ∧ k = p ∧ h = q
  · rw [if_pos hs]
    obtain ⟨rfl, rfl, rfl⟩ := hs
    unfold V
    go_enter Try.func93, Try.ntmps93
    go_wp2_with fail
    refine (iTruthVec true _).mono ?_
    rintro e w1 ⟨rfl, hb1⟩
    have hB1 : Below w.heap.size w w1 := btr (bal (bal (bal (brf w) _) _) _) hb1
    obtain ⟨v0_1, v1_1, v2_1⟩ : VB (w.heap.size) n k h w1 := by refine VB_later hb1 ⟨?_, ?_, ?_⟩ <;> go_simp
    obtain ⟨u0_1, u1_1, u2_1⟩ : VB (w.heap.size + 1) n k h w1 := by refine VB_later hb1 ⟨?_, ?_, ?_⟩ <;> go_simp
    have Xr1 : RB (w.heap.size + 1 + 1) w1 := by refine RB_later hb1 ⟨.int .i64 0, .int .u64 0, .int .u64 0, ?_, ?_, ?_, ?_, ?_, ?_⟩ <;> go_simp
    obtain ⟨x0, y0, z0, c0, c1, c2, f0, f1, f2⟩ := Xr1
    have h2 : w.heap.size ≤ w.heap.size + 1 + 1 := by omega
    unfold V
    go_wp2
    exact bodyPost_ret (v := V 1 (1#64) (1#64)) (by simp [results, Try.results93, go_sem, V, c0, c1, c2]) rfl ⟨rfl, bst (bst (bst hB1 h2 _) h2 _) h2 _⟩
  · rw [if_neg hs]
    by_cases hnm : n = m
    · subst hnm
      by_cases hkp : k = p
      · subst hkp
        have d1 : (h == q) = false := by rw [beq_eq_false_iff_ne]; intro e; exact hs ⟨rfl, rfl, e⟩
        clear hs
        unfold V
        go_enter Try.func93, Try.ntmps93
        go_wp2_with fail
        refine (iTruthVec false _).mono ?_
        rintro e w1 ⟨rfl, hb1⟩
        have hB1 : Below w.heap.size w w1 := btr (bal (bal (bal (brf w) _) _) _) hb1
        obtain ⟨v0_1, v1_1, v2_1⟩ : VB (w.heap.size) n k h w1 := by refine VB_later hb1 ⟨?_, ?_, ?_⟩ <;> go_simp
        obtain ⟨u0_1, u1_1, u2_1⟩ : VB (w.heap.size + 1) n k q w1 := by refine VB_later hb1 ⟨?_, ?_, ?_⟩ <;> go_simp
        have Xr1 : RB (w.heap.size + 1 + 1) w1 := by refine RB_later hb1 ⟨.int .i64 0, .int .u64 0, .int .u64 0, ?_, ?_, ?_, ?_, ?_, ?_⟩ <;> go_simp
        obtain ⟨x0, y0, z0, c0, c1, c2, f0, f1, f2⟩ := Xr1
        have h2 : w.heap.size ≤ w.heap.size + 1 + 1 := by omega
        unfold V
        go_wp2
        exact bodyPost_ret (v := V 1 (1#64) (0#64)) (by simp [results, Try.results93, go_sem, V, c0, c1, c2]) rfl ⟨rfl, bst (bst (bst hB1 h2 _) h2 _) h2 _⟩
      · have d1 : (k == p) = false := by rw [beq_eq_false_iff_ne]; exact hkp
        clear hs hkp
        unfold V
        go_enter Try.func93, Try.ntmps93
        go_wp2_with fail
        refine (iTruthVec false _).mono ?_
        rintro e w1 ⟨rfl, hb1⟩
        have hB1 : Below w.heap.size w w1 := btr (bal (bal (bal (brf w) _) _) _) hb1
        obtain ⟨v0_1, v1_1, v2_1⟩ : VB (w.heap.size) n k h w1 := by refine VB_later hb1 ⟨?_, ?_, ?_⟩ <;> go_simp
        obtain ⟨u0_1, u1_1, u2_1⟩ : VB (w.heap.size + 1) n p q w1 := by refine VB_later hb1 ⟨?_, ?_, ?_⟩ <;> go_simp
        have Xr1 : RB (w.heap.size + 1 + 1) w1 := by refine RB_later hb1 ⟨.int .i64 0, .int .u64 0, .int .u64 0, ?_, ?_, ?_, ?_, ?_, ?_⟩ <;> go_simp
        obtain ⟨x0, y0, z0, c0, c1, c2, f0, f1, f2⟩ := Xr1
        have h2 : w.heap.size ≤ w.heap.size + 1 + 1 := by omega
        unfold V
        go_wp2
        exact bodyPost_ret (v := V 1 (1#64) (0#64)) (by simp [results, Try.results93, go_sem, V, c0, c1, c2]) rfl ⟨rfl, bst (bst (bst hB1 h2 _) h2 _) h2 _⟩
    · have d1 : ((n : Int) == (m : Int)) = false := by rw [beq_eq_false_iff_ne]; omega
      clear hs hnm
      unfold V
      go_enter Try.func93, Try.ntmps93
      go_wp2_with fail
      refine (iTruthVec false _).mono ?_
      rintro e w1 ⟨rfl, hb1⟩
      have hB1 : Below w.heap.size w w1 := btr (bal (bal (bal (brf w) _) _) _) hb1
      obtain ⟨v0_1, v1_1, v2_1⟩ : VB (w.heap.size) n k h w1 := by refine VB_later hb1 ⟨?_, ?_, ?_⟩ <;> go_simp
      obtain ⟨u0_1, u1_1, u2_1⟩ : VB (w.heap.size + 1) m p q w1 := by refine VB_later hb1 ⟨?_, ?_, ?_⟩ <;> go_simp
      have Xr1 : RB (w.heap.size + 1 + 1) w1 := by refine RB_later hb1 ⟨.int .i64 0, .int .u64 0, .int .u64 0, ?_, ?_, ?_, ?_, ?_, ?_⟩ <;> go_simp
      obtain ⟨x0, y0, z0, c0, c1, c2, f0, f1, f2⟩ := Xr1
      have h2 : w.heap.size ≤ w.heap.size + 1 + 1 := by omega
      unfold V
      go_wp2
      exact bodyPost_ret (v := V 1 (1#64) (0#64)) (by simp [results, Try.results93, go_sem, V, c0, c1, c2]) rfl ⟨rfl, bst (bst (bst hB1 h2 _) h2 _) h2 _⟩
set_option maxRecDepth 100000 in
set_option maxHeartbeats 400000 in
theorem iBoth (n m : Nat) (k h p q : BitVec 64) (hn : n ≤ 64) (hm : m ≤ 64) (A B : BitVec 64) (hAB : ∀ w, Calls Try.prog 81 #[V 1 (Vb.kn [tru n k h]) (Vb.wh [tru n k h]), V 1 (Vb.kn [tru m p q]) (Vb.wh [tru m p q])] w fun e w' => e = .returned (V 1 A B) ∧ Below w.heap.size w w') (w : World) :
    Calls Try.prog 101 #[V n k h, V m p q] w fun e w' => e = .returned (V 1 A B) ∧ Below w.heap.size w w' := by
  generalize hT1 : Vb.kn [tru n k h] = T1 at *
  generalize hT2 : Vb.wh [tru n k h] = T2 at *
  generalize hT3 : Vb.kn [tru m p q] = T3 at *
  generalize hT4 : Vb.wh [tru m p q] = T4 at *
  have HTA : Hid (∀ w, Calls Try.prog 106 #[.agg #[.int .i64 n, .int .u64 (U k), .int .u64 (U h)]] w fun e w' => e = .returned (V 1 T1 T2) ∧ Below w.heap.size w w') := fun w => by
    have := iTruth n k h hn w
    rw [hT1, hT2] at this; exact this
  have HTB : Hid (∀ w, Calls Try.prog 106 #[.agg #[.int .i64 m, .int .u64 (U p), .int .u64 (U q)]] w fun e w' => e = .returned (V 1 T3 T4) ∧ Below w.heap.size w w') := fun w => by
    have := iTruth m p q hm w
    rw [hT3, hT4] at this; exact this
  have HAB := hide hAB
  clear hT1 hT2 hT3 hT4 hAB
  unfold V
  go_enter Try.func101, Try.ntmps101
  go_wp2_with fail
  have X0 : RB (w.heap.size + 1 + 1) (((w.alloc (.cells #[.int .i64 n, .int .u64 (U (k)), .int .u64 (U (h))] 60)).alloc (.cells #[.int .i64 m, .int .u64 (U (p)), .int .u64 (U (q))] 60)).alloc (.cells #[.int .i64 0, .int .u64 0, .int .u64 0] 60)) := by refine ⟨.int .i64 0, .int .u64 0, .int .u64 0, ?_, ?_, ?_, ?_, ?_, ?_⟩ <;> go_simp
  go_region_held3 (fun w' => w'.cell? ⟨w.heap.size, 0, none⟩ = some (.int .i64 n) ∧ w'.cell? ⟨w.heap.size, 1, none⟩ = some (.int .u64 (U k)) ∧ w'.cell? ⟨w.heap.size, 2, none⟩ = some (.int .u64 (U h)) ∧ w'.cell? ⟨w.heap.size + 1, 0, none⟩ = some (.int .i64 m) ∧ w'.cell? ⟨w.heap.size + 1, 1, none⟩ = some (.int .u64 (U p)) ∧ w'.cell? ⟨w.heap.size + 1, 2, none⟩ = some (.int .u64 (U q))) (first | (go_simp; done) | (refine ⟨?_, ?_, ?_, ?_, ?_, ?_⟩ <;> (refine cell_later hb ?_; go_simp)) | go_keep) (first | (go_at_call 106; first | (have R3x := R3; refine (unhide HTB _).mono ?_; rintro e w4 ⟨rfl, hb⟩; have R4 := RB_later hb R3; have hB4 := btr hB3 hb) | (refine (unhide HTA _).mono ?_; rintro e w3 ⟨rfl, hb⟩; have R3 := RB_later hb X0; have hB3 := btr (bdr (bal (bal (bal (brf w) _) _) _)) hb); unfold V) | (go_at_call 81; refine (unhide HAB _).mono ?_; rintro e w5 ⟨rfl, hb⟩; have hB5 := btr hB4 hb; obtain ⟨x0, y0, z0, c0, c1, c2, f0, f1, f2⟩ := RB_later hb R4; unfold V))
  go_wp2
  have h2 : w.heap.size ≤ w.heap.size + 1 + 1 := by omega
  exact bodyPost_ret (v := V 1 A B) (by simp [results, Try.results101, go_sem, V, c0, c1, c2]) rfl ⟨rfl, bst (bst (bst hB5 h2 _) h2 _) h2 _⟩
set_option maxRecDepth 100000 in
set_option maxHeartbeats 400000 in
theorem iEither (n m : Nat) (k h p q : BitVec 64) (hn : n ≤ 64) (hm : m ≤ 64) (A B : BitVec 64) (hAB : ∀ w, Calls Try.prog 82 #[V 1 (Vb.kn [tru n k h]) (Vb.wh [tru n k h]), V 1 (Vb.kn [tru m p q]) (Vb.wh [tru m p q])] w fun e w' => e = .returned (V 1 A B) ∧ Below w.heap.size w w') (w : World) :
    Calls Try.prog 102 #[V n k h, V m p q] w fun e w' => e = .returned (V 1 A B) ∧ Below w.heap.size w w' := by
  generalize hT1 : Vb.kn [tru n k h] = T1 at *
  generalize hT2 : Vb.wh [tru n k h] = T2 at *
  generalize hT3 : Vb.kn [tru m p q] = T3 at *
  generalize hT4 : Vb.wh [tru m p q] = T4 at *
  have HTA : Hid (∀ w, Calls Try.prog 106 #[.agg #[.int .i64 n, .int .u64 (U k), .int .u64 (U h)]] w fun e w' => e = .returned (V 1 T1 T2) ∧ Below w.heap.size w w') := fun w => by
    have := iTruth n k h hn w
    rw [hT1, hT2] at this; exact this
  have HTB : Hid (∀ w, Calls Try.prog 106 #[.agg #[.int .i64 m, .int .u64 (U p), .int .u64 (U q)]] w fun e w' => e = .returned (V 1 T3 T4) ∧ Below w.heap.size w w') := fun w => by
    have := iTruth m p q hm w
    rw [hT3, hT4] at this; exact this
  have HAB := hide hAB
  clear hT1 hT2 hT3 hT4 hAB
  unfold V
  go_enter Try.func102, Try.ntmps102
  go_wp2_with fail
  have X0 : RB (w.heap.size + 1 + 1) (((w.alloc (.cells #[.int .i64 n, .int .u64 (U (k)), .int .u64 (U (h))] 60)).alloc (.cells #[.int .i64 m, .int .u64 (U (p)), .int .u64 (U (q))] 60)).alloc (.cells #[.int .i64 0, .int .u64 0, .int .u64 0] 60)) := by refine ⟨.int .i64 0, .int .u64 0, .int .u64 0, ?_, ?_, ?_, ?_, ?_, ?_⟩ <;> go_simp
  go_region_held3 (fun w' => w'.cell? ⟨w.heap.size, 0, none⟩ = some (.int .i64 n) ∧ w'.cell? ⟨w.heap.size, 1, none⟩ = some (.int .u64 (U k)) ∧ w'.cell? ⟨w.heap.size, 2, none⟩ = some (.int .u64 (U h)) ∧ w'.cell? ⟨w.heap.size + 1, 0, none⟩ = some (.int .i64 m) ∧ w'.cell? ⟨w.heap.size + 1, 1, none⟩ = some (.int .u64 (U p)) ∧ w'.cell? ⟨w.heap.size + 1, 2, none⟩ = some (.int .u64 (U q))) (first | (go_simp; done) | (refine ⟨?_, ?_, ?_, ?_, ?_, ?_⟩ <;> (refine cell_later hb ?_; go_simp)) | go_keep) (first | (go_at_call 106; first | (have R3x := R3; refine (unhide HTB _).mono ?_; rintro e w4 ⟨rfl, hb⟩; have R4 := RB_later hb R3; have hB4 := btr hB3 hb) | (refine (unhide HTA _).mono ?_; rintro e w3 ⟨rfl, hb⟩; have R3 := RB_later hb X0; have hB3 := btr (bdr (bal (bal (bal (brf w) _) _) _)) hb); unfold V) | (go_at_call 82; refine (unhide HAB _).mono ?_; rintro e w5 ⟨rfl, hb⟩; have hB5 := btr hB4 hb; obtain ⟨x0, y0, z0, c0, c1, c2, f0, f1, f2⟩ := RB_later hb R4; unfold V))
  go_wp2
  have h2 : w.heap.size ≤ w.heap.size + 1 + 1 := by omega
  exact bodyPost_ret (v := V 1 A B) (by simp [results, Try.results102, go_sem, V, c0, c1, c2]) rfl ⟨rfl, bst (bst (bst hB5 h2 _) h2 _) h2 _⟩
end Go.Proofs.Ytmbllgblbdfobaa
