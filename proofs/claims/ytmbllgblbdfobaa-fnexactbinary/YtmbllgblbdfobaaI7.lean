/- What the program's choose answers. -/
import Derived.Test.YtmbllgblbdfobaaI6
import Derived.Test.YtmbllgblbdfobaaI2
namespace Go.Proofs.Ytmbllgblbdfobaa
open Go.RowKit
attribute [local go_sem] U_and U_or U_xor U_andNot U_shl U_shr U_shl1 U_or1 U_and1 U_toNat U_nonneg U_low U_beq U_bne
set_option maxHeartbeats 400000 in
theorem iChoose1 (n na nb : Nat) (k h p q r s : BitVec 64) (hn : n ≤ 64) (w : World) (ht : tru n k h = 49) :
    Calls Try.prog 73 #[V n k h, V na p q, V nb r s] w fun e w' => e = .returned (V na p q) ∧ Below w.heap.size w w' := by
  have HT := hide ht
  clear ht
  unfold V
  go_enter Try.func73, Try.ntmps73
  go_wp2_with fail
  refine (iTruth _ _ _ hn _).mono ?_
  rw [unhide HT, show Vb.kn [49] = 1#64 from rfl, show Vb.wh [49] = 1#64 from rfl]
  rintro e w1 ⟨rfl, hb1⟩
  have B1 : Below w.heap.size w w1 := btr (bal (bal (bal (bal (brf w) _) _) _) _) hb1
  have Va : VB (w.heap.size + 1) na p q w1 := by refine VB_later hb1 ⟨?_, ?_, ?_⟩ <;> go_simp
  have Vc : VB (w.heap.size + 1 + 1) nb r s w1 := by refine VB_later hb1 ⟨?_, ?_, ?_⟩ <;> go_simp
  have Ra : RB (w.heap.size + 1 + 1 + 1) w1 := by refine RB_later hb1 ⟨.int .i64 0, .int .u64 0, .int .u64 0, ?_, ?_, ?_, ?_, ?_, ?_⟩ <;> go_simp
  have hz1 : w.heap.size + 1 + 1 + 1 < w1.heap.size := by have := hb1.size; simp at this; omega
  have hz2 : w.heap.size + 1 + 1 < w1.heap.size := by omega
  have hz3 : w.heap.size + 1 < w1.heap.size := by omega
  have hz4 : w.heap.size < w1.heap.size := by omega
  obtain ⟨u0, u1, u2⟩ := Va
  obtain ⟨v0, v1, v2⟩ := Vc
  obtain ⟨x0, y0, z0, c0, c1, c2, f0, f1, f2⟩ := Ra
  unfold V
  have hu : (U (1#64 &&& 1#64) != 0) = true := rfl
  go_wp2_with (first | (go_at_call 114; refine (iOnes _ _ _ _).mono ?_; rintro e w2 ⟨rfl, rfl⟩) | (go_at_call 115; refine (iZeros _ _ _ _).mono ?_; rintro e w2 ⟨rfl, rfl⟩))
  refine bodyPost_ret (v := V na p q) (by simp [results, Try.results73, go_sem, V, c0, c1, c2, hz1, hz2]) rfl ⟨rfl, ?_⟩
  have h3 : w.heap.size ≤ w.heap.size + 1 + 1 + 1 := by omega
  exact bal (bal (bst (bst (bst B1 h3 _) h3 _) h3 _) _) _
set_option maxHeartbeats 400000 in
theorem iChoose0 (n na nb : Nat) (k h p q r s : BitVec 64) (hn : n ≤ 64) (w : World) (ht : tru n k h = 48) :
    Calls Try.prog 73 #[V n k h, V na p q, V nb r s] w fun e w' => e = .returned (V nb r s) ∧ Below w.heap.size w w' := by
  have HT := hide ht
  clear ht
  unfold V
  go_enter Try.func73, Try.ntmps73
  go_wp2_with fail
  refine (iTruth _ _ _ hn _).mono ?_
  rw [unhide HT, show Vb.kn [48] = 1#64 from rfl, show Vb.wh [48] = 0#64 from rfl]
  rintro e w1 ⟨rfl, hb1⟩
  have B1 : Below w.heap.size w w1 := btr (bal (bal (bal (bal (brf w) _) _) _) _) hb1
  have Va : VB (w.heap.size + 1) na p q w1 := by refine VB_later hb1 ⟨?_, ?_, ?_⟩ <;> go_simp
  have Vc : VB (w.heap.size + 1 + 1) nb r s w1 := by refine VB_later hb1 ⟨?_, ?_, ?_⟩ <;> go_simp
  have Ra : RB (w.heap.size + 1 + 1 + 1) w1 := by refine RB_later hb1 ⟨.int .i64 0, .int .u64 0, .int .u64 0, ?_, ?_, ?_, ?_, ?_, ?_⟩ <;> go_simp
  have hz1 : w.heap.size + 1 + 1 + 1 < w1.heap.size := by have := hb1.size; simp at this; omega
  have hz2 : w.heap.size + 1 + 1 < w1.heap.size := by omega
  have hz3 : w.heap.size + 1 < w1.heap.size := by omega
  have hz4 : w.heap.size < w1.heap.size := by omega
  obtain ⟨u0, u1, u2⟩ := Va
  obtain ⟨v0, v1, v2⟩ := Vc
  obtain ⟨x0, y0, z0, c0, c1, c2, f0, f1, f2⟩ := Ra
  unfold V
  have hu : (U (1#64 &&& 0#64) != 0) = false := rfl
  have hv : (U (1#64 &&& ~~~0#64) != 0) = true := rfl
  go_wp2_with (first | (go_at_call 114; refine (iOnes _ _ _ _).mono ?_; rintro e w2 ⟨rfl, rfl⟩) | (go_at_call 115; refine (iZeros _ _ _ _).mono ?_; rintro e w2 ⟨rfl, rfl⟩))
  refine bodyPost_ret (v := V nb r s) (by simp [results, Try.results73, go_sem, V, c0, c1, c2, hz1, hz2, hz3]) rfl ⟨rfl, ?_⟩
  have h3 : w.heap.size ≤ w.heap.size + 1 + 1 + 1 := by omega
  exact bal (bal (bal (bst (bst (bst B1 h3 _) h3 _) h3 _) _) _) _
set_option maxHeartbeats 400000 in
theorem iChoosex (n na nb : Nat) (k h p q r s : BitVec 64) (hn : n ≤ 64) (w : World) (ht : tru n k h = 120) :
    Calls Try.prog 73 #[V n k h, V na p q, V nb r s] w fun e w' => e = .returned (V na (p &&& ~~~q &&& (r &&& ~~~s) ||| (p &&& q &&& (r &&& s))) (p &&& q &&& (r &&& s))) ∧ Below w.heap.size w w' := by
  have HT := hide ht
  clear ht
  unfold V
  go_enter Try.func73, Try.ntmps73
  go_wp2_with fail
  refine (iTruth _ _ _ hn _).mono ?_
  rw [unhide HT, show Vb.kn [120] = 0#64 from rfl, show Vb.wh [120] = 0#64 from rfl]
  rintro e w1 ⟨rfl, hb1⟩
  have B1 : Below w.heap.size w w1 := btr (bal (bal (bal (bal (brf w) _) _) _) _) hb1
  have Va : VB (w.heap.size + 1) na p q w1 := by refine VB_later hb1 ⟨?_, ?_, ?_⟩ <;> go_simp
  have Vc : VB (w.heap.size + 1 + 1) nb r s w1 := by refine VB_later hb1 ⟨?_, ?_, ?_⟩ <;> go_simp
  have Ra : RB (w.heap.size + 1 + 1 + 1) w1 := by refine RB_later hb1 ⟨.int .i64 0, .int .u64 0, .int .u64 0, ?_, ?_, ?_, ?_, ?_, ?_⟩ <;> go_simp
  have hz1 : w.heap.size + 1 + 1 + 1 < w1.heap.size := by have := hb1.size; simp at this; omega
  have hz2 : w.heap.size + 1 + 1 < w1.heap.size := by omega
  have hz3 : w.heap.size + 1 < w1.heap.size := by omega
  have hz4 : w.heap.size < w1.heap.size := by omega
  have hp1 : w.heap.size < w1.heap.size + 1 := by omega
  have hp2 : w.heap.size < w1.heap.size + 1 + 1 := by omega
  have hp3 : w.heap.size < w1.heap.size + 1 + 1 + 1 := by omega
  have hp4 : w.heap.size < w1.heap.size + 1 + 1 + 1 + 1 := by omega
  have hp5 : w.heap.size < w1.heap.size + 1 + 1 + 1 + 1 + 1 := by omega
  have hp6 : w.heap.size < w1.heap.size + 1 + 1 + 1 + 1 + 1 + 1 := by omega
  have hp7 : w.heap.size < w1.heap.size + 1 + 1 + 1 + 1 + 1 + 1 + 1 := by omega
  have hp8 : w.heap.size < w1.heap.size + 1 + 1 + 1 + 1 + 1 + 1 + 1 + 1 := by omega
  obtain ⟨u0, u1, u2⟩ := Va
  obtain ⟨v0, v1, v2⟩ := Vc
  obtain ⟨x0, y0, z0, c0, c1, c2, f0, f1, f2⟩ := Ra
  unfold V
  have hu : (U (0#64 &&& 0#64) != 0) = false := rfl
  have hv : (U (0#64 &&& ~~~0#64) != 0) = false := rfl
  go_wp2_with (first | (go_at_call 114; refine (iOnes _ _ _ _).mono ?_; rintro e w2 ⟨rfl, rfl⟩) | (go_at_call 115; refine (iZeros _ _ _ _).mono ?_; rintro e w2 ⟨rfl, rfl⟩))
  go_region_held3 (fun w' => w'.cell? ⟨w.heap.size + 1, 0, none⟩ = some (.int .i64 na) ∧ w'.cell? ⟨w.heap.size + 1, 1, none⟩ = some (.int .u64 (U p)) ∧ w'.cell? ⟨w.heap.size + 1, 2, none⟩ = some (.int .u64 (U q)) ∧ w'.cell? ⟨w.heap.size + 1 + 1, 0, none⟩ = some (.int .i64 nb) ∧ w'.cell? ⟨w.heap.size + 1 + 1, 1, none⟩ = some (.int .u64 (U r)) ∧ w'.cell? ⟨w.heap.size + 1 + 1, 2, none⟩ = some (.int .u64 (U s))) (first | (go_simp; done) | (refine ⟨?_, ?_, ?_, ?_, ?_, ?_⟩ <;> (refine cell_later hb ?_; go_simp)) | go_keep) (first | (go_at_call 114; refine (iOnes _ _ _ _).mono ?_; rintro e w' ⟨rfl, rfl⟩) | (go_at_call 115; refine (iZeros _ _ _ _).mono ?_; rintro e w' ⟨rfl, rfl⟩) | (go_at_call 116; refine (iSettled _ _ _ _).mono ?_; rintro e w' ⟨rfl, rfl⟩))
  go_wp2
  refine bodyPost_ret (v := V na (p &&& ~~~q &&& (r &&& ~~~s) ||| (p &&& q &&& (r &&& s))) (p &&& q &&& (r &&& s))) (by simp [results, Try.results73, go_sem, V, c0, c1, c2, hz1, hz2, hz3, hz4, hp1, hp2, hp3, hp4]) rfl ⟨rfl, ?_⟩
  have h3 : w.heap.size ≤ w.heap.size + 1 + 1 + 1 := by omega
  exact bdr (bal (bal (bal (bal (bal (bal (bal (bal (bst (bst (bst B1 h3 _) h3 _) h3 _) _) _) _) _) _) _) _) _)

end Go.Proofs.Ytmbllgblbdfobaa
