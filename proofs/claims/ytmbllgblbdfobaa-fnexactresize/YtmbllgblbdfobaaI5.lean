/- What the program's resized answers. -/
import Derived.Test.YtmbllgblbdfobaaI4
import Derived.Test.YtmbllgblbdfobaaBox
import Derived.Deep.RegionWith
namespace Go.Proofs.Ytmbllgblbdfobaa
open Go.RowKit
attribute [local go_sem] U_and U_or U_xor U_andNot U_shl U_shr U_shl1 U_or1 U_and1 U_toNat U_nonneg U_low U_beq U_bne
set_option maxHeartbeats 400000 in
theorem iResized_no (n m : Nat) (k h : BitVec 64) (h2 : n ≤ 64) (h3 : m ≤ 64) (w : World) :
    Calls Try.prog 57 #[V n k h, .int .i64 m, .bool false] w fun e w' => e = .returned (V m (k &&& Vb.ones m &&& ~~~(Vb.ones m &&& ~~~Vb.ones n) ||| (Vb.ones m &&& ~~~Vb.ones n)) (h &&& Vb.ones m &&& ~~~(Vb.ones m &&& ~~~Vb.ones n))) ∧ Below w.heap.size w w' := by
  unfold V
  go_enter Try.func57, Try.ntmps57
  go_wp2_with fail
  go_region_held3 (fun w' => w'.cell? ⟨w.heap.size, 0, none⟩ = some (.int .i64 n) ∧ w'.cell? ⟨w.heap.size, 1, none⟩ = some (.int .u64 (U k)) ∧ w'.cell? ⟨w.heap.size, 2, none⟩ = some (.int .u64 (U h))) (first | (go_simp; done) | (refine ⟨?_, ?_, ?_⟩ <;> (refine cell_later hb ?_; go_simp)) | go_keep) (first | (go_at_call 80; refine (iMask _ _ _ ?_ _).mono ?_; omega; rintro e w' ⟨rfl, rfl⟩) | (go_at_call 109; refine (iLow _ _).mono ?_; rintro e w' ⟨rfl, rfl⟩))
  rw [Nat.mod_eq_of_lt (show m < 18446744073709551616 by omega)]
  go_wp2_with fail
  refine (iCut m _ _ h3 _).mono ?_
  rintro e w1 ⟨rfl, hb⟩
  have R0 : RB (w.heap.size + 1) w1 := by refine RB_later hb ⟨.int .i64 0, .int .u64 0, .int .u64 0, ?_, ?_, ?_, ?_, ?_, ?_⟩ <;> go_simp
  have R1 := RB_alloc R0 (.cells #[.int .i64 m, .int .u64 (U (k &&& Vb.ones m)), .int .u64 (U (h &&& Vb.ones m))] 60)
  have V1 : VB w1.heap.size m (k &&& Vb.ones m) (h &&& Vb.ones m) (w1.alloc (.cells #[.int .i64 m, .int .u64 (U (k &&& Vb.ones m)), .int .u64 (U (h &&& Vb.ones m))] 60)) := VB_new w1
  unfold V
  go_wp2_with fail
  go_region_with (first | (go_at_call 113; refine (iTruthVec false _).mono ?_; rintro e w2 ⟨rfl, hb2⟩; have V2 := VB_later hb2 V1; have R2 := RB_later hb2 R1; obtain ⟨v0, v1, v2⟩ := V2; unfold V) | (go_at_call 111; refine (iFilled _ _ _ _ _ _ _ _).mono ?_; rintro e w3 ⟨rfl, hb3⟩; have R3 := RB_later hb3 R2; obtain ⟨x0, y0, z0, c0, c1, c2, f0, f1, f2⟩ := R3; unfold V))
  all_goals go_wp2
  all_goals
    refine bodyPost_ret (v := .agg #[.int .i64 m, .int .u64 _, .int .u64 _]) (by simp [results, Try.results57, go_sem, c0, c1, c2]) rfl ⟨rfl, ?_⟩
    repeat first | exact brf _ | refine bdr ?_ | refine bst ?_ (by first | exact Nat.le_refl _ | (simp; done) | (simp; omega)) _ | refine btr ?_ hb3 | refine btr ?_ hb2 | refine btr ?_ hb | refine bal ?_ _
set_option maxHeartbeats 400000 in
theorem iResized_yes (n m : Nat) (k h : BitVec 64) (h1 : 1 ≤ n) (h2 : n ≤ 64) (h3 : m ≤ 64) (w : World) :
    Calls Try.prog 57 #[V n k h, .int .i64 m, .bool true] w fun e w' => e = .returned (V m (k &&& Vb.ones m &&& ~~~(Vb.ones m &&& ~~~Vb.ones n) ||| (if (k >>> (n - 1) &&& Vb.ones 1).getLsbD 0 then (Vb.ones m &&& ~~~Vb.ones n) else 0#64)) (h &&& Vb.ones m &&& ~~~(Vb.ones m &&& ~~~Vb.ones n) ||| (if (h >>> (n - 1) &&& Vb.ones 1).getLsbD 0 then (Vb.ones m &&& ~~~Vb.ones n) else 0#64))) ∧ Below w.heap.size w w' := by
  generalize hP : (if (k >>> (n - 1) &&& Vb.ones 1).getLsbD 0 then (Vb.ones m &&& ~~~Vb.ones n) else 0#64) = P
  generalize hQ : (if (h >>> (n - 1) &&& Vb.ones 1).getLsbD 0 then (Vb.ones m &&& ~~~Vb.ones n) else 0#64) = Q
  have HP := hide hP
  have HQ := hide hQ
  clear hP hQ
  unfold V
  go_enter Try.func57, Try.ntmps57
  go_wp2_with fail
  go_region_held3 (fun w' => w'.cell? ⟨w.heap.size, 0, none⟩ = some (.int .i64 n) ∧ w'.cell? ⟨w.heap.size, 1, none⟩ = some (.int .u64 (U k)) ∧ w'.cell? ⟨w.heap.size, 2, none⟩ = some (.int .u64 (U h))) (first | (go_simp; done) | (refine ⟨?_, ?_, ?_⟩ <;> (refine cell_later hb ?_; go_simp)) | go_keep) (first | (go_at_call 80; refine (iMask _ _ _ ?_ _).mono ?_; omega; rintro e w' ⟨rfl, rfl⟩) | (go_at_call 109; refine (iLow _ _).mono ?_; rintro e w' ⟨rfl, rfl⟩))
  rw [Nat.mod_eq_of_lt (show m < 18446744073709551616 by omega)]
  go_wp2_with fail
  refine (iCut m _ _ h3 _).mono ?_
  rintro e w1 ⟨rfl, hb⟩
  have R0 : RB (w.heap.size + 1) w1 := by refine RB_later hb ⟨.int .i64 0, .int .u64 0, .int .u64 0, ?_, ?_, ?_, ?_, ?_, ?_⟩ <;> go_simp
  have X0 : VB w.heap.size n k h w1 := by refine VB_later hb ⟨?_, ?_, ?_⟩ <;> go_simp
  have X1 := VB_alloc X0 (.cells #[.int .i64 m, .int .u64 (U (k &&& Vb.ones m)), .int .u64 (U (h &&& Vb.ones m))] 60)
  obtain ⟨u0, u1, u2⟩ := X1
  have R1 := RB_alloc R0 (.cells #[.int .i64 m, .int .u64 (U (k &&& Vb.ones m)), .int .u64 (U (h &&& Vb.ones m))] 60)
  have V1 : VB w1.heap.size m (k &&& Vb.ones m) (h &&& Vb.ones m) (w1.alloc (.cells #[.int .i64 m, .int .u64 (U (k &&& Vb.ones m)), .int .u64 (U (h &&& Vb.ones m))] 60)) := VB_new w1
  unfold V
  go_wp2_with fail
  go_region_with (first | (go_at_call 112; refine (iHighest _ _ _ h1 h2 _).mono ?_; rintro e w2 ⟨rfl, hb2⟩; have V2 := VB_later hb2 V1; have R2 := RB_later hb2 R1; obtain ⟨v0, v1, v2⟩ := V2; unfold V) | (go_at_call 111; refine (iFilled _ _ _ _ _ _ _ _).mono ?_; rw [unhide HP, unhide HQ]; rintro e w3 ⟨rfl, hb3⟩; have R3 := RB_later hb3 R2; obtain ⟨x0, y0, z0, c0, c1, c2, f0, f1, f2⟩ := R3; unfold V))
  all_goals go_wp2
  all_goals
    refine bodyPost_ret (v := .agg #[.int .i64 m, .int .u64 _, .int .u64 _]) (by simp [results, Try.results57, go_sem, c0, c1, c2]) rfl ⟨rfl, ?_⟩
    repeat first | exact brf _ | refine bdr ?_ | refine bst ?_ (by first | exact Nat.le_refl _ | (simp; done) | (simp; omega)) _ | refine btr ?_ hb3 | refine btr ?_ hb2 | refine btr ?_ hb | refine bal ?_ _
end Go.Proofs.Ytmbllgblbdfobaa
