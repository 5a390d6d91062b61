/- What the program's small vector functions answer. -/
import Derived.Test.YtmbllgblbdfobaaI1
import Derived.Deep.RegionHeld3
namespace Go.Proofs.Ytmbllgblbdfobaa
open Go.RowKit
attribute [local go_sem] U_and U_or U_xor U_andNot U_shl U_shr U_shl1 U_or1 U_and1 U_toNat U_nonneg U_low U_beq U_bne
set_option maxHeartbeats 400000 in
theorem iLow (c : Nat) (w : World) :
    Calls Try.prog 109 #[.int .u64 (c : Int)] w fun e w' => e = .returned (.int .u64 (U (Vb.ones c))) ∧ w' = w := by
  go_enter Try.func109, Try.ntmps109
  go_wp2
  go_ret
  exact ⟨rfl, rfl⟩
set_option maxHeartbeats 400000 in
theorem iMask (n : Nat) (k h : BitVec 64) (hn : n ≤ 64) (w : World) :
    Calls Try.prog 80 #[.agg #[.int .i64 n, .int .u64 (U (k)), .int .u64 (U (h))]] w fun e w' => e = .returned (.int .u64 (U (Vb.ones n))) ∧ w.alloc (.cells #[.int .i64 n, .int .u64 (U (k)), .int .u64 (U (h))] 60) = w' := by
  go_enter Try.func80, Try.ntmps80
  go_wp2_with (go_at_call 109; refine (iLow _ _).mono ?_; rintro e w' ⟨rfl, rfl⟩)
  go_ret
  exact ⟨rfl, rfl⟩
set_option maxHeartbeats 400000 in
theorem iOnes (n : Nat) (k h : BitVec 64) (w : World) :
    Calls Try.prog 114 #[.agg #[.int .i64 n, .int .u64 (U (k)), .int .u64 (U (h))]] w fun e w' => e = .returned (.int .u64 (U (k &&& h))) ∧ w.alloc (.cells #[.int .i64 n, .int .u64 (U (k)), .int .u64 (U (h))] 60) = w' := by
  go_enter Try.func114, Try.ntmps114
  go_wp2
  go_ret
  exact ⟨rfl, rfl⟩
set_option maxHeartbeats 400000 in
theorem iZeros (n : Nat) (k h : BitVec 64) (w : World) :
    Calls Try.prog 115 #[.agg #[.int .i64 n, .int .u64 (U (k)), .int .u64 (U (h))]] w fun e w' => e = .returned (.int .u64 (U (k &&& ~~~h))) ∧ w.alloc (.cells #[.int .i64 n, .int .u64 (U (k)), .int .u64 (U (h))] 60) = w' := by
  go_enter Try.func115, Try.ntmps115
  go_wp2
  go_ret
  exact ⟨rfl, rfl⟩
set_option maxHeartbeats 400000 in
theorem iUndriven (n : Nat) (k h : BitVec 64) (w : World) :
    Calls Try.prog 117 #[.agg #[.int .i64 n, .int .u64 (U (k)), .int .u64 (U (h))]] w fun e w' => e = .returned (.int .u64 (U (h &&& ~~~k))) ∧ w.alloc (.cells #[.int .i64 n, .int .u64 (U (k)), .int .u64 (U (h))] 60) = w' := by
  go_enter Try.func117, Try.ntmps117
  go_wp2
  go_ret
  exact ⟨rfl, rfl⟩
set_option maxHeartbeats 400000 in
theorem iSettled (n : Nat) (z o : BitVec 64) (w : World) :
    Calls Try.prog 116 #[.int .i64 n, .int .u64 (U z), .int .u64 (U o)] w fun e w' => e = .returned (.agg #[.int .i64 n, .int .u64 (U (z ||| o)), .int .u64 (U (o))]) ∧ w.alloc (.cells #[.int .i64 n, .int .u64 (U (z ||| o)), .int .u64 (U (o))] 60) = w' := by
  go_enter Try.func116, Try.ntmps116
  go_wp2
  exact bodyPost_ret (v := .agg #[.int .i64 n, .int .u64 (U (z ||| o)), .int .u64 (U (o))]) (by simp [results, Try.results116, go_sem]) rfl ⟨rfl, rfl⟩
set_option maxHeartbeats 400000 in
theorem iUnknown (n : Nat) (w : World) :
    Calls Try.prog 122 #[.int .i64 n] w fun e w' => e = .returned (V n 0#64 0#64) ∧ Below w.heap.size w w' := by
  go_enter Try.func122, Try.ntmps122
  go_wp2
  exact bodyPost_ret (v := V n 0#64 0#64) (by simp [results, Try.results122, go_sem, V, U]) rfl ⟨rfl, bal (brf _) _⟩
set_option maxHeartbeats 400000 in
theorem iIsKnown (n : Nat) (k h : BitVec 64) (hn : n ≤ 64) (w : World) :
    Calls Try.prog 49 #[V n k h] w fun e w' => e = .returned (.bool (k == Vb.ones n)) ∧ Below w.heap.size w w' := by
  unfold V
  go_enter Try.func49, Try.ntmps49
  go_wp2
  go_region_held3 (fun w' => w'.cell? ⟨w.heap.size, 0, none⟩ = some (.int .i64 n) ∧ w'.cell? ⟨w.heap.size, 1, none⟩ = some (.int .u64 (U k)) ∧ w'.cell? ⟨w.heap.size, 2, none⟩ = some (.int .u64 (U h))) (first | (go_simp; done) | (refine ⟨?_, ?_, ?_⟩ <;> (refine cell_later hb ?_; go_simp)) | go_keep) (first | (go_at_call 80; refine (iMask _ _ _ ?_ _).mono ?_; omega; rintro e w' ⟨rfl, rfl⟩))
  go_wp2
  go_ret
  exact ⟨rfl, bdr (bal (bal (brf _) _) _)⟩
set_option maxHeartbeats 400000 in
theorem iCut (n : Nat) (k h : BitVec 64) (hn : n ≤ 64) (w : World) :
    Calls Try.prog 110 #[.agg #[.int .i64 n, .int .u64 (U (k)), .int .u64 (U (h))]] w fun e w' => e = .returned (V n (k &&& Vb.ones n) (h &&& Vb.ones n)) ∧ Below w.heap.size w w' := by
  go_enter Try.func110, Try.ntmps110
  go_wp2
  go_region_held3 (fun w' => w'.cell? ⟨w.heap.size, 0, none⟩ = some (.int .i64 n) ∧ w'.cell? ⟨w.heap.size, 1, none⟩ = some (.int .u64 (U k)) ∧ w'.cell? ⟨w.heap.size, 2, none⟩ = some (.int .u64 (U h))) (first | (go_simp; done) | (refine ⟨?_, ?_, ?_⟩ <;> (refine cell_later hb ?_; go_simp)) | go_keep) (first | (go_at_call 80; refine (iMask _ _ _ ?_ _).mono ?_; omega; rintro e w' ⟨rfl, rfl⟩))
  go_wp2
  exact bodyPost_ret (v := V n (k &&& Vb.ones n) (h &&& Vb.ones n)) (by simp [results, Try.results110, go_sem, V]) rfl ⟨rfl, bdr (bal (bal (bal (bal (brf _) _) _) _) _)⟩
set_option maxHeartbeats 400000 in
theorem iAnd (n m : Nat) (k h p q : BitVec 64) (w : World) :
    Calls Try.prog 81 #[V n k h, V m p q] w fun e w' => e = .returned (V n (k &&& ~~~h ||| p &&& ~~~q ||| (k &&& h &&& (p &&& q))) (k &&& h &&& (p &&& q))) ∧ Below w.heap.size w w' := by
  unfold V
  go_enter Try.func81, Try.ntmps81
  go_wp2
  go_region_held3 (fun w' => w'.cell? ⟨w.heap.size, 0, none⟩ = some (.int .i64 n) ∧ w'.cell? ⟨w.heap.size, 1, none⟩ = some (.int .u64 (U k)) ∧ w'.cell? ⟨w.heap.size, 2, none⟩ = some (.int .u64 (U h)) ∧ w'.cell? ⟨w.heap.size + 1, 0, none⟩ = some (.int .i64 m) ∧ w'.cell? ⟨w.heap.size + 1, 1, none⟩ = some (.int .u64 (U p)) ∧ w'.cell? ⟨w.heap.size + 1, 2, none⟩ = some (.int .u64 (U q))) (first | (go_simp; done) | (refine ⟨?_, ?_, ?_, ?_, ?_, ?_⟩ <;> (refine cell_later hb ?_; go_simp)) | go_keep) (first | (go_at_call 114; refine (iOnes _ _ _ _).mono ?_; rintro e w' ⟨rfl, rfl⟩) | (go_at_call 115; refine (iZeros _ _ _ _).mono ?_; rintro e w' ⟨rfl, rfl⟩) | (go_at_call 117; refine (iUndriven _ _ _ _).mono ?_; rintro e w' ⟨rfl, rfl⟩) | (go_at_call 116; refine (iSettled _ _ _ _).mono ?_; rintro e w' ⟨rfl, rfl⟩))
  go_wp2
  refine bodyPost_ret (v := V n (k &&& ~~~h ||| p &&& ~~~q ||| (k &&& h &&& (p &&& q))) (k &&& h &&& (p &&& q))) (by simp [results, Try.results81, go_sem, V]) rfl ⟨rfl, ?_⟩
  repeat first | exact brf _ | refine bdr ?_ | refine bal ?_ _
set_option maxHeartbeats 400000 in
theorem iOr (n m : Nat) (k h p q : BitVec 64) (w : World) :
    Calls Try.prog 82 #[V n k h, V m p q] w fun e w' => e = .returned (V n (k &&& ~~~h &&& (p &&& ~~~q) ||| (k &&& h ||| p &&& q)) (k &&& h ||| p &&& q)) ∧ Below w.heap.size w w' := by
  unfold V
  go_enter Try.func82, Try.ntmps82
  go_wp2
  go_region_held3 (fun w' => w'.cell? ⟨w.heap.size, 0, none⟩ = some (.int .i64 n) ∧ w'.cell? ⟨w.heap.size, 1, none⟩ = some (.int .u64 (U k)) ∧ w'.cell? ⟨w.heap.size, 2, none⟩ = some (.int .u64 (U h)) ∧ w'.cell? ⟨w.heap.size + 1, 0, none⟩ = some (.int .i64 m) ∧ w'.cell? ⟨w.heap.size + 1, 1, none⟩ = some (.int .u64 (U p)) ∧ w'.cell? ⟨w.heap.size + 1, 2, none⟩ = some (.int .u64 (U q))) (first | (go_simp; done) | (refine ⟨?_, ?_, ?_, ?_, ?_, ?_⟩ <;> (refine cell_later hb ?_; go_simp)) | go_keep) (first | (go_at_call 114; refine (iOnes _ _ _ _).mono ?_; rintro e w' ⟨rfl, rfl⟩) | (go_at_call 115; refine (iZeros _ _ _ _).mono ?_; rintro e w' ⟨rfl, rfl⟩) | (go_at_call 117; refine (iUndriven _ _ _ _).mono ?_; rintro e w' ⟨rfl, rfl⟩) | (go_at_call 116; refine (iSettled _ _ _ _).mono ?_; rintro e w' ⟨rfl, rfl⟩))
  go_wp2
  refine bodyPost_ret (v := V n (k &&& ~~~h &&& (p &&& ~~~q) ||| (k &&& h ||| p &&& q)) (k &&& h ||| p &&& q)) (by simp [results, Try.results82, go_sem, V]) rfl ⟨rfl, ?_⟩
  repeat first | exact brf _ | refine bdr ?_ | refine bal ?_ _
set_option maxHeartbeats 400000 in
theorem iXor (n m : Nat) (k h p q : BitVec 64) (w : World) :
    Calls Try.prog 83 #[V n k h, V m p q] w fun e w' => e = .returned (V n (k &&& p &&& ~~~(h ^^^ q) ||| (k &&& p &&& (h ^^^ q))) (k &&& p &&& (h ^^^ q))) ∧ Below w.heap.size w w' := by
  unfold V
  go_enter Try.func83, Try.ntmps83
  go_wp2_with (go_at_call 116; refine (iSettled _ _ _ _).mono ?_; rintro e w' ⟨rfl, rfl⟩)
  refine bodyPost_ret (v := V n (k &&& p &&& ~~~(h ^^^ q) ||| (k &&& p &&& (h ^^^ q))) (k &&& p &&& (h ^^^ q))) (by simp [results, Try.results83, go_sem, V]) rfl ⟨rfl, ?_⟩
  repeat first | exact brf _ | refine bdr ?_ | refine bal ?_ _
set_option maxHeartbeats 400000 in
theorem iResolved (n m : Nat) (k h p q : BitVec 64) (w : World) :
    Calls Try.prog 76 #[V n k h, V m p q] w fun e w' => e = .returned (V n ((k &&& (q &&& ~~~p ||| k &&& p &&& ~~~(h ^^^ q))) ||| (p &&& (h &&& ~~~k))) ((h &&& (q &&& ~~~p ||| k &&& p &&& ~~~(h ^^^ q))) ||| (q &&& (h &&& ~~~k)))) ∧ Below w.heap.size w w' := by
  unfold V
  go_enter Try.func76, Try.ntmps76
  go_wp2
  refine bodyPost_ret (v := V n ((k &&& (q &&& ~~~p ||| k &&& p &&& ~~~(h ^^^ q))) ||| (p &&& (h &&& ~~~k))) ((h &&& (q &&& ~~~p ||| k &&& p &&& ~~~(h ^^^ q))) ||| (q &&& (h &&& ~~~k)))) (by simp [results, Try.results76, go_sem, V]) rfl ⟨rfl, ?_⟩
  repeat first | exact brf _ | refine bdr ?_ | refine bal ?_ _
set_option maxHeartbeats 400000 in
theorem iNot (n : Nat) (k h : BitVec 64) (w : World) :
    Calls Try.prog 103 #[V n k h] w fun e w' => e = .returned (V n (k &&& h ||| k &&& ~~~h) (k &&& ~~~h)) ∧ Below w.heap.size w w' := by
  unfold V
  go_enter Try.func103, Try.ntmps103
  go_wp2
  go_region_held3 (fun w' => w'.cell? ⟨w.heap.size, 0, none⟩ = some (.int .i64 n) ∧ w'.cell? ⟨w.heap.size, 1, none⟩ = some (.int .u64 (U k)) ∧ w'.cell? ⟨w.heap.size, 2, none⟩ = some (.int .u64 (U h))) (first | (go_simp; done) | (refine ⟨?_, ?_, ?_⟩ <;> (refine cell_later hb ?_; go_simp)) | go_keep) (first | (go_at_call 114; refine (iOnes _ _ _ _).mono ?_; rintro e w' ⟨rfl, rfl⟩) | (go_at_call 115; refine (iZeros _ _ _ _).mono ?_; rintro e w' ⟨rfl, rfl⟩) | (go_at_call 117; refine (iUndriven _ _ _ _).mono ?_; rintro e w' ⟨rfl, rfl⟩) | (go_at_call 116; refine (iSettled _ _ _ _).mono ?_; rintro e w' ⟨rfl, rfl⟩))
  go_wp2
  refine bodyPost_ret (v := V n (k &&& h ||| k &&& ~~~h) (k &&& ~~~h)) (by simp [results, Try.results103, go_sem, V]) rfl ⟨rfl, ?_⟩
  repeat first | exact brf _ | refine bdr ?_ | refine bal ?_ _
end Go.Proofs.Ytmbllgblbdfobaa
