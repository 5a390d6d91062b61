/- What the program's slice, filled, highest answer. -/
import Derived.Test.YtmbllgblbdfobaaI3
import Derived.Test.YtmbllgblbdfobaaIT
namespace Go.Proofs.Ytmbllgblbdfobaa
open Go.RowKit
attribute [local go_sem] U_and U_or U_xor U_andNot U_shl U_shr U_shl1 U_or1 U_and1 U_toNat U_nonneg U_low U_beq U_bne
set_option maxHeartbeats 400000 in
theorem iSlice_ge (n m : Nat) (k h : BitVec 64) (low : Nat) (hl : (low : Int) ≤ 9223372036854775807) (hm : m ≤ 64) (w : World) :
    Calls Try.prog 58 #[V n k h, .int .i64 low, .int .i64 m] w fun e w' => e = .returned (V m (k >>> low &&& Vb.ones m) (h >>> low &&& Vb.ones m)) ∧ Below w.heap.size w w' := by
  unfold V
  go_enter Try.func58, Try.ntmps58
  go_wp2_with fail
  refine (iCut m _ _ hm _).mono ?_
  rintro e w1 ⟨rfl, hb⟩
  obtain ⟨hc, hf⟩ := bcell hb
  unfold V
  go_wp2
  refine bodyPost_ret (v := V m (k >>> low &&& Vb.ones m) (h >>> low &&& Vb.ones m)) (by simp [results, Try.results58, go_sem, V, hc]) rfl ⟨rfl, ?_⟩
  repeat first | exact brf _ | refine bdr ?_ | refine bst ?_ (by first | exact Nat.le_refl _ | (simp; done) | (simp; omega)) _ | refine btr ?_ hb | refine bal ?_ _
theorem neg_wrap (low : Int) (hl : low < 0) (hl2 : -9223372036854775808 ≤ low) : (IntKind.u64.wrap (-IntKind.u64.wrap low)).toNat = (-low).toNat := by
  rw [IntKind.wrap_u64, IntKind.wrap_u64]; omega
set_option maxHeartbeats 400000 in
theorem iSlice_lt (n m : Nat) (k h : BitVec 64) (low : Int) (hl : low < 0) (hl2 : -9223372036854775808 ≤ low) (hm : m ≤ 64) (w : World) :
    Calls Try.prog 58 #[V n k h, .int .i64 low, .int .i64 m] w fun e w' => e = .returned (V m (k <<< (-low).toNat &&& Vb.ones m) (h <<< (-low).toNat &&& Vb.ones m)) ∧ Below w.heap.size w w' := by
  unfold V
  go_enter Try.func58, Try.ntmps58
  go_wp2_with fail
  rw [neg_wrap low hl hl2]
  refine (iCut m _ _ hm _).mono ?_
  rintro e w1 ⟨rfl, hb⟩
  obtain ⟨hc, hf⟩ := bcell hb
  unfold V
  go_wp2
  refine bodyPost_ret (v := V m (k <<< (-low).toNat &&& Vb.ones m) (h <<< (-low).toNat &&& Vb.ones m)) (by simp [results, Try.results58, go_sem, V, hc]) rfl ⟨rfl, ?_⟩
  repeat first | exact brf _ | refine bdr ?_ | refine bst ?_ (by first | exact Nat.le_refl _ | (simp; done) | (simp; omega)) _ | refine btr ?_ hb | refine bal ?_ _
theorem bit0 (p : BitVec 64) : (U (p &&& 1#64) != 0) = p.getLsbD 0 := by
  have e := and1 p 0
  rw [show p >>> 0 = p from by simp] at e
  rw [e]
  cases p.getLsbD 0 <;> rfl
set_option maxHeartbeats 400000 in
theorem iFilled (n m : Nat) (k h p q r : BitVec 64) (w : World) :
    Calls Try.prog 111 #[V n k h, .int .u64 (U r), V m p q] w fun e w' => e = .returned (V n (k &&& ~~~r ||| (if p.getLsbD 0 then r else 0#64)) (h &&& ~~~r ||| (if q.getLsbD 0 then r else 0#64))) ∧ Below w.heap.size w w' := by
  have hp := bit0 p
  have hq := bit0 q
  unfold V
  cases h1 : p.getLsbD 0 <;> cases h2 : q.getLsbD 0 <;> rw [h1] at hp <;> rw [h2] at hq <;> clear h1 h2 <;> simp only [Bool.false_eq_true, if_true, if_false, BitVec.or_zero]
  all_goals
    go_enter Try.func111, Try.ntmps111
    go_wp2
    refine bodyPost_ret (v := .agg #[.int .i64 n, .int .u64 _, .int .u64 _]) (by simp [results, Try.results111, go_sem]) rfl ⟨rfl, ?_⟩
    repeat first | exact brf _ | refine bdr ?_ | refine bst ?_ (by first | exact Nat.le_refl _ | (simp; done) | (simp; omega)) _ | refine bal ?_ _
set_option maxHeartbeats 400000 in
theorem iHighest (n : Nat) (k h : BitVec 64) (h1 : 1 ≤ n) (h2 : n ≤ 64) (w : World) :
    Calls Try.prog 112 #[V n k h] w fun e w' => e = .returned (V 1 (k >>> (n - 1) &&& Vb.ones 1) (h >>> (n - 1) &&& Vb.ones 1)) ∧ Below w.heap.size w w' := by
  unfold V
  go_enter Try.func112, Try.ntmps112
  go_wp2_with fail
  rw [show ((n : Int) - 1) = ((n - 1 : Nat) : Int) by omega]
  refine (iSlice_ge n 1 k h (n - 1) (by omega) (by omega) _).mono ?_
  rintro e w1 ⟨rfl, hb⟩
  obtain ⟨hc, hf⟩ := bcell hb
  unfold V
  go_wp2
  refine bodyPost_ret (v := V 1 (k >>> (n - 1) &&& Vb.ones 1) (h >>> (n - 1) &&& Vb.ones 1)) (by simp [results, Try.results112, go_sem, V, hc]) rfl ⟨rfl, ?_⟩
  repeat first | exact brf _ | refine bdr ?_ | refine bst ?_ (by first | exact Nat.le_refl _ | (simp; done) | (simp; omega)) _ | refine btr ?_ hb | refine bal ?_ _
end Go.Proofs.Ytmbllgblbdfobaa
