/- What the specification's Binary answers: equal, unequal, the same, both, either. -/
import Derived.Test.YtmbllgblbdfobaaS14
namespace Go.Proofs.Ytmbllgblbdfobaa
open Go.RowKit
set_option linter.unusedVariables false
/-- Whether two texts are equal, letter by letter. -/
def eqL (a b : List UInt8) : UInt8 := (List.zipWith (fun x y => notB (xorB x y)) a b).foldl andB 49
theorem eqL_step (a b : ByteArray) (k : Nat) (ha : k < a.size) (hb : k < b.size) : eqL ((L a).take (k + 1)) ((L b).take (k + 1)) = andB (eqL ((L a).take k) ((L b).take k)) (notB (xorB a[k] b[k])) := by
  unfold eqL; rw [zip_step _ a b k ha hb, List.foldl_append]; rfl
set_option maxRecDepth 100000 in
set_option maxHeartbeats 1000000 in
theorem sBin9 (sg : Bool) (a b : ByteArray) (n : Nat) (w : World) (ha : a.size ≤ maxLen) (hb : b.size ≤ maxLen) (va : Vb.okV (L a) = true) (vb : Vb.okV (L b) = true) (ea : a.size = n) (eb : b.size = n) :
    Calls Try.prog 28 #[.int .i64 9, .bool sg, .string a, .string b] w fun e w' => e = .returned (.string (S ([eqL (L a) (L b)]))) ∧ Below w.heap.size w w' := by
  obtain ⟨a1, a2, a3⟩ := (okV_iff a).1 va
  obtain ⟨b1, b2, b3⟩ := (okV_iff b).1 vb
  have VA := hide va
  have VBB := hide vb
  have HA := hide ha
  have HBB := hide hb
  rw [ea] at a1 a2
  rw [eb] at b1 b2
  have A3 := hide a3
  have B3 := hide b3
  clear va vb ha hb a3 b3
  generalize hkB : (L b).all Vb.knB = kB
  cases hkA : (L a).all Vb.knB
  all_goals
    have KA := hide hkA
    have KB := hide hkB
    clear hkA hkB
    go_enter Try.func28, Try.ntmps28
    go_wp2_with (first | (go_at_call_of 35 (Value.string a); refine (sOK1 a _ (unhide HA) (unhide VA)).mono ?_; rintro e w' ⟨rfl, rfl⟩) | (go_at_call_of 35 (Value.string b); refine (sOK1 b _ (unhide HBB) (unhide VBB)).mono ?_; rintro e w' ⟨rfl, rfl⟩) | (go_at_call_of 47 (Value.string a); refine (sKn a _ _ (unhide HA) (unhide KA)).mono ?_; rintro e w' ⟨rfl, rfl⟩) | (go_at_call_of 47 (Value.string b); refine (sKn b _ _ (unhide HBB) (unhide KB)).mono ?_; rintro e w' ⟨rfl, rfl⟩))
    go_loopw [12, 13] (fun c i wr => ∃ k : Nat, k ≤ n ∧ i = .int .i64 k ∧ c = .int .u8 ((eqL ((L a).take k) ((L b).take k)).toNat : Int) ∧ Below w.heap.size w wr) (fun _ i _ => n - (intOf i).toNat)
    case atStart => exact ⟨0, Nat.zero_le _, rfl, rfl, brf _⟩
    case round =>
      obtain ⟨k, hk, rfl, rfl, hbel⟩ := hrel
      by_cases hlt : k < n
      · have hlta : k < a.size := by omega
        have hltb : k < b.size := by omega
        have st := eqL_step a b k hlta hltb
        generalize eqL ((L a).take k) ((L b).take k) = c0 at *
        have ST := hide st
        clear st
        have j1 : (k : Int) < n := by omega
        go_wp2
        go_quiet ((first | (go_at_call 61; exact Calls.quiet_of_same (sAnd _ _ _)) | (go_at_call 63; exact Calls.quiet_of_same (sXor _ _ _)) | (go_at_call 65; exact Calls.quiet_of_same (sNot _ _))))
        go_wp2
        exact ⟨⟨k + 1, by omega, by go_num, by rw [unhide ST], below_drewN hbel _⟩, by simp [intOf]; omega⟩
      · have hcv := one_string ((eqL (L a) (L b)).toNat : Int) (eqL (L a) (L b)) rfl
        rw [L_take_all a k (by omega), L_take_all b k (by omega)]
        generalize hC0 : eqL (L a) (L b) = c0 at *
        have HC0 := hide hC0
        clear hC0
        go_wp2_with (first | (go_at_call 65; refine (sNot _ _).mono ?_; rintro e w' ⟨rfl, rfl⟩))
        go_ret
        exact ⟨by rw [unhide HC0]; rfl, bal hbel _⟩
set_option maxRecDepth 100000 in
set_option maxHeartbeats 1000000 in
theorem sBin10 (sg : Bool) (a b : ByteArray) (n : Nat) (w : World) (ha : a.size ≤ maxLen) (hb : b.size ≤ maxLen) (va : Vb.okV (L a) = true) (vb : Vb.okV (L b) = true) (ea : a.size = n) (eb : b.size = n) :
    Calls Try.prog 28 #[.int .i64 10, .bool sg, .string a, .string b] w fun e w' => e = .returned (.string (S ([notB (eqL (L a) (L b))]))) ∧ Below w.heap.size w w' := by
  obtain ⟨a1, a2, a3⟩ := (okV_iff a).1 va
  obtain ⟨b1, b2, b3⟩ := (okV_iff b).1 vb
  have VA := hide va
  have VBB := hide vb
  have HA := hide ha
  have HBB := hide hb
  rw [ea] at a1 a2
  rw [eb] at b1 b2
  have A3 := hide a3
  have B3 := hide b3
  clear va vb ha hb a3 b3
  generalize hkB : (L b).all Vb.knB = kB
  cases hkA : (L a).all Vb.knB
  all_goals
    have KA := hide hkA
    have KB := hide hkB
    clear hkA hkB
    go_enter Try.func28, Try.ntmps28
    go_wp2_with (first | (go_at_call_of 35 (Value.string a); refine (sOK1 a _ (unhide HA) (unhide VA)).mono ?_; rintro e w' ⟨rfl, rfl⟩) | (go_at_call_of 35 (Value.string b); refine (sOK1 b _ (unhide HBB) (unhide VBB)).mono ?_; rintro e w' ⟨rfl, rfl⟩) | (go_at_call_of 47 (Value.string a); refine (sKn a _ _ (unhide HA) (unhide KA)).mono ?_; rintro e w' ⟨rfl, rfl⟩) | (go_at_call_of 47 (Value.string b); refine (sKn b _ _ (unhide HBB) (unhide KB)).mono ?_; rintro e w' ⟨rfl, rfl⟩))
    go_loopw [12, 13] (fun c i wr => ∃ k : Nat, k ≤ n ∧ i = .int .i64 k ∧ c = .int .u8 ((eqL ((L a).take k) ((L b).take k)).toNat : Int) ∧ Below w.heap.size w wr) (fun _ i _ => n - (intOf i).toNat)
    case atStart => exact ⟨0, Nat.zero_le _, rfl, rfl, brf _⟩
    case round =>
      obtain ⟨k, hk, rfl, rfl, hbel⟩ := hrel
      by_cases hlt : k < n
      · have hlta : k < a.size := by omega
        have hltb : k < b.size := by omega
        have st := eqL_step a b k hlta hltb
        generalize eqL ((L a).take k) ((L b).take k) = c0 at *
        have ST := hide st
        clear st
        have j1 : (k : Int) < n := by omega
        go_wp2
        go_quiet ((first | (go_at_call 61; exact Calls.quiet_of_same (sAnd _ _ _)) | (go_at_call 63; exact Calls.quiet_of_same (sXor _ _ _)) | (go_at_call 65; exact Calls.quiet_of_same (sNot _ _))))
        go_wp2
        exact ⟨⟨k + 1, by omega, by go_num, by rw [unhide ST], below_drewN hbel _⟩, by simp [intOf]; omega⟩
      · have hcv := one_string ((notB (eqL (L a) (L b))).toNat : Int) (notB (eqL (L a) (L b))) rfl
        rw [L_take_all a k (by omega), L_take_all b k (by omega)]
        generalize hC0 : eqL (L a) (L b) = c0 at *
        have HC0 := hide hC0
        clear hC0
        go_wp2_with (first | (go_at_call 65; refine (sNot _ _).mono ?_; rintro e w' ⟨rfl, rfl⟩))
        go_ret
        exact ⟨by rw [unhide HC0]; rfl, bal hbel _⟩
set_option maxRecDepth 100000 in
set_option maxHeartbeats 1000000 in
theorem sBin17 (sg : Bool) (a b : ByteArray) (n m : Nat) (w : World) (ha : a.size ≤ maxLen) (hb : b.size ≤ maxLen) (va : Vb.okV (L a) = true) (vb : Vb.okV (L b) = true) (ea : a.size = n) (eb : b.size = m) :
    Calls Try.prog 28 #[.int .i64 17, .bool sg, .string a, .string b] w fun e w' => e = .returned (.string (S ([andB (truthL (L a)) (truthL (L b))]))) ∧ Below w.heap.size w w' := by
  obtain ⟨a1, a2, a3⟩ := (okV_iff a).1 va
  obtain ⟨b1, b2, b3⟩ := (okV_iff b).1 vb
  have VA := hide va
  have VBB := hide vb
  have HA := hide ha
  have HBB := hide hb
  rw [ea] at a1 a2
  rw [eb] at b1 b2
  have A3 := hide a3
  have B3 := hide b3
  clear va vb ha hb a3 b3
  generalize hkB : (L b).all Vb.knB = kB
  cases hkA : (L a).all Vb.knB
  all_goals
    have KA := hide hkA
    have KB := hide hkB
    clear hkA hkB
    go_enter Try.func28, Try.ntmps28
    have hta : truthL (L a) = truthL (L a) := rfl
    generalize hx : truthL (L a) = x at *
    generalize hy : truthL (L b) = y at *
    have HX := hide hx
    have HY := hide hy
    clear hx hy hta
    have hcv := one_string ((andB x y).toNat : Int) (andB x y) rfl
    go_wp2_with (first | (go_at_call_of 35 (Value.string a); refine (sOK1 a _ (unhide HA) (unhide VA)).mono ?_; rintro e w' ⟨rfl, rfl⟩) | (go_at_call_of 35 (Value.string b); refine (sOK1 b _ (unhide HBB) (unhide VBB)).mono ?_; rintro e w' ⟨rfl, rfl⟩) | (go_at_call_of 47 (Value.string a); refine (sKn a _ _ (unhide HA) (unhide KA)).mono ?_; rintro e w' ⟨rfl, rfl⟩) | (go_at_call_of 47 (Value.string b); refine (sKn b _ _ (unhide HBB) (unhide KB)).mono ?_; rintro e w' ⟨rfl, rfl⟩) | (go_at_call_of 66 (Value.string a); refine (sTr a _ _ (unhide HA) (unhide HX)).mono ?_; rintro e w' ⟨rfl, rfl⟩) | (go_at_call_of 66 (Value.string b); refine (sTr b _ _ (unhide HBB) (unhide HY)).mono ?_; rintro e w' ⟨rfl, rfl⟩) | (go_at_call 61; refine (sAnd _ _ _).mono ?_; rintro e w' ⟨rfl, rfl⟩))
    go_ret
    exact ⟨rfl, bal (brf _) _⟩
set_option maxRecDepth 100000 in
set_option maxHeartbeats 1000000 in
theorem sBin18 (sg : Bool) (a b : ByteArray) (n m : Nat) (w : World) (ha : a.size ≤ maxLen) (hb : b.size ≤ maxLen) (va : Vb.okV (L a) = true) (vb : Vb.okV (L b) = true) (ea : a.size = n) (eb : b.size = m) :
    Calls Try.prog 28 #[.int .i64 18, .bool sg, .string a, .string b] w fun e w' => e = .returned (.string (S ([orB (truthL (L a)) (truthL (L b))]))) ∧ Below w.heap.size w w' := by
  obtain ⟨a1, a2, a3⟩ := (okV_iff a).1 va
  obtain ⟨b1, b2, b3⟩ := (okV_iff b).1 vb
  have VA := hide va
  have VBB := hide vb
  have HA := hide ha
  have HBB := hide hb
  rw [ea] at a1 a2
  rw [eb] at b1 b2
  have A3 := hide a3
  have B3 := hide b3
  clear va vb ha hb a3 b3
  generalize hkB : (L b).all Vb.knB = kB
  cases hkA : (L a).all Vb.knB
  all_goals
    have KA := hide hkA
    have KB := hide hkB
    clear hkA hkB
    go_enter Try.func28, Try.ntmps28
    have hta : truthL (L a) = truthL (L a) := rfl
    generalize hx : truthL (L a) = x at *
    generalize hy : truthL (L b) = y at *
    have HX := hide hx
    have HY := hide hy
    clear hx hy hta
    have hcv := one_string ((orB x y).toNat : Int) (orB x y) rfl
    go_wp2_with (first | (go_at_call_of 35 (Value.string a); refine (sOK1 a _ (unhide HA) (unhide VA)).mono ?_; rintro e w' ⟨rfl, rfl⟩) | (go_at_call_of 35 (Value.string b); refine (sOK1 b _ (unhide HBB) (unhide VBB)).mono ?_; rintro e w' ⟨rfl, rfl⟩) | (go_at_call_of 47 (Value.string a); refine (sKn a _ _ (unhide HA) (unhide KA)).mono ?_; rintro e w' ⟨rfl, rfl⟩) | (go_at_call_of 47 (Value.string b); refine (sKn b _ _ (unhide HBB) (unhide KB)).mono ?_; rintro e w' ⟨rfl, rfl⟩) | (go_at_call_of 66 (Value.string a); refine (sTr a _ _ (unhide HA) (unhide HX)).mono ?_; rintro e w' ⟨rfl, rfl⟩) | (go_at_call_of 66 (Value.string b); refine (sTr b _ _ (unhide HBB) (unhide HY)).mono ?_; rintro e w' ⟨rfl, rfl⟩) | (go_at_call 62; refine (sOr _ _ _).mono ?_; rintro e w' ⟨rfl, rfl⟩))
    go_ret
    exact ⟨rfl, bal (brf _) _⟩
set_option maxRecDepth 100000 in
set_option maxHeartbeats 1000000 in
theorem sBin11 (sg : Bool) (a b : ByteArray) (n : Nat) (w : World) (ha : a.size ≤ maxLen) (hb : b.size ≤ maxLen) (va : Vb.okV (L a) = true) (vb : Vb.okV (L b) = true) (ea : a.size = n) (eb : b.size = n) :
    Calls Try.prog 28 #[.int .i64 11, .bool sg, .string a, .string b] w fun e w' => e = .returned (.string (S ([bl (decide (L a = L b))]))) ∧ Below w.heap.size w w' := by
  obtain ⟨a1, a2, a3⟩ := (okV_iff a).1 va
  obtain ⟨b1, b2, b3⟩ := (okV_iff b).1 vb
  have VA := hide va
  have VBB := hide vb
  have HA := hide ha
  have HBB := hide hb
  rw [ea] at a1 a2
  rw [eb] at b1 b2
  have A3 := hide a3
  have B3 := hide b3
  clear va vb ha hb a3 b3
  generalize hkB : (L b).all Vb.knB = kB
  cases hkA : (L a).all Vb.knB
  all_goals
    have KA := hide hkA
    have KB := hide hkB
    clear hkA hkB
    go_enter Try.func28, Try.ntmps28
    by_cases hab : a = b
    · subst hab
      have hd : decide (L a = L a) = true := by simp
      rw [hd]
      go_wp2_with (first | (go_at_call_of 35 (Value.string a); refine (sOK1 a _ (unhide HA) (unhide VA)).mono ?_; rintro e w' ⟨rfl, rfl⟩) | (go_at_call_of 35 (Value.string b); refine (sOK1 b _ (unhide HBB) (unhide VBB)).mono ?_; rintro e w' ⟨rfl, rfl⟩) | (go_at_call_of 47 (Value.string a); refine (sKn a _ _ (unhide HA) (unhide KA)).mono ?_; rintro e w' ⟨rfl, rfl⟩) | (go_at_call_of 47 (Value.string b); refine (sKn b _ _ (unhide HBB) (unhide KB)).mono ?_; rintro e w' ⟨rfl, rfl⟩) | (go_at_call 64; refine (sBit _ _).mono ?_; rintro e w' ⟨rfl, rfl⟩))
      go_ret
      exact ⟨rfl, brf _⟩
    · have hd : decide (L a = L b) = false := decide_eq_false (fun h => hab (L_inj h))
      rw [hd]
      have hq : (a.toList == b.toList) = false := by
        rw [ByteArray.toList_eq, ByteArray.toList_eq, beq_eq_false_iff_ne]
        exact fun h => hab (L_inj h)
      go_wp2_with (first | (go_at_call_of 35 (Value.string a); refine (sOK1 a _ (unhide HA) (unhide VA)).mono ?_; rintro e w' ⟨rfl, rfl⟩) | (go_at_call_of 35 (Value.string b); refine (sOK1 b _ (unhide HBB) (unhide VBB)).mono ?_; rintro e w' ⟨rfl, rfl⟩) | (go_at_call_of 47 (Value.string a); refine (sKn a _ _ (unhide HA) (unhide KA)).mono ?_; rintro e w' ⟨rfl, rfl⟩) | (go_at_call_of 47 (Value.string b); refine (sKn b _ _ (unhide HBB) (unhide KB)).mono ?_; rintro e w' ⟨rfl, rfl⟩) | (go_at_call 64; refine (sBit _ _).mono ?_; rintro e w' ⟨rfl, rfl⟩))
      go_ret
      exact ⟨rfl, brf _⟩
end Go.Proofs.Ytmbllgblbdfobaa
