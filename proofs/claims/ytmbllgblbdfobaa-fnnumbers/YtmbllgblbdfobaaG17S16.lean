/- What the specification's Binary answers: unknown operands, sums, differences, products, comparisons. -/
/- What the program's slice, filled, highest answer. -/
/- What the program's up and down answer. -/
import Derived.Test.YtmbllgblbdfobaaG12S12
import Derived.Test.YtmbllgblbdfobaaG2I1
import Derived.Test.YtmbllgblbdfobaaG3IT
import Derived.Test.YtmbllgblbdfobaaJ1
namespace Go.Proofs.Ytmbllgblbdfobaa
open Go.RowKit
set_option linter.unusedVariables false
set_option maxRecDepth 100000 in
set_option maxHeartbeats 1000000 in
theorem sBin4u (sg : Bool) (a b : ByteArray) (n : Nat) (w : World) (ha : a.size ≤ maxLen) (hb : b.size ≤ maxLen) (va : Vb.okV (L a) = true) (vb : Vb.okV (L b) = true) (ea : a.size = n) (eb : b.size = n) (hk : ((L a).all Vb.knB && (L b).all Vb.knB) = false) :
    Calls Try.prog 28 #[.int .i64 4, .bool sg, .string a, .string b] w fun e w' => e = .returned (.string (S (List.replicate n 120))) ∧ Below w.heap.size w w' := by
  obtain ⟨a1, a2, a3⟩ := (okV_iff a).1 va
  obtain ⟨b1, b2, b3⟩ := (okV_iff b).1 vb
  have VA := hide va
  have VBB := hide vb
  have HA := hide ha
  have HBB := hide hb
  rw [ea] at a1 a2
  rw [eb] at b1 b2
  have A3 := hide a3
  have B3 := hide b3
  clear va vb ha hb a3 b3
  cases hkA : (L a).all Vb.knB
  · have KA := hide hkA
    generalize hkB : (L b).all Vb.knB = kB
    have KB := hide hkB
    clear hkA hkB hk
    go_enter Try.func28, Try.ntmps28
    go_wp2_with (first | (go_at_call_of 35 (Value.string a); refine (sOK1 a _ (unhide HA) (unhide VA)).mono ?_; rintro e w' ⟨rfl, rfl⟩) | (go_at_call_of 35 (Value.string b); refine (sOK1 b _ (unhide HBB) (unhide VBB)).mono ?_; rintro e w' ⟨rfl, rfl⟩) | (go_at_call_of 47 (Value.string a); refine (sKn a _ _ (unhide HA) (unhide KA)).mono ?_; rintro e w' ⟨rfl, rfl⟩) | (go_at_call_of 47 (Value.string b); refine (sKn b _ _ (unhide HBB) (unhide KB)).mono ?_; rintro e w' ⟨rfl, rfl⟩) | (go_at_call 67; refine (sFill 120 n _ (by omega)).mono ?_; rintro e w1 ⟨rfl, hb1⟩))
    go_ret
    exact ⟨rfl, hb1⟩
  · have hkB : (L b).all Vb.knB = false := by rw [hkA] at hk; exact hk
    have KA := hide hkA
    have KB := hide hkB
    clear hkA hkB hk
    go_enter Try.func28, Try.ntmps28
    go_wp2_with (first | (go_at_call_of 35 (Value.string a); refine (sOK1 a _ (unhide HA) (unhide VA)).mono ?_; rintro e w' ⟨rfl, rfl⟩) | (go_at_call_of 35 (Value.string b); refine (sOK1 b _ (unhide HBB) (unhide VBB)).mono ?_; rintro e w' ⟨rfl, rfl⟩) | (go_at_call_of 47 (Value.string a); refine (sKn a _ _ (unhide HA) (unhide KA)).mono ?_; rintro e w' ⟨rfl, rfl⟩) | (go_at_call_of 47 (Value.string b); refine (sKn b _ _ (unhide HBB) (unhide KB)).mono ?_; rintro e w' ⟨rfl, rfl⟩) | (go_at_call 67; refine (sFill 120 n _ (by omega)).mono ?_; rintro e w1 ⟨rfl, hb1⟩))
    go_ret
    exact ⟨rfl, hb1⟩
set_option maxRecDepth 100000 in
set_option maxHeartbeats 1000000 in
theorem sBin5u (sg : Bool) (a b : ByteArray) (n : Nat) (w : World) (ha : a.size ≤ maxLen) (hb : b.size ≤ maxLen) (va : Vb.okV (L a) = true) (vb : Vb.okV (L b) = true) (ea : a.size = n) (eb : b.size = n) (hk : ((L a).all Vb.knB && (L b).all Vb.knB) = false) :
    Calls Try.prog 28 #[.int .i64 5, .bool sg, .string a, .string b] w fun e w' => e = .returned (.string (S (List.replicate n 120))) ∧ Below w.heap.size w w' := by
  obtain ⟨a1, a2, a3⟩ := (okV_iff a).1 va
  obtain ⟨b1, b2, b3⟩ := (okV_iff b).1 vb
  have VA := hide va
  have VBB := hide vb
  have HA := hide ha
  have HBB := hide hb
  rw [ea] at a1 a2
  rw [eb] at b1 b2
  have A3 := hide a3
  have B3 := hide b3
  clear va vb ha hb a3 b3
  cases hkA : (L a).all Vb.knB
  · have KA := hide hkA
    generalize hkB : (L b).all Vb.knB = kB
    have KB := hide hkB
    clear hkA hkB hk
    go_enter Try.func28, Try.ntmps28
    go_wp2_with (first | (go_at_call_of 35 (Value.string a); refine (sOK1 a _ (unhide HA) (unhide VA)).mono ?_; rintro e w' ⟨rfl, rfl⟩) | (go_at_call_of 35 (Value.string b); refine (sOK1 b _ (unhide HBB) (unhide VBB)).mono ?_; rintro e w' ⟨rfl, rfl⟩) | (go_at_call_of 47 (Value.string a); refine (sKn a _ _ (unhide HA) (unhide KA)).mono ?_; rintro e w' ⟨rfl, rfl⟩) | (go_at_call_of 47 (Value.string b); refine (sKn b _ _ (unhide HBB) (unhide KB)).mono ?_; rintro e w' ⟨rfl, rfl⟩) | (go_at_call 67; refine (sFill 120 n _ (by omega)).mono ?_; rintro e w1 ⟨rfl, hb1⟩))
    go_ret
    exact ⟨rfl, hb1⟩
  · have hkB : (L b).all Vb.knB = false := by rw [hkA] at hk; exact hk
    have KA := hide hkA
    have KB := hide hkB
    clear hkA hkB hk
    go_enter Try.func28, Try.ntmps28
    go_wp2_with (first | (go_at_call_of 35 (Value.string a); refine (sOK1 a _ (unhide HA) (unhide VA)).mono ?_; rintro e w' ⟨rfl, rfl⟩) | (go_at_call_of 35 (Value.string b); refine (sOK1 b _ (unhide HBB) (unhide VBB)).mono ?_; rintro e w' ⟨rfl, rfl⟩) | (go_at_call_of 47 (Value.string a); refine (sKn a _ _ (unhide HA) (unhide KA)).mono ?_; rintro e w' ⟨rfl, rfl⟩) | (go_at_call_of 47 (Value.string b); refine (sKn b _ _ (unhide HBB) (unhide KB)).mono ?_; rintro e w' ⟨rfl, rfl⟩) | (go_at_call 67; refine (sFill 120 n _ (by omega)).mono ?_; rintro e w1 ⟨rfl, hb1⟩))
    go_ret
    exact ⟨rfl, hb1⟩
set_option maxRecDepth 100000 in
set_option maxHeartbeats 1000000 in
theorem sBin6u (sg : Bool) (a b : ByteArray) (n : Nat) (w : World) (ha : a.size ≤ maxLen) (hb : b.size ≤ maxLen) (va : Vb.okV (L a) = true) (vb : Vb.okV (L b) = true) (ea : a.size = n) (eb : b.size = n) (hk : ((L a).all Vb.knB && (L b).all Vb.knB) = false) :
    Calls Try.prog 28 #[.int .i64 6, .bool sg, .string a, .string b] w fun e w' => e = .returned (.string (S (List.replicate n 120))) ∧ Below w.heap.size w w' := by
  obtain ⟨a1, a2, a3⟩ := (okV_iff a).1 va
  obtain ⟨b1, b2, b3⟩ := (okV_iff b).1 vb
  have VA := hide va
  have VBB := hide vb
  have HA := hide ha
  have HBB := hide hb
  rw [ea] at a1 a2
  rw [eb] at b1 b2
  have A3 := hide a3
  have B3 := hide b3
  clear va vb ha hb a3 b3
  cases hkA : (L a).all Vb.knB
  · have KA := hide hkA
    generalize hkB : (L b).all Vb.knB = kB
    have KB := hide hkB
    clear hkA hkB hk
    go_enter Try.func28, Try.ntmps28
    go_wp2_with (first | (go_at_call_of 35 (Value.string a); refine (sOK1 a _ (unhide HA) (unhide VA)).mono ?_; rintro e w' ⟨rfl, rfl⟩) | (go_at_call_of 35 (Value.string b); refine (sOK1 b _ (unhide HBB) (unhide VBB)).mono ?_; rintro e w' ⟨rfl, rfl⟩) | (go_at_call_of 47 (Value.string a); refine (sKn a _ _ (unhide HA) (unhide KA)).mono ?_; rintro e w' ⟨rfl, rfl⟩) | (go_at_call_of 47 (Value.string b); refine (sKn b _ _ (unhide HBB) (unhide KB)).mono ?_; rintro e w' ⟨rfl, rfl⟩) | (go_at_call 67; refine (sFill 120 n _ (by omega)).mono ?_; rintro e w1 ⟨rfl, hb1⟩))
    go_ret
    exact ⟨rfl, hb1⟩
  · have hkB : (L b).all Vb.knB = false := by rw [hkA] at hk; exact hk
    have KA := hide hkA
    have KB := hide hkB
    clear hkA hkB hk
    go_enter Try.func28, Try.ntmps28
    go_wp2_with (first | (go_at_call_of 35 (Value.string a); refine (sOK1 a _ (unhide HA) (unhide VA)).mono ?_; rintro e w' ⟨rfl, rfl⟩) | (go_at_call_of 35 (Value.string b); refine (sOK1 b _ (unhide HBB) (unhide VBB)).mono ?_; rintro e w' ⟨rfl, rfl⟩) | (go_at_call_of 47 (Value.string a); refine (sKn a _ _ (unhide HA) (unhide KA)).mono ?_; rintro e w' ⟨rfl, rfl⟩) | (go_at_call_of 47 (Value.string b); refine (sKn b _ _ (unhide HBB) (unhide KB)).mono ?_; rintro e w' ⟨rfl, rfl⟩) | (go_at_call 67; refine (sFill 120 n _ (by omega)).mono ?_; rintro e w1 ⟨rfl, hb1⟩))
    go_ret
    exact ⟨rfl, hb1⟩
set_option maxRecDepth 100000 in
set_option maxHeartbeats 1000000 in
theorem sBin7u (sg : Bool) (a b : ByteArray) (n : Nat) (w : World) (ha : a.size ≤ maxLen) (hb : b.size ≤ maxLen) (va : Vb.okV (L a) = true) (vb : Vb.okV (L b) = true) (ea : a.size = n) (eb : b.size = n) (hk : ((L a).all Vb.knB && (L b).all Vb.knB) = false) :
    Calls Try.prog 28 #[.int .i64 7, .bool sg, .string a, .string b] w fun e w' => e = .returned (.string (S (List.replicate n 120))) ∧ Below w.heap.size w w' := by
  obtain ⟨a1, a2, a3⟩ := (okV_iff a).1 va
  obtain ⟨b1, b2, b3⟩ := (okV_iff b).1 vb
  have VA := hide va
  have VBB := hide vb
  have HA := hide ha
  have HBB := hide hb
  rw [ea] at a1 a2
  rw [eb] at b1 b2
  have A3 := hide a3
  have B3 := hide b3
  clear va vb ha hb a3 b3
  cases hkA : (L a).all Vb.knB
  · have KA := hide hkA
    generalize hkB : (L b).all Vb.knB = kB
    have KB := hide hkB
    clear hkA hkB hk
    go_enter Try.func28, Try.ntmps28
    go_wp2_with (first | (go_at_call_of 35 (Value.string a); refine (sOK1 a _ (unhide HA) (unhide VA)).mono ?_; rintro e w' ⟨rfl, rfl⟩) | (go_at_call_of 35 (Value.string b); refine (sOK1 b _ (unhide HBB) (unhide VBB)).mono ?_; rintro e w' ⟨rfl, rfl⟩) | (go_at_call_of 47 (Value.string a); refine (sKn a _ _ (unhide HA) (unhide KA)).mono ?_; rintro e w' ⟨rfl, rfl⟩) | (go_at_call_of 47 (Value.string b); refine (sKn b _ _ (unhide HBB) (unhide KB)).mono ?_; rintro e w' ⟨rfl, rfl⟩) | (go_at_call 67; refine (sFill 120 n _ (by omega)).mono ?_; rintro e w1 ⟨rfl, hb1⟩))
    go_ret
    exact ⟨rfl, hb1⟩
  · have hkB : (L b).all Vb.knB = false := by rw [hkA] at hk; exact hk
    have KA := hide hkA
    have KB := hide hkB
    clear hkA hkB hk
    go_enter Try.func28, Try.ntmps28
    go_wp2_with (first | (go_at_call_of 35 (Value.string a); refine (sOK1 a _ (unhide HA) (unhide VA)).mono ?_; rintro e w' ⟨rfl, rfl⟩) | (go_at_call_of 35 (Value.string b); refine (sOK1 b _ (unhide HBB) (unhide VBB)).mono ?_; rintro e w' ⟨rfl, rfl⟩) | (go_at_call_of 47 (Value.string a); refine (sKn a _ _ (unhide HA) (unhide KA)).mono ?_; rintro e w' ⟨rfl, rfl⟩) | (go_at_call_of 47 (Value.string b); refine (sKn b _ _ (unhide HBB) (unhide KB)).mono ?_; rintro e w' ⟨rfl, rfl⟩) | (go_at_call 67; refine (sFill 120 n _ (by omega)).mono ?_; rintro e w1 ⟨rfl, hb1⟩))
    go_ret
    exact ⟨rfl, hb1⟩
set_option maxRecDepth 100000 in
set_option maxHeartbeats 1000000 in
theorem sBin8u (sg : Bool) (a b : ByteArray) (n : Nat) (w : World) (ha : a.size ≤ maxLen) (hb : b.size ≤ maxLen) (va : Vb.okV (L a) = true) (vb : Vb.okV (L b) = true) (ea : a.size = n) (eb : b.size = n) (hk : ((L a).all Vb.knB && (L b).all Vb.knB) = false) :
    Calls Try.prog 28 #[.int .i64 8, .bool sg, .string a, .string b] w fun e w' => e = .returned (.string (S (List.replicate n 120))) ∧ Below w.heap.size w w' := by
  obtain ⟨a1, a2, a3⟩ := (okV_iff a).1 va
  obtain ⟨b1, b2, b3⟩ := (okV_iff b).1 vb
  have VA := hide va
  have VBB := hide vb
  have HA := hide ha
  have HBB := hide hb
  rw [ea] at a1 a2
  rw [eb] at b1 b2
  have A3 := hide a3
  have B3 := hide b3
  clear va vb ha hb a3 b3
  cases hkA : (L a).all Vb.knB
  · have KA := hide hkA
    generalize hkB : (L b).all Vb.knB = kB
    have KB := hide hkB
    clear hkA hkB hk
    go_enter Try.func28, Try.ntmps28
    go_wp2_with (first | (go_at_call_of 35 (Value.string a); refine (sOK1 a _ (unhide HA) (unhide VA)).mono ?_; rintro e w' ⟨rfl, rfl⟩) | (go_at_call_of 35 (Value.string b); refine (sOK1 b _ (unhide HBB) (unhide VBB)).mono ?_; rintro e w' ⟨rfl, rfl⟩) | (go_at_call_of 47 (Value.string a); refine (sKn a _ _ (unhide HA) (unhide KA)).mono ?_; rintro e w' ⟨rfl, rfl⟩) | (go_at_call_of 47 (Value.string b); refine (sKn b _ _ (unhide HBB) (unhide KB)).mono ?_; rintro e w' ⟨rfl, rfl⟩) | (go_at_call 67; refine (sFill 120 n _ (by omega)).mono ?_; rintro e w1 ⟨rfl, hb1⟩))
    go_ret
    exact ⟨rfl, hb1⟩
  · have hkB : (L b).all Vb.knB = false := by rw [hkA] at hk; exact hk
    have KA := hide hkA
    have KB := hide hkB
    clear hkA hkB hk
    go_enter Try.func28, Try.ntmps28
    go_wp2_with (first | (go_at_call_of 35 (Value.string a); refine (sOK1 a _ (unhide HA) (unhide VA)).mono ?_; rintro e w' ⟨rfl, rfl⟩) | (go_at_call_of 35 (Value.string b); refine (sOK1 b _ (unhide HBB) (unhide VBB)).mono ?_; rintro e w' ⟨rfl, rfl⟩) | (go_at_call_of 47 (Value.string a); refine (sKn a _ _ (unhide HA) (unhide KA)).mono ?_; rintro e w' ⟨rfl, rfl⟩) | (go_at_call_of 47 (Value.string b); refine (sKn b _ _ (unhide HBB) (unhide KB)).mono ?_; rintro e w' ⟨rfl, rfl⟩) | (go_at_call 67; refine (sFill 120 n _ (by omega)).mono ?_; rintro e w1 ⟨rfl, hb1⟩))
    go_ret
    exact ⟨rfl, hb1⟩
set_option maxRecDepth 100000 in
set_option maxHeartbeats 1000000 in
theorem sBin12u (sg : Bool) (a b : ByteArray) (n : Nat) (w : World) (ha : a.size ≤ maxLen) (hb : b.size ≤ maxLen) (va : Vb.okV (L a) = true) (vb : Vb.okV (L b) = true) (ea : a.size = n) (eb : b.size = n) (hk : ((L a).all Vb.knB && (L b).all Vb.knB) = false) :
    Calls Try.prog 28 #[.int .i64 12, .bool sg, .string a, .string b] w fun e w' => e = .returned (.string (S ([120]))) ∧ Below w.heap.size w w' := by
  obtain ⟨a1, a2, a3⟩ := (okV_iff a).1 va
  obtain ⟨b1, b2, b3⟩ := (okV_iff b).1 vb
  have VA := hide va
  have VBB := hide vb
  have HA := hide ha
  have HBB := hide hb
  rw [ea] at a1 a2
  rw [eb] at b1 b2
  have A3 := hide a3
  have B3 := hide b3
  clear va vb ha hb a3 b3
  cases hkA : (L a).all Vb.knB
  · have KA := hide hkA
    generalize hkB : (L b).all Vb.knB = kB
    have KB := hide hkB
    clear hkA hkB hk
    go_enter Try.func28, Try.ntmps28
    go_wp2_with (first | (go_at_call_of 35 (Value.string a); refine (sOK1 a _ (unhide HA) (unhide VA)).mono ?_; rintro e w' ⟨rfl, rfl⟩) | (go_at_call_of 35 (Value.string b); refine (sOK1 b _ (unhide HBB) (unhide VBB)).mono ?_; rintro e w' ⟨rfl, rfl⟩) | (go_at_call_of 47 (Value.string a); refine (sKn a _ _ (unhide HA) (unhide KA)).mono ?_; rintro e w' ⟨rfl, rfl⟩) | (go_at_call_of 47 (Value.string b); refine (sKn b _ _ (unhide HBB) (unhide KB)).mono ?_; rintro e w' ⟨rfl, rfl⟩))
    go_ret
    exact ⟨rfl, brf _⟩
  · have hkB : (L b).all Vb.knB = false := by rw [hkA] at hk; exact hk
    have KA := hide hkA
    have KB := hide hkB
    clear hkA hkB hk
    go_enter Try.func28, Try.ntmps28
    go_wp2_with (first | (go_at_call_of 35 (Value.string a); refine (sOK1 a _ (unhide HA) (unhide VA)).mono ?_; rintro e w' ⟨rfl, rfl⟩) | (go_at_call_of 35 (Value.string b); refine (sOK1 b _ (unhide HBB) (unhide VBB)).mono ?_; rintro e w' ⟨rfl, rfl⟩) | (go_at_call_of 47 (Value.string a); refine (sKn a _ _ (unhide HA) (unhide KA)).mono ?_; rintro e w' ⟨rfl, rfl⟩) | (go_at_call_of 47 (Value.string b); refine (sKn b _ _ (unhide HBB) (unhide KB)).mono ?_; rintro e w' ⟨rfl, rfl⟩))
    go_ret
    exact ⟨rfl, brf _⟩
set_option maxRecDepth 100000 in
set_option maxHeartbeats 1000000 in
theorem sBin13u (sg : Bool) (a b : ByteArray) (n : Nat) (w : World) (ha : a.size ≤ maxLen) (hb : b.size ≤ maxLen) (va : Vb.okV (L a) = true) (vb : Vb.okV (L b) = true) (ea : a.size = n) (eb : b.size = n) (hk : ((L a).all Vb.knB && (L b).all Vb.knB) = false) :
    Calls Try.prog 28 #[.int .i64 13, .bool sg, .string a, .string b] w fun e w' => e = .returned (.string (S ([120]))) ∧ Below w.heap.size w w' := by
  obtain ⟨a1, a2, a3⟩ := (okV_iff a).1 va
  obtain ⟨b1, b2, b3⟩ := (okV_iff b).1 vb
  have VA := hide va
  have VBB := hide vb
  have HA := hide ha
  have HBB := hide hb
  rw [ea] at a1 a2
  rw [eb] at b1 b2
  have A3 := hide a3
  have B3 := hide b3
  clear va vb ha hb a3 b3
  cases hkA : (L a).all Vb.knB
  · have KA := hide hkA
    generalize hkB : (L b).all Vb.knB = kB
    have KB := hide hkB
    clear hkA hkB hk
    go_enter Try.func28, Try.ntmps28
    go_wp2_with (first | (go_at_call_of 35 (Value.string a); refine (sOK1 a _ (unhide HA) (unhide VA)).mono ?_; rintro e w' ⟨rfl, rfl⟩) | (go_at_call_of 35 (Value.string b); refine (sOK1 b _ (unhide HBB) (unhide VBB)).mono ?_; rintro e w' ⟨rfl, rfl⟩) | (go_at_call_of 47 (Value.string a); refine (sKn a _ _ (unhide HA) (unhide KA)).mono ?_; rintro e w' ⟨rfl, rfl⟩) | (go_at_call_of 47 (Value.string b); refine (sKn b _ _ (unhide HBB) (unhide KB)).mono ?_; rintro e w' ⟨rfl, rfl⟩))
    go_ret
    exact ⟨rfl, brf _⟩
  · have hkB : (L b).all Vb.knB = false := by rw [hkA] at hk; exact hk
    have KA := hide hkA
    have KB := hide hkB
    clear hkA hkB hk
    go_enter Try.func28, Try.ntmps28
    go_wp2_with (first | (go_at_call_of 35 (Value.string a); refine (sOK1 a _ (unhide HA) (unhide VA)).mono ?_; rintro e w' ⟨rfl, rfl⟩) | (go_at_call_of 35 (Value.string b); refine (sOK1 b _ (unhide HBB) (unhide VBB)).mono ?_; rintro e w' ⟨rfl, rfl⟩) | (go_at_call_of 47 (Value.string a); refine (sKn a _ _ (unhide HA) (unhide KA)).mono ?_; rintro e w' ⟨rfl, rfl⟩) | (go_at_call_of 47 (Value.string b); refine (sKn b _ _ (unhide HBB) (unhide KB)).mono ?_; rintro e w' ⟨rfl, rfl⟩))
    go_ret
    exact ⟨rfl, brf _⟩
end Go.Proofs.Ytmbllgblbdfobaa
namespace Go.Proofs.Ytmbllgblbdfobaa
open Go.RowKit
attribute [local go_sem] U_and U_or U_xor U_andNot U_shl U_shr U_shl1 U_or1 U_and1 U_toNat U_nonneg U_low U_beq U_bne
set_option maxHeartbeats 400000 in
theorem iSlice_ge (n m : Nat) (k h : BitVec 64) (low : Nat) (hl : (low : Int) ≤ 9223372036854775807) (hm : m ≤ 64) (w : World) :
    Calls Try.prog 58 #[V n k h, .int .i64 low, .int .i64 m] w fun e w' => e = .returned (V m (k >>> low &&& Vb.ones m) (h >>> low &&& Vb.ones m)) ∧ Below w.heap.size w w' := by
  unfold V
  go_enter Try.func58, Try.ntmps58
  go_wp2_with fail
  refine (iCut m _ _ hm _).mono ?_
  rintro e w1 ⟨rfl, hb⟩
  obtain ⟨hc, hf⟩ := bcell hb
  unfold V
  go_wp2
  refine bodyPost_ret (v := V m (k >>> low &&& Vb.ones m) (h >>> low &&& Vb.ones m)) (by simp [results, Try.results58, go_sem, V, hc]) rfl ⟨rfl, ?_⟩
  repeat first | exact brf _ | refine bdr ?_ | refine bst ?_ (by first | exact Nat.le_refl _ | (simp; done) | (simp; omega)) _ | refine btr ?_ hb | refine bal ?_ _
theorem neg_wrap (low : Int) (hl : low < 0) (hl2 : -9223372036854775808 ≤ low) : (IntKind.u64.wrap (-IntKind.u64.wrap low)).toNat = (-low).toNat := by
  rw [IntKind.wrap_u64, IntKind.wrap_u64]; omega
set_option maxHeartbeats 400000 in
theorem iSlice_lt (n m : Nat) (k h : BitVec 64) (low : Int) (hl : low < 0) (hl2 : -9223372036854775808 ≤ low) (hm : m ≤ 64) (w : World) :
    Calls Try.prog 58 #[V n k h, .int .i64 low, .int .i64 m] w fun e w' => e = .returned (V m (k <<< (-low).toNat &&& Vb.ones m) (h <<< (-low).toNat &&& Vb.ones m)) ∧ Below w.heap.size w w' := by
  unfold V
  go_enter Try.func58, Try.ntmps58
  go_wp2_with fail
  rw [neg_wrap low hl hl2]
  refine (iCut m _ _ hm _).mono ?_
  rintro e w1 ⟨rfl, hb⟩
  obtain ⟨hc, hf⟩ := bcell hb
  unfold V
  go_wp2
  refine bodyPost_ret (v := V m (k <<< (-low).toNat &&& Vb.ones m) (h <<< (-low).toNat &&& Vb.ones m)) (by simp [results, Try.results58, go_sem, V, hc]) rfl ⟨rfl, ?_⟩
  repeat first | exact brf _ | refine bdr ?_ | refine bst ?_ (by first | exact Nat.le_refl _ | (simp; done) | (simp; omega)) _ | refine btr ?_ hb | refine bal ?_ _
theorem bit0 (p : BitVec 64) : (U (p &&& 1#64) != 0) = p.getLsbD 0 := by
  have e := and1 p 0
  rw [show p >>> 0 = p from by simp] at e
  rw [e]
  cases p.getLsbD 0 <;> rfl
set_option maxHeartbeats 400000 in
theorem iFilled (n m : Nat) (k h p q r : BitVec 64) (w : World) :
    Calls Try.prog 111 #[V n k h, .int .u64 (U r), V m p q] w fun e w' => e = .returned (V n (k &&& ~~~r ||| (if p.getLsbD 0 then r else 0#64)) (h &&& ~~~r ||| (if q.getLsbD 0 then r else 0#64))) ∧ Below w.heap.size w w' := by
  have hp := bit0 p
  have hq := bit0 q
  unfold V
  cases h1 : p.getLsbD 0 <;> cases h2 : q.getLsbD 0 <;> rw [h1] at hp <;> rw [h2] at hq <;> clear h1 h2 <;> simp only [Bool.false_eq_true, if_true, if_false, BitVec.or_zero]
  all_goals
    go_enter Try.func111, Try.ntmps111
    go_wp2
    refine bodyPost_ret (v := .agg #[.int .i64 n, .int .u64 _, .int .u64 _]) (by simp [results, Try.results111, go_sem]) rfl ⟨rfl, ?_⟩
    repeat first | exact brf _ | refine bdr ?_ | refine bst ?_ (by first | exact Nat.le_refl _ | (simp; done) | (simp; omega)) _ | refine bal ?_ _
set_option maxHeartbeats 400000 in
theorem iHighest (n : Nat) (k h : BitVec 64) (h1 : 1 ≤ n) (h2 : n ≤ 64) (w : World) :
    Calls Try.prog 112 #[V n k h] w fun e w' => e = .returned (V 1 (k >>> (n - 1) &&& Vb.ones 1) (h >>> (n - 1) &&& Vb.ones 1)) ∧ Below w.heap.size w w' := by
  unfold V
  go_enter Try.func112, Try.ntmps112
  go_wp2_with fail
  rw [show ((n : Int) - 1) = ((n - 1 : Nat) : Int) by omega]
  refine (iSlice_ge n 1 k h (n - 1) (by omega) (by omega) _).mono ?_
  rintro e w1 ⟨rfl, hb⟩
  obtain ⟨hc, hf⟩ := bcell hb
  unfold V
  go_wp2
  refine bodyPost_ret (v := V 1 (k >>> (n - 1) &&& Vb.ones 1) (h >>> (n - 1) &&& Vb.ones 1)) (by simp [results, Try.results112, go_sem, V, hc]) rfl ⟨rfl, ?_⟩
  repeat first | exact brf _ | refine bdr ?_ | refine bst ?_ (by first | exact Nat.le_refl _ | (simp; done) | (simp; omega)) _ | refine btr ?_ hb | refine bal ?_ _
end Go.Proofs.Ytmbllgblbdfobaa
namespace Go.Proofs.Ytmbllgblbdfobaa
open Go.RowKit
attribute [local go_sem] U_and U_or U_xor U_andNot U_shl U_shr U_shl1 U_or1 U_and1 U_toNat U_nonneg U_low U_beq U_bne
theorem iMaskB (n : Nat) (k h : BitVec 64) (hn : n ≤ 64) (w : World) : Calls Try.prog 80 #[.agg #[.int .i64 n, .int .u64 (U k), .int .u64 (U h)]] w fun e w' => e = .returned (.int .u64 (U (Vb.ones n))) ∧ Below w.heap.size w w' :=
  (iMask n k h hn w).mono fun _ _ ⟨h1, h2⟩ => ⟨h1, by rw [← h2]; exact bal (brf _) _⟩
theorem iLowU (c : BitVec 64) (w : World) : Calls Try.prog 109 #[.int .u64 (U c)] w fun e w' => e = .returned (.int .u64 (U (Vb.ones c.toNat))) ∧ Below w.heap.size w w' :=
  (iLow c.toNat w).mono fun _ _ ⟨h1, h2⟩ => ⟨h1, by rw [h2]; exact brf _⟩
set_option maxRecDepth 100000 in
set_option maxHeartbeats 400000 in
theorem iUpU (n m : Nat) (k h p q : BitVec 64) (hm : m ≤ 64) (h2 : ¬ p = Vb.ones m) (w : World) :
    Calls Try.prog 98 #[V n k h, V m p q] w fun e w' => e = .returned (V n 0#64 0#64) ∧ Below w.heap.size w w' := by
  have b2 : (p == Vb.ones m) = false := by simp [h2]
  have B2 := hide b2
  clear h2 b2
  unfold V
  go_enter Try.func98, Try.ntmps98
  go_wp2_with fail
  refine (iIsKnown _ _ _ hm _).mono ?_
  rw [unhide B2]
  rintro e w1 ⟨rfl, hb1⟩
  have hB1 : Below w.heap.size w w1 := btr (bal (bal (bal (brf w) _) _) _) hb1
  obtain ⟨v0_1, v1_1, v2_1⟩ : VB (w.heap.size) n k h w1 := by refine VB_later hb1 ⟨?_, ?_, ?_⟩ <;> go_simp
  obtain ⟨u0_1, u1_1, u2_1⟩ : VB (w.heap.size + 1) m p q w1 := by refine VB_later hb1 ⟨?_, ?_, ?_⟩ <;> go_simp
  have Xr1 : RB (w.heap.size + 1 + 1) w1 := by refine RB_later hb1 ⟨.int .i64 0, .int .u64 0, .int .u64 0, ?_, ?_, ?_, ?_, ?_, ?_⟩ <;> go_simp
  go_wp2_with fail
  refine (iUnknown n _).mono ?_
  rintro e w2 ⟨rfl, hb2⟩
  have hB2 := btr hB1 hb2
  obtain ⟨v0_2, v1_2, v2_2⟩ : VB (w.heap.size) n k h w2 := VB_later hb2 ⟨v0_1, v1_1, v2_1⟩
  obtain ⟨u0_2, u1_2, u2_2⟩ : VB (w.heap.size + 1) m p q w2 := VB_later hb2 ⟨u0_1, u1_1, u2_1⟩
  have Xr2 := RB_later hb2 Xr1
  obtain ⟨x0, y0, z0, c0, c1, c2, f0, f1, f2⟩ := Xr2
  have h2 : w.heap.size ≤ w.heap.size + 1 + 1 := by omega
  unfold V
  go_wp2
  exact bodyPost_ret (v := V n (0#64) (0#64)) (by simp [results, Try.results98, go_sem, V, c0, c1, c2]) rfl ⟨rfl, bst (bst (bst hB2 h2 _) h2 _) h2 _⟩
set_option maxRecDepth 100000 in
set_option maxHeartbeats 400000 in
theorem iUp (n m : Nat) (k h p q : BitVec 64) (hn : n ≤ 64) (hm : m ≤ 64) (h2 : p = Vb.ones m) (w : World) :
    Calls Try.prog 98 #[V n k h, V m p q] w fun e w' => e = .returned (V n ((k <<< q.toNat &&& Vb.ones n) &&& ~~~(Vb.ones n &&& Vb.ones q.toNat) ||| (Vb.ones n &&& Vb.ones q.toNat)) ((h <<< q.toNat &&& Vb.ones n) &&& ~~~(Vb.ones n &&& Vb.ones q.toNat))) ∧ Below w.heap.size w w' := by
  have hf : ∀ w, Calls Try.prog 111 #[.agg #[.int .i64 n, .int .u64 (U (k <<< q.toNat &&& Vb.ones n)), .int .u64 (U (h <<< q.toNat &&& Vb.ones n))], .int .u64 (U (Vb.ones n &&& Vb.ones q.toNat)), .agg #[.int .i64 (1 : Nat), .int .u64 (U 1#64), .int .u64 (U (if false then 1#64 else 0#64))]] w fun e w' => e = .returned (V n ((k <<< q.toNat &&& Vb.ones n) &&& ~~~(Vb.ones n &&& Vb.ones q.toNat) ||| (Vb.ones n &&& Vb.ones q.toNat)) ((h <<< q.toNat &&& Vb.ones n) &&& ~~~(Vb.ones n &&& Vb.ones q.toNat))) ∧ Below w.heap.size w w' := fun w => by
    have := iFilled n 1 (k <<< q.toNat &&& Vb.ones n) (h <<< q.toNat &&& Vb.ones n) 1#64 0#64 (Vb.ones n &&& Vb.ones q.toNat) w
    have e1 : (1#64).getLsbD 0 = true := by decide
    have e2 : (0#64).getLsbD 0 = false := by decide
    rw [e1, e2, if_pos rfl, if_neg (by decide), BitVec.or_zero] at this
    exact this
  generalize hA : (k <<< q.toNat &&& Vb.ones n) &&& ~~~(Vb.ones n &&& Vb.ones q.toNat) ||| (Vb.ones n &&& Vb.ones q.toNat) = A at *
  generalize hB : (h <<< q.toNat &&& Vb.ones n) &&& ~~~(Vb.ones n &&& Vb.ones q.toNat) = B at *
  have HF := hide hf
  clear hf hA hB
  have b2 : (p == Vb.ones m) = true := by simp [h2]
  have B2 := hide b2
  clear h2 b2
  unfold V
  go_enter Try.func98, Try.ntmps98
  go_wp2_with fail
  refine (iIsKnown _ _ _ hm _).mono ?_
  rw [unhide B2]
  rintro e w1 ⟨rfl, hb1⟩
  have hB1 : Below w.heap.size w w1 := btr (bal (bal (bal (brf w) _) _) _) hb1
  obtain ⟨v0_1, v1_1, v2_1⟩ : VB (w.heap.size) n k h w1 := by refine VB_later hb1 ⟨?_, ?_, ?_⟩ <;> go_simp
  obtain ⟨u0_1, u1_1, u2_1⟩ : VB (w.heap.size + 1) m p q w1 := by refine VB_later hb1 ⟨?_, ?_, ?_⟩ <;> go_simp
  have Xr1 : RB (w.heap.size + 1 + 1) w1 := by refine RB_later hb1 ⟨.int .i64 0, .int .u64 0, .int .u64 0, ?_, ?_, ?_, ?_, ?_, ?_⟩ <;> go_simp
  go_wp2_with fail
  refine (iCut _ _ _ hn _).mono ?_
  rintro e w2 ⟨rfl, hb2⟩
  have hB2 := btr hB1 hb2
  obtain ⟨v0_2, v1_2, v2_2⟩ : VB (w.heap.size) n k h w2 := VB_later hb2 ⟨v0_1, v1_1, v2_1⟩
  obtain ⟨u0_2, u1_2, u2_2⟩ : VB (w.heap.size + 1) m p q w2 := VB_later hb2 ⟨u0_1, u1_1, u2_1⟩
  have Xr2 := RB_later hb2 Xr1
  unfold V
  go_wp2_with fail
  obtain ⟨rr0, rr1, rr2, rc0, rc1, rc2, rf0, rf1, rf2⟩ := Xr2
  have hlt2 : w.heap.size + 1 + 1 < w2.heap.size := World.block_lt_of_cell? w2 _ rc0
  have hne1 : ¬ w2.heap.size = w.heap.size + 1 + 1 := by omega
  have hne2 : ¬ w.heap.size + 1 + 1 = w2.heap.size := by omega
  go_region_held3 (fun w' => w'.cell? ⟨w.heap.size, 0, none⟩ = some (.int .i64 n) ∧ w'.cell? ⟨w.heap.size, 1, none⟩ = some (.int .u64 (U k)) ∧ w'.cell? ⟨w.heap.size, 2, none⟩ = some (.int .u64 (U h)) ∧ w'.cell? ⟨w.heap.size + 1, 0, none⟩ = some (.int .i64 m) ∧ w'.cell? ⟨w.heap.size + 1, 1, none⟩ = some (.int .u64 (U p)) ∧ w'.cell? ⟨w.heap.size + 1, 2, none⟩ = some (.int .u64 (U q)) ∧ w'.cell? ⟨w2.heap.size, 0, none⟩ = some (.int .i64 n) ∧ w'.cell? ⟨w2.heap.size, 1, none⟩ = some (.int .u64 (U (k <<< q.toNat &&& Vb.ones n))) ∧ w'.cell? ⟨w2.heap.size, 2, none⟩ = some (.int .u64 (U (h <<< q.toNat &&& Vb.ones n)))) (first | (go_simp; done) | (refine ⟨?_, ?_, ?_, ?_, ?_, ?_, ?_, ?_, ?_⟩ <;> (refine cell_later hb ?_; go_simp)) | go_keep) (first | (go_at_call 80; refine (iMaskB n k h hn _).mono ?_; rintro e w3 ⟨rfl, hb⟩; have R3 := RB_later hb (RB_alloc ⟨rr0, rr1, rr2, rc0, rc1, rc2, rf0, rf1, rf2⟩ _); have hB3 := btr (bdr (bal hB2 _)) hb) | (go_at_call 109; refine (iLowU q _).mono ?_; rintro e w4 ⟨rfl, hb⟩; have R4 := RB_later hb R3; have hB4 := btr hB3 hb) | (go_at_call 113; refine (iTruthVec false _).mono ?_; rintro e w6 ⟨rfl, hb⟩; have R6 := RB_later hb R4; have hB6 := btr hB4 hb; unfold V) | (go_at_call 111; refine (unhide HF _).mono ?_; rintro e w5 ⟨rfl, hb⟩; have hB5 := btr hB6 hb; obtain ⟨x0, y0, z0, c0, c1, c2, f0, f1, f2⟩ := RB_later hb R6; unfold V))
  go_wp2
  have h2 : w.heap.size ≤ w.heap.size + 1 + 1 := by omega
  exact bodyPost_ret (v := V n A B) (by simp [results, Try.results98, go_sem, V, c0, c1, c2]) rfl ⟨rfl, bst (bst (bst hB5 h2 _) h2 _) h2 _⟩
set_option maxRecDepth 100000 in
set_option maxHeartbeats 400000 in
theorem iDownU (n m l : Nat) (k h p q r s : BitVec 64) (hm : m ≤ 64) (h2 : ¬ p = Vb.ones m) (w : World) :
    Calls Try.prog 123 #[V n k h, V m p q, V l r s] w fun e w' => e = .returned (V n 0#64 0#64) ∧ Below w.heap.size w w' := by
  have b2 : (p == Vb.ones m) = false := by simp [h2]
  have B2 := hide b2
  clear h2 b2
  unfold V
  go_enter Try.func123, Try.ntmps123
  go_wp2_with fail
  refine (iIsKnown _ _ _ hm _).mono ?_
  rw [unhide B2]
  rintro e w1 ⟨rfl, hb1⟩
  have hB1 : Below w.heap.size w w1 := btr (bal (bal (bal (bal (brf w) _) _) _) _) hb1
  obtain ⟨v0_1, v1_1, v2_1⟩ : VB (w.heap.size) n k h w1 := by refine VB_later hb1 ⟨?_, ?_, ?_⟩ <;> go_simp
  obtain ⟨u0_1, u1_1, u2_1⟩ : VB (w.heap.size + 1) m p q w1 := by refine VB_later hb1 ⟨?_, ?_, ?_⟩ <;> go_simp
  obtain ⟨x0_1, x1_1, x2_1⟩ : VB (w.heap.size + 1 + 1) l r s w1 := by refine VB_later hb1 ⟨?_, ?_, ?_⟩ <;> go_simp
  have Xr1 : RB (w.heap.size + 1 + 1 + 1) w1 := by refine RB_later hb1 ⟨.int .i64 0, .int .u64 0, .int .u64 0, ?_, ?_, ?_, ?_, ?_, ?_⟩ <;> go_simp
  go_wp2_with fail
  refine (iUnknown n _).mono ?_
  rintro e w2 ⟨rfl, hb2⟩
  have hB2 := btr hB1 hb2
  obtain ⟨v0_2, v1_2, v2_2⟩ : VB (w.heap.size) n k h w2 := VB_later hb2 ⟨v0_1, v1_1, v2_1⟩
  obtain ⟨u0_2, u1_2, u2_2⟩ : VB (w.heap.size + 1) m p q w2 := VB_later hb2 ⟨u0_1, u1_1, u2_1⟩
  obtain ⟨x0_2, x1_2, x2_2⟩ : VB (w.heap.size + 1 + 1) l r s w2 := VB_later hb2 ⟨x0_1, x1_1, x2_1⟩
  have Xr2 := RB_later hb2 Xr1
  obtain ⟨x0, y0, z0, c0, c1, c2, f0, f1, f2⟩ := Xr2
  have h2 : w.heap.size ≤ w.heap.size + 1 + 1 + 1 := by omega
  unfold V
  go_wp2
  exact bodyPost_ret (v := V n (0#64) (0#64)) (by simp [results, Try.results123, go_sem, V, c0, c1, c2]) rfl ⟨rfl, bst (bst (bst hB2 h2 _) h2 _) h2 _⟩
set_option maxRecDepth 100000 in
set_option maxHeartbeats 400000 in
theorem iDown (n m l : Nat) (k h p q r s : BitVec 64) (hn : n ≤ 64) (hm : m ≤ 64) (h2 : p = Vb.ones m) (w : World) :
    Calls Try.prog 123 #[V n k h, V m p q, V l r s] w fun e w' => e = .returned (V n (k >>> q.toNat &&& ~~~(Vb.ones n &&& ~~~(Vb.ones n >>> q.toNat)) ||| (if r.getLsbD 0 then (Vb.ones n &&& ~~~(Vb.ones n >>> q.toNat)) else 0#64)) (h >>> q.toNat &&& ~~~(Vb.ones n &&& ~~~(Vb.ones n >>> q.toNat)) ||| (if s.getLsbD 0 then (Vb.ones n &&& ~~~(Vb.ones n >>> q.toNat)) else 0#64))) ∧ Below w.heap.size w w' := by
  have hf : ∀ w, Calls Try.prog 111 #[.agg #[.int .i64 n, .int .u64 (U (k >>> q.toNat)), .int .u64 (U (h >>> q.toNat))], .int .u64 (U (Vb.ones n &&& ~~~(Vb.ones n >>> q.toNat))), .agg #[.int .i64 l, .int .u64 (U r), .int .u64 (U s)]] w _ := fun w => iFilled n l (k >>> q.toNat) (h >>> q.toNat) r s (Vb.ones n &&& ~~~(Vb.ones n >>> q.toNat)) w
  generalize hA : k >>> q.toNat &&& ~~~(Vb.ones n &&& ~~~(Vb.ones n >>> q.toNat)) ||| (if r.getLsbD 0 then (Vb.ones n &&& ~~~(Vb.ones n >>> q.toNat)) else 0#64) = A at *
  generalize hB : h >>> q.toNat &&& ~~~(Vb.ones n &&& ~~~(Vb.ones n >>> q.toNat)) ||| (if s.getLsbD 0 then (Vb.ones n &&& ~~~(Vb.ones n >>> q.toNat)) else 0#64) = B at *
  have HF := hide hf
  clear hf hA hB
  have b2 : (p == Vb.ones m) = true := by simp [h2]
  have B2 := hide b2
  clear h2 b2
  unfold V
  go_enter Try.func123, Try.ntmps123
  go_wp2_with fail
  refine (iIsKnown _ _ _ hm _).mono ?_
  rw [unhide B2]
  rintro e w1 ⟨rfl, hb1⟩
  have hB1 : Below w.heap.size w w1 := btr (bal (bal (bal (bal (brf w) _) _) _) _) hb1
  obtain ⟨v0_1, v1_1, v2_1⟩ : VB (w.heap.size) n k h w1 := by refine VB_later hb1 ⟨?_, ?_, ?_⟩ <;> go_simp
  obtain ⟨u0_1, u1_1, u2_1⟩ : VB (w.heap.size + 1) m p q w1 := by refine VB_later hb1 ⟨?_, ?_, ?_⟩ <;> go_simp
  obtain ⟨x0_1, x1_1, x2_1⟩ : VB (w.heap.size + 1 + 1) l r s w1 := by refine VB_later hb1 ⟨?_, ?_, ?_⟩ <;> go_simp
  have Xr1 : RB (w.heap.size + 1 + 1 + 1) w1 := by refine RB_later hb1 ⟨.int .i64 0, .int .u64 0, .int .u64 0, ?_, ?_, ?_, ?_, ?_, ?_⟩ <;> go_simp
  go_wp2_with fail
  obtain ⟨rr0, rr1, rr2, rc0, rc1, rc2, rf0, rf1, rf2⟩ := Xr1
  have hlt2 : w.heap.size + 1 + 1 + 1 < w1.heap.size := World.block_lt_of_cell? w1 _ rc0
  have hne1 : ¬ w1.heap.size = w.heap.size + 1 + 1 + 1 := by omega
  have hne2 : ¬ w.heap.size + 1 + 1 + 1 = w1.heap.size := by omega
  go_region_held3 (fun w' => w'.cell? ⟨w.heap.size, 0, none⟩ = some (.int .i64 n) ∧ w'.cell? ⟨w.heap.size, 1, none⟩ = some (.int .u64 (U k)) ∧ w'.cell? ⟨w.heap.size, 2, none⟩ = some (.int .u64 (U h)) ∧ w'.cell? ⟨w.heap.size + 1, 0, none⟩ = some (.int .i64 m) ∧ w'.cell? ⟨w.heap.size + 1, 1, none⟩ = some (.int .u64 (U p)) ∧ w'.cell? ⟨w.heap.size + 1, 2, none⟩ = some (.int .u64 (U q)) ∧ w'.cell? ⟨w.heap.size + 1 + 1, 0, none⟩ = some (.int .i64 l) ∧ w'.cell? ⟨w.heap.size + 1 + 1, 1, none⟩ = some (.int .u64 (U r)) ∧ w'.cell? ⟨w.heap.size + 1 + 1, 2, none⟩ = some (.int .u64 (U s)) ∧ w'.cell? ⟨w1.heap.size, 0, none⟩ = some (.int .i64 n) ∧ w'.cell? ⟨w1.heap.size, 1, none⟩ = some (.int .u64 (U (k >>> q.toNat))) ∧ w'.cell? ⟨w1.heap.size, 2, none⟩ = some (.int .u64 (U (h >>> q.toNat)))) (first | (go_simp; done) | (refine ⟨?_, ?_, ?_, ?_, ?_, ?_, ?_, ?_, ?_, ?_, ?_, ?_⟩ <;> (refine cell_later hb ?_; go_simp)) | go_keep) (first | (go_at_call 80; first | (have R3x := R3; refine (iMaskB n k h hn _).mono ?_; rintro e w4 ⟨rfl, hb⟩; have R4 := RB_later hb R3; have hB4 := btr hB3 hb) | (refine (iMaskB n k h hn _).mono ?_; rintro e w3 ⟨rfl, hb⟩; have R3 := RB_later hb (RB_alloc ⟨rr0, rr1, rr2, rc0, rc1, rc2, rf0, rf1, rf2⟩ _); have hB3 := btr (bdr (bal hB1 _)) hb)) | (go_at_call 111; refine (unhide HF _).mono ?_; rintro e w5 ⟨rfl, hb⟩; have hB5 := btr hB4 hb; obtain ⟨x0, y0, z0, c0, c1, c2, f0, f1, f2⟩ := RB_later hb R4; unfold V))
  go_wp2
  have h2 : w.heap.size ≤ w.heap.size + 1 + 1 + 1 := by omega
  exact bodyPost_ret (v := V n A B) (by simp [results, Try.results123, go_sem, V, c0, c1, c2]) rfl ⟨rfl, bst (bst (bst hB5 h2 _) h2 _) h2 _⟩
end Go.Proofs.Ytmbllgblbdfobaa
