/- The specification's CodeOK where a count does not fit. -/
import Derived.Test.YtbpcomnneemolaaSQ0
namespace Go.Proofs.Ytbpcomnneemolaa
open Go.RowKit Gs
set_option linter.unusedVariables false
set_option linter.unusedSimpArgs false
set_option maxRecDepth 100000
set_option maxHeartbeats 16000000 in
theorem sCount0 (s kc : Int) (l1 l2 l4 l5 l6 l7 l8 : Nat) (a1 a2 a4 a5 a6 a7 a8 : Option Addr) (c1 c2 c4 c5 c6 c7 c8 : Nat) (w : World) (r0 : decide ((16384 : Int) < (l1 : Int)) = true) :
    Calls Try.prog 5 #[.agg #[.int .i64 s, .slice a1 l1 c1, .slice a2 l2 c2, .int .i64 kc, .slice a4 l4 c4, .slice a5 l5 c5, .slice a6 l6 c6, .slice a7 l7 c7, .slice a8 l8 c8]] w fun e w' => e = .returned (.bool false) ∧ Below w.heap.size w w' := by
  go_enter Try.func5, Try.ntmps5
  go_wp2
  go_ret
  exact ⟨rfl, bal (brf w) _⟩
set_option maxHeartbeats 16000000 in
theorem sCount1 (s kc : Int) (l1 l2 l4 l5 l6 l7 l8 : Nat) (a1 a2 a4 a5 a6 a7 a8 : Option Addr) (c1 c2 c4 c5 c6 c7 c8 : Nat) (w : World) (r0 : decide ((16384 : Int) < (l1 : Int)) = false) (r1 : decide (s < 0) = true) :
    Calls Try.prog 5 #[.agg #[.int .i64 s, .slice a1 l1 c1, .slice a2 l2 c2, .int .i64 kc, .slice a4 l4 c4, .slice a5 l5 c5, .slice a6 l6 c6, .slice a7 l7 c7, .slice a8 l8 c8]] w fun e w' => e = .returned (.bool false) ∧ Below w.heap.size w w' := by
  go_enter Try.func5, Try.ntmps5
  go_wp2
  go_ret
  exact ⟨rfl, bal (brf w) _⟩
set_option maxHeartbeats 16000000 in
theorem sCount2 (s kc : Int) (l1 l2 l4 l5 l6 l7 l8 : Nat) (a1 a2 a4 a5 a6 a7 a8 : Option Addr) (c1 c2 c4 c5 c6 c7 c8 : Nat) (w : World) (r0 : decide ((16384 : Int) < (l1 : Int)) = false) (r1 : decide (s < 0) = false) (r2 : decide ((16384 : Int) < s) = true) :
    Calls Try.prog 5 #[.agg #[.int .i64 s, .slice a1 l1 c1, .slice a2 l2 c2, .int .i64 kc, .slice a4 l4 c4, .slice a5 l5 c5, .slice a6 l6 c6, .slice a7 l7 c7, .slice a8 l8 c8]] w fun e w' => e = .returned (.bool false) ∧ Below w.heap.size w w' := by
  go_enter Try.func5, Try.ntmps5
  go_wp2
  go_ret
  exact ⟨rfl, bal (brf w) _⟩
set_option maxHeartbeats 16000000 in
theorem sCount3 (s kc : Int) (l1 l2 l4 l5 l6 l7 l8 : Nat) (a1 a2 a4 a5 a6 a7 a8 : Option Addr) (c1 c2 c4 c5 c6 c7 c8 : Nat) (w : World) (r0 : decide ((16384 : Int) < (l1 : Int)) = false) (r1 : decide (s < 0) = false) (r2 : decide ((16384 : Int) < s) = false) (r3 : decide ((256 : Int) < (l2 : Int)) = true) :
    Calls Try.prog 5 #[.agg #[.int .i64 s, .slice a1 l1 c1, .slice a2 l2 c2, .int .i64 kc, .slice a4 l4 c4, .slice a5 l5 c5, .slice a6 l6 c6, .slice a7 l7 c7, .slice a8 l8 c8]] w fun e w' => e = .returned (.bool false) ∧ Below w.heap.size w w' := by
  go_enter Try.func5, Try.ntmps5
  go_wp2
  go_ret
  exact ⟨rfl, bal (brf w) _⟩
set_option maxHeartbeats 16000000 in
theorem sCount4 (s kc : Int) (l1 l2 l4 l5 l6 l7 l8 : Nat) (a1 a2 a4 a5 a6 a7 a8 : Option Addr) (c1 c2 c4 c5 c6 c7 c8 : Nat) (w : World) (r0 : decide ((16384 : Int) < (l1 : Int)) = false) (r1 : decide (s < 0) = false) (r2 : decide ((16384 : Int) < s) = false) (r3 : decide ((256 : Int) < (l2 : Int)) = false) (r4 : decide ((256 : Int) < (l4 : Int)) = true) :
    Calls Try.prog 5 #[.agg #[.int .i64 s, .slice a1 l1 c1, .slice a2 l2 c2, .int .i64 kc, .slice a4 l4 c4, .slice a5 l5 c5, .slice a6 l6 c6, .slice a7 l7 c7, .slice a8 l8 c8]] w fun e w' => e = .returned (.bool false) ∧ Below w.heap.size w w' := by
  go_enter Try.func5, Try.ntmps5
  go_wp2
  go_ret
  exact ⟨rfl, bal (brf w) _⟩
end Go.Proofs.Ytbpcomnneemolaa
namespace Go.Proofs.Ytbpcomnneemolaa
open Go.RowKit Gs
set_option linter.unusedVariables false
set_option linter.unusedSimpArgs false
set_option maxRecDepth 100000
set_option maxHeartbeats 16000000 in
theorem sCount5 (s kc : Int) (l1 l2 l4 l5 l6 l7 l8 : Nat) (a1 a2 a4 a5 a6 a7 a8 : Option Addr) (c1 c2 c4 c5 c6 c7 c8 : Nat) (w : World) (r0 : decide ((16384 : Int) < (l1 : Int)) = false) (r1 : decide (s < 0) = false) (r2 : decide ((16384 : Int) < s) = false) (r3 : decide ((256 : Int) < (l2 : Int)) = false) (r4 : decide ((256 : Int) < (l4 : Int)) = false) (r5 : decide (kc < 0) = true) :
    Calls Try.prog 5 #[.agg #[.int .i64 s, .slice a1 l1 c1, .slice a2 l2 c2, .int .i64 kc, .slice a4 l4 c4, .slice a5 l5 c5, .slice a6 l6 c6, .slice a7 l7 c7, .slice a8 l8 c8]] w fun e w' => e = .returned (.bool false) ∧ Below w.heap.size w w' := by
  go_enter Try.func5, Try.ntmps5
  go_wp2
  go_ret
  exact ⟨rfl, bal (brf w) _⟩
set_option maxHeartbeats 16000000 in
theorem sCount6 (s kc : Int) (l1 l2 l4 l5 l6 l7 l8 : Nat) (a1 a2 a4 a5 a6 a7 a8 : Option Addr) (c1 c2 c4 c5 c6 c7 c8 : Nat) (w : World) (r0 : decide ((16384 : Int) < (l1 : Int)) = false) (r1 : decide (s < 0) = false) (r2 : decide ((16384 : Int) < s) = false) (r3 : decide ((256 : Int) < (l2 : Int)) = false) (r4 : decide ((256 : Int) < (l4 : Int)) = false) (r5 : decide (kc < 0) = false) (r6 : decide ((8 : Int) < kc) = true) :
    Calls Try.prog 5 #[.agg #[.int .i64 s, .slice a1 l1 c1, .slice a2 l2 c2, .int .i64 kc, .slice a4 l4 c4, .slice a5 l5 c5, .slice a6 l6 c6, .slice a7 l7 c7, .slice a8 l8 c8]] w fun e w' => e = .returned (.bool false) ∧ Below w.heap.size w w' := by
  go_enter Try.func5, Try.ntmps5
  go_wp2
  go_ret
  exact ⟨rfl, bal (brf w) _⟩
set_option maxHeartbeats 16000000 in
theorem sCount7 (s kc : Int) (l1 l2 l4 l5 l6 l7 l8 : Nat) (a1 a2 a4 a5 a6 a7 a8 : Option Addr) (c1 c2 c4 c5 c6 c7 c8 : Nat) (w : World) (r0 : decide ((16384 : Int) < (l1 : Int)) = false) (r1 : decide (s < 0) = false) (r2 : decide ((16384 : Int) < s) = false) (r3 : decide ((256 : Int) < (l2 : Int)) = false) (r4 : decide ((256 : Int) < (l4 : Int)) = false) (r5 : decide (kc < 0) = false) (r6 : decide ((8 : Int) < kc) = false) (r7 : decide ((256 : Int) < (l7 : Int)) = true) :
    Calls Try.prog 5 #[.agg #[.int .i64 s, .slice a1 l1 c1, .slice a2 l2 c2, .int .i64 kc, .slice a4 l4 c4, .slice a5 l5 c5, .slice a6 l6 c6, .slice a7 l7 c7, .slice a8 l8 c8]] w fun e w' => e = .returned (.bool false) ∧ Below w.heap.size w w' := by
  go_enter Try.func5, Try.ntmps5
  go_wp2
  go_ret
  exact ⟨rfl, bal (brf w) _⟩
end Go.Proofs.Ytbpcomnneemolaa
namespace Go.Proofs.Ytbpcomnneemolaa
open Go.RowKit Gs
set_option linter.unusedVariables false
set_option linter.unusedSimpArgs false
set_option maxRecDepth 100000
set_option maxHeartbeats 16000000 in
theorem sCount8 (s kc : Int) (l1 l2 l4 l5 l6 l7 l8 : Nat) (a1 a2 a4 a5 a6 a7 a8 : Option Addr) (c1 c2 c4 c5 c6 c7 c8 : Nat) (w : World) (r0 : decide ((16384 : Int) < (l1 : Int)) = false) (r1 : decide (s < 0) = false) (r2 : decide ((16384 : Int) < s) = false) (r3 : decide ((256 : Int) < (l2 : Int)) = false) (r4 : decide ((256 : Int) < (l4 : Int)) = false) (r5 : decide (kc < 0) = false) (r6 : decide ((8 : Int) < kc) = false) (r7 : decide ((256 : Int) < (l7 : Int)) = false) (r8 : decide ((256 : Int) < (l8 : Int)) = true) :
    Calls Try.prog 5 #[.agg #[.int .i64 s, .slice a1 l1 c1, .slice a2 l2 c2, .int .i64 kc, .slice a4 l4 c4, .slice a5 l5 c5, .slice a6 l6 c6, .slice a7 l7 c7, .slice a8 l8 c8]] w fun e w' => e = .returned (.bool false) ∧ Below w.heap.size w w' := by
  go_enter Try.func5, Try.ntmps5
  go_wp2
  go_ret
  exact ⟨rfl, bal (brf w) _⟩
set_option maxHeartbeats 16000000 in
theorem sCount9 (s kc : Int) (l1 l2 l4 l5 l6 l7 l8 : Nat) (a1 a2 a4 a5 a6 a7 a8 : Option Addr) (c1 c2 c4 c5 c6 c7 c8 : Nat) (w : World) (r0 : decide ((16384 : Int) < (l1 : Int)) = false) (r1 : decide (s < 0) = false) (r2 : decide ((16384 : Int) < s) = false) (r3 : decide ((256 : Int) < (l2 : Int)) = false) (r4 : decide ((256 : Int) < (l4 : Int)) = false) (r5 : decide (kc < 0) = false) (r6 : decide ((8 : Int) < kc) = false) (r7 : decide ((256 : Int) < (l7 : Int)) = false) (r8 : decide ((256 : Int) < (l8 : Int)) = false) (r9 : ((l5 : Int) != (l4 : Int)) = true) :
    Calls Try.prog 5 #[.agg #[.int .i64 s, .slice a1 l1 c1, .slice a2 l2 c2, .int .i64 kc, .slice a4 l4 c4, .slice a5 l5 c5, .slice a6 l6 c6, .slice a7 l7 c7, .slice a8 l8 c8]] w fun e w' => e = .returned (.bool false) ∧ Below w.heap.size w w' := by
  go_enter Try.func5, Try.ntmps5
  go_wp2
  go_ret
  exact ⟨rfl, bal (brf w) _⟩
end Go.Proofs.Ytbpcomnneemolaa
namespace Go.Proofs.Ytbpcomnneemolaa
open Go.RowKit Gs
set_option linter.unusedVariables false
set_option linter.unusedSimpArgs false
set_option maxRecDepth 100000
set_option maxHeartbeats 16000000 in
theorem sCount10 (s kc : Int) (l1 l2 l4 l5 l6 l7 l8 : Nat) (a1 a2 a4 a5 a6 a7 a8 : Option Addr) (c1 c2 c4 c5 c6 c7 c8 : Nat) (w : World) (r0 : decide ((16384 : Int) < (l1 : Int)) = false) (r1 : decide (s < 0) = false) (r2 : decide ((16384 : Int) < s) = false) (r3 : decide ((256 : Int) < (l2 : Int)) = false) (r4 : decide ((256 : Int) < (l4 : Int)) = false) (r5 : decide (kc < 0) = false) (r6 : decide ((8 : Int) < kc) = false) (r7 : decide ((256 : Int) < (l7 : Int)) = false) (r8 : decide ((256 : Int) < (l8 : Int)) = false) (r9 : ((l5 : Int) != (l4 : Int)) = false) (r10 : ((l6 : Int) != (l4 : Int)) = true) :
    Calls Try.prog 5 #[.agg #[.int .i64 s, .slice a1 l1 c1, .slice a2 l2 c2, .int .i64 kc, .slice a4 l4 c4, .slice a5 l5 c5, .slice a6 l6 c6, .slice a7 l7 c7, .slice a8 l8 c8]] w fun e w' => e = .returned (.bool false) ∧ Below w.heap.size w w' := by
  go_enter Try.func5, Try.ntmps5
  go_wp2
  go_ret
  exact ⟨rfl, bal (brf w) _⟩
end Go.Proofs.Ytbpcomnneemolaa
