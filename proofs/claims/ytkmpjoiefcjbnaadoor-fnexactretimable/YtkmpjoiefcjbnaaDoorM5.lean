/- onlyNamed; widthOfAll. -/
import Derived.Test.YtkmpjoiefcjbnaaDoorMA
namespace Go.Proofs.YtkmpjoiefcjbnaaDoor
open Go.RowKit Gs
set_option linter.unusedVariables false
set_option maxRecDepth 100000
/-- What onlyNamed answers, of operations that a cell may have. -/
def onlyN (op n : Int) (sg : Bool) (s : ByteArray) : Bool := (decide (op = 27) || decide (n = 0)) && (decide (op = 28) || signOp op || !sg) && (decide (op = 29) || s.toList.isEmpty)
theorem beq_dec (a b : Int) : (a == b) = decide (a = b) := rfl
set_option maxHeartbeats 4000000 in
theorem iOnly (op width n : Int) (sg : Bool) (s : ByteArray) (a : Option Addr) (len : Nat) (c : Nat) (w : World) (hop : op ≤ 29) :
    Calls Tryd.prog 84 #[.agg #[.int .i64 op, .int .i64 width, .int .i64 n, .bool sg, .string s, .slice a len c]] w fun e w' => e = .returned (.bool (onlyN op n sg s)) ∧ Below w.heap.size w w' := by
  have b30 : (op == 30) = false := by rw [beq_dec]; exact decide_eq_false (by omega)
  have b31 : (op == 31) = false := by rw [beq_dec]; exact decide_eq_false (by omega)
  have b32 : (op == 32) = false := by rw [beq_dec]; exact decide_eq_false (by omega)
  by_cases h27 : op = 27
  · subst h27
    have hS : signOp 27 = false := rfl
    cases sg <;> cases hs : s.toList.isEmpty
    all_goals (
      go_enter Tryd.func84, Tryd.ntmps84
      go_wp2_with (first | (go_at_call 93; refine (iSign _ _).mono ?_; rintro e w' ⟨rfl, rfl⟩; rw [hS]))
      go_ret
      refine ⟨?_, bal (brf w) _⟩
      simp [onlyN, hS, hs])
  have b27 : (op == 27) = false := by rw [beq_dec]; exact decide_eq_false h27
  by_cases h28 : op = 28
  · subst h28
    cases hn : n == 0 <;> cases hs : s.toList.isEmpty
    all_goals (
      go_enter Tryd.func84, Tryd.ntmps84
      go_wp2
      go_ret
      refine ⟨?_, bal (brf w) _⟩
      rw [beq_dec] at hn
      simp [onlyN, hn, hs])
  have b28 : (op == 28) = false := by rw [beq_dec]; exact decide_eq_false h28
  cases hn : n == 0 <;> cases hS : signOp op <;> cases sg <;> cases hs : s.toList.isEmpty <;> cases b29 : op == 29
  all_goals (
    go_enter Tryd.func84, Tryd.ntmps84
    go_wp2_with (first | (go_at_call 93; refine (iSign _ _).mono ?_; rintro e w' ⟨rfl, rfl⟩; rw [hS]))
    go_ret
    refine ⟨?_, bal (brf w) _⟩
    rw [beq_dec] at hn b29
    simp [onlyN, hn, hs, hS, h27, h28, b29])
end Go.Proofs.YtkmpjoiefcjbnaaDoor
