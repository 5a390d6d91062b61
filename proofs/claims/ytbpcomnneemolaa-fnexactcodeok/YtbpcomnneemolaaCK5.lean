/- l07Args. -/
import Derived.Test.YtbpcomnneemolaaCKA
namespace Go.Proofs.Ytbpcomnneemolaa
open Go.RowKit Gs
set_option linter.unusedVariables false
set_option maxRecDepth 100000
/-- How many slots an op of an instruction takes, by the document. -/
def argsOf (op : Int) : Int := if op = 7 ∨ op = 8 ∨ op = 11 then -1 else if (1 ≤ op ∧ op ≤ 18) ∨ op = 26 then 2 else if (19 ≤ op ∧ op ≤ 24) ∨ op = 27 ∨ op = 28 then 1 else if op = 25 then 3 else if op = 29 ∨ op = 33 ∨ op = 34 then 0 else -1
set_option maxHeartbeats 16000000 in
theorem sArgs (op : Int) (w : World) : Calls Try.prog 14 #[.int .i64 op] w fun e w' => e = .returned (.int .i64 (argsOf op)) ∧ w' = w := by
  by_cases h : 0 ≤ op ∧ op ≤ 34
  · have hc : op = 0 ∨ op = 1 ∨ op = 2 ∨ op = 3 ∨ op = 4 ∨ op = 5 ∨ op = 6 ∨ op = 7 ∨ op = 8 ∨ op = 9 ∨ op = 10 ∨ op = 11 ∨ op = 12 ∨ op = 13 ∨ op = 14 ∨ op = 15 ∨ op = 16 ∨ op = 17 ∨ op = 18 ∨ op = 19 ∨ op = 20 ∨ op = 21 ∨ op = 22 ∨ op = 23 ∨ op = 24 ∨ op = 25 ∨ op = 26 ∨ op = 27 ∨ op = 28 ∨ op = 29 ∨ op = 30 ∨ op = 31 ∨ op = 32 ∨ op = 33 ∨ op = 34 := by omega
    clear h
    rcases hc with rfl | rfl | rfl | rfl | rfl | rfl | rfl | rfl | rfl | rfl | rfl | rfl | rfl | rfl | rfl | rfl | rfl | rfl | rfl | rfl | rfl | rfl | rfl | rfl | rfl | rfl | rfl | rfl | rfl | rfl | rfl | rfl | rfl | rfl | rfl
    all_goals
      go_enter Try.func14, Try.ntmps14
      go_wp2
      go_ret
      exact ⟨rfl, rfl⟩
  · have E : argsOf op = -1 := by
      unfold argsOf
      rw [if_neg (by omega), if_neg (by omega), if_neg (by omega), if_neg (by omega), if_neg (by omega)]
    rw [E]
    have e7 : (op == 7) = false := beq_eq_false_iff_ne.2 (by omega)
    have e8 : (op == 8) = false := beq_eq_false_iff_ne.2 (by omega)
    have e11 : (op == 11) = false := beq_eq_false_iff_ne.2 (by omega)
    have e26 : (op == 26) = false := beq_eq_false_iff_ne.2 (by omega)
    have e27 : (op == 27) = false := beq_eq_false_iff_ne.2 (by omega)
    have e28 : (op == 28) = false := beq_eq_false_iff_ne.2 (by omega)
    have e25 : (op == 25) = false := beq_eq_false_iff_ne.2 (by omega)
    have e29 : (op == 29) = false := beq_eq_false_iff_ne.2 (by omega)
    have e33 : (op == 33) = false := beq_eq_false_iff_ne.2 (by omega)
    have e34 : (op == 34) = false := beq_eq_false_iff_ne.2 (by omega)
    by_cases h0 : op < 0
    · have g1 : decide ((1 : Int) ≤ op) = false := decide_eq_false (by omega)
      have g2 : decide ((19 : Int) ≤ op) = false := decide_eq_false (by omega)
      clear h
      go_enter Try.func14, Try.ntmps14
      go_wp2
      go_ret
      exact ⟨rfl, rfl⟩
    · have g1 : decide (op ≤ (18 : Int)) = false := decide_eq_false (by omega)
      have g2 : decide (op ≤ (24 : Int)) = false := decide_eq_false (by omega)
      have g3 : (1 : Int) ≤ op := by omega
      have g4 : (19 : Int) ≤ op := by omega
      clear h
      go_enter Try.func14, Try.ntmps14
      go_wp2
      go_ret
      exact ⟨rfl, rfl⟩
end Go.Proofs.Ytbpcomnneemolaa
