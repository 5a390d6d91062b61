/- The specification's FsmOK: the counts. -/
import Derived.Test.YtjbbjgoofenkpaaF6
import Derived.Test.YtjbbjgoofenkpaaS1
namespace Go.Proofs.Ytjbbjgoofenkpaa
open Go.RowKit Gs
set_option linter.unusedVariables false
set_option linter.unusedSimpArgs false
set_option maxRecDepth 100000
set_option maxHeartbeats 16000000 in
theorem sCntNo (ins ob : Int) (a2 a3 a4 : Option Addr) (n2 n3 n4 c2 c3 c4 : Nat) (w : World) (h2 : n2 ≤ maxLen) (h3 : n3 ≤ maxLen) (h4 : n4 ≤ maxLen) (hc : cntB ins ob n2 n3 n4 = false) :
    Calls Try.prog 19 #[.agg #[.int .i64 ins, .int .i64 ob, .slice a2 n2 c2, .slice a3 n3 c3, .slice a4 n4 c4]] w fun e w' => e = .returned (.bool false) ∧ Below w.heap.size w w' := by
  unfold maxLen at h2 h3 h4
  have HC := hide hc
  clear hc
  by_cases q0 : ins < 0
  · go_enter Try.func19, Try.ntmps19
    go_wp2
    go_ret
    exact ⟨rfl, bal (brf w) _⟩
  have d0 : decide (ins < 0) = false := decide_eq_false q0
  by_cases q5 : 5 < ins
  · go_enter Try.func19, Try.ntmps19
    go_wp2
    go_ret
    exact ⟨rfl, bal (brf w) _⟩
  have d5 : decide (5 < ins) = false := decide_eq_false q5
  by_cases q1 : ob < 1
  · go_enter Try.func19, Try.ntmps19
    go_wp2
    go_ret
    exact ⟨rfl, bal (brf w) _⟩
  have d1 : decide (ob < 1) = false := decide_eq_false q1
  by_cases q6 : 64 < ob
  · go_enter Try.func19, Try.ntmps19
    go_wp2
    go_ret
    exact ⟨rfl, bal (brf w) _⟩
  have d6 : decide (64 < ob) = false := decide_eq_false q6
  by_cases p1 : (n2 : Int) < 1
  · go_enter Try.func19, Try.ntmps19
    go_wp2
    go_ret
    exact ⟨rfl, bal (brf w) _⟩
  have e1 : decide ((n2 : Int) < 1) = false := decide_eq_false p1
  by_cases p2 : 64 < (n2 : Int)
  · go_enter Try.func19, Try.ntmps19
    go_wp2
    go_ret
    exact ⟨rfl, bal (brf w) _⟩
  have e2 : decide (64 < (n2 : Int)) = false := decide_eq_false p2
  by_cases p3 : n3 = n2
  · by_cases p4 : n4 = n2
    · exfalso
      have := unhide HC
      unfold cntB at this
      simp only [Bool.and_eq_false_iff, decide_eq_false_iff_not] at this
      omega
    · have i3 : ((n3 : Int) != (n2 : Int)) = false := by rw [p3]; simp
      have i4 : ((n4 : Int) != (n2 : Int)) = true := by simp; omega
      clear p3 p4
      go_enter Try.func19, Try.ntmps19
      go_wp2
      go_ret
      exact ⟨rfl, bal (brf w) _⟩
  · have i3 : ((n3 : Int) != (n2 : Int)) = true := by simp; omega
    clear p3
    go_enter Try.func19, Try.ntmps19
    go_wp2
    go_ret
    exact ⟨rfl, bal (brf w) _⟩
end Go.Proofs.Ytjbbjgoofenkpaa
