/- Small functions of the program: counts, the first and, a literal that is there. -/
import Derived.Test.YtnoklbnacfmpdacMa
namespace Go.Proofs.Ytnoklbnacfmpdac
open Go.RowKit Gs
set_option linter.unusedVariables false
set_option maxRecDepth 100000
/-- The counts of a graph. -/
def countsN (n0 n1 n2 n3 n4 n5 : Nat) : Bool := decide (n3 ≤ 8192) && decide (n1 ≤ 8) && (decide (n0 + n2 ≤ 2048) && decide (n4 ≤ 2048) && decide (n5 ≤ 2048))
def countsA (a : Aig) : Bool := countsN a.ins.length a.clocks.length a.latches.length a.ands.length a.outs.length a.checks.length
set_option maxHeartbeats 3200000 in
theorem iCounts (a0 a1 a2 a3 a4 a5 : Option Addr) (n0 n1 n2 n3 n4 n5 c0 c1 c2 c3 c4 c5 : Nat) (w : World) (h0 : n0 ≤ 1048576) (h1 : n1 ≤ 1048576) (h2 : n2 ≤ 1048576) (h3 : n3 ≤ 1048576) (h4 : n4 ≤ 1048576) (h5 : n5 ≤ 1048576) :
    Calls Try.prog 50 #[.agg #[.slice a0 n0 c0, .slice a1 n1 c1, .slice a2 n2 c2, .slice a3 n3 c3, .slice a4 n4 c4, .slice a5 n5 c5]] w fun e w' => e = .returned (.bool (countsN n0 n1 n2 n3 n4 n5)) ∧ Below w.heap.size w w' := by
  by_cases k3 : (n3 : Int) > 8192
  · have HR : Hid (countsN n0 n1 n2 n3 n4 n5 = false) := hide (by unfold countsN; rw [decide_eq_false (p := n3 ≤ 8192) (by omega)]; rfl)
    go_enter Try.func50, Try.ntmps50
    go_wp2
    exact bodyPost_ret (v := .bool false) (by simp [results, Try.results50, go_sem]) rfl ⟨by rw [unhide HR], bal (brf w) _⟩
  · by_cases k1 : (n1 : Int) > 8
    · have HR : Hid (countsN n0 n1 n2 n3 n4 n5 = false) := hide (by unfold countsN; rw [decide_eq_false (p := n1 ≤ 8) (by omega)]; simp)
      have k3' : decide ((8192 : Int) < n3) = false := decide_eq_false (by omega)
      go_enter Try.func50, Try.ntmps50
      go_wp2
      exact bodyPost_ret (v := .bool false) (by simp [results, Try.results50, go_sem]) rfl ⟨by rw [unhide HR], bal (brf w) _⟩
    · have HR : Hid (countsN n0 n1 n2 n3 n4 n5 = (decide (n0 + n2 ≤ 2048) && decide (n4 ≤ 2048) && decide (n5 ≤ 2048))) := hide (by unfold countsN; rw [decide_eq_true (p := n1 ≤ 8) (by omega), decide_eq_true (p := n3 ≤ 8192) (by omega)]; rfl)
      have k3' : decide ((8192 : Int) < n3) = false := decide_eq_false (by omega)
      have k1' : decide ((8 : Int) < n1) = false := decide_eq_false (by omega)
      go_enter Try.func50, Try.ntmps50
      go_wp2
      all_goals
        refine bodyPost_ret (v := .bool (decide (n0 + n2 ≤ 2048) && decide (n4 ≤ 2048) && decide (n5 ≤ 2048))) ?_ rfl ⟨by rw [unhide HR], bal (brf w) _⟩
        simp [results, Try.results50, go_sem]
        rw [Bool.eq_iff_iff]
        simp
        omega
set_option maxHeartbeats 1600000 in
theorem iFirst (a0 a2 : Option Addr) (n0 n2 c0 c2 : Nat) (v1 v3 v4 v5 : Value) (w : World) (h0 : n0 ≤ 1048576) (h2 : n2 ≤ 1048576) :
    Calls Try.prog 27 #[.agg #[.slice a0 n0 c0, v1, .slice a2 n2 c2, v3, v4, v5]] w fun e w' => e = .returned (.int .i64 ((1 + n0 + n2 : Nat) : Int)) ∧ Below w.heap.size w w' := by
  obtain ⟨N, e1⟩ : ∃ N : Nat, 1 + n0 + n2 = N := ⟨_, rfl⟩
  rw [e1]
  have q : (1 : Int) + (n0 : Int) + (n2 : Int) = (N : Int) := by omega
  clear e1
  go_enter Try.func27, Try.ntmps27
  go_wp2
  exact bodyPost_ret (v := .int .i64 (N : Int)) (by simp [results, Try.results27, go_sem]) rfl ⟨rfl, bal (brf w) _⟩
/-- Whether a literal is there. -/
def litB (x : Int) (n : Nat) : Bool := decide (0 ≤ x) && decide (x < 2 * (n : Int))
set_option maxHeartbeats 1600000 in
theorem iLit (x : Int) (n : Nat) (w : World) (hn : n ≤ 4194304) :
    Calls Try.prog 28 #[.int .i64 x, .int .i64 (n : Int)] w fun e w' => e = .returned (.bool (litB x n)) ∧ w' = w := by
  go_enter Try.func28, Try.ntmps28
  go_wp2_with (first | (go_at_call 55; refine (iPlace x (2 * (n : Int)) _).mono ?_; rintro e W1 ⟨rfl, hb1⟩; subst hb1))
  exact bodyPost_ret (v := .bool (decide (0 ≤ x) && decide (x < 2 * (n : Int)))) (by simp [results, Try.results28, go_sem]) rfl ⟨rfl, rfl⟩
end Go.Proofs.Ytnoklbnacfmpdac
