/- Small functions of the program. -/
import Derived.Test.YtaamibonpmijaaaGreatGS2
import Derived.Test.YtaamibonpmijaaaGreatDD
namespace Go.Proofs.YtaamibonpmijaaaGreat
open Go.RowKit Gs
set_option linter.unusedVariables false
set_option maxRecDepth 100000
theorem iPlace (n c : Int) (w : World) : Calls Tryz.prog 80 #[.int .i64 n, .int .i64 c] w fun e w' => e = .returned (.bool (decide (0 ≤ n) && decide (n < c))) ∧ w' = w := by
  go_enter Tryz.func80, Tryz.ntmps80
  by_cases h0 : 0 ≤ n
  · go_wp2
    exact bodyPost_ret (v := .bool (decide (n < c))) (by simp [results, Tryz.results80, go_sem]) rfl ⟨by rw [show decide (0 ≤ n) = true from decide_eq_true (by omega)]; rfl, rfl⟩
  · have h1 : n < 0 := by omega
    go_wp2
    exact bodyPost_ret (v := .bool false) (by simp [results, Tryz.results80, go_sem]) rfl ⟨by rw [show decide (0 ≤ n) = false from decide_eq_false (by omega)]; rfl, rfl⟩
end Go.Proofs.YtaamibonpmijaaaGreat
namespace Go.Proofs.YtaamibonpmijaaaGreat
open Go.RowKit Gs
set_option linter.unusedVariables false
set_option maxRecDepth 100000
theorem iNameFits (s : ByteArray) (w : World) (hs : s.size ≤ maxLen) : Calls Tryz.prog 86 #[.string s] w fun e w' => e = .returned (.bool (decide (1 ≤ s.size) && decide (s.size ≤ 1000))) ∧ w' = w := by
  unfold maxLen at hs
  go_enter Tryz.func86, Tryz.ntmps86
  by_cases h0 : 1 ≤ (s.size : Int)
  · go_wp2
    exact bodyPost_ret (v := .bool (decide ((s.size : Int) ≤ 1000))) (by simp [results, Tryz.results86, go_sem]) rfl ⟨by rw [show decide (1 ≤ s.size) = true from decide_eq_true (by omega), show decide ((s.size : Int) ≤ 1000) = decide (s.size ≤ 1000) from decide_eq_decide.2 (by omega)]; rfl, rfl⟩
  · have h1 : (s.size : Int) < 1 := by omega
    go_wp2
    exact bodyPost_ret (v := .bool false) (by simp [results, Tryz.results86, go_sem]) rfl ⟨by rw [show decide (1 ≤ s.size) = false from decide_eq_false (by omega)]; rfl, rfl⟩
def signOp (n : Int) : Bool := decide (n = 7) || decide (n = 8) || decide (n = 12) || decide (n = 13)
def cellOp (n : Int) : Bool := decide (n ≠ 7) && decide (n ≠ 8) && decide (n ≠ 11) && decide (1 ≤ n) && decide (n ≤ 29)
end Go.Proofs.YtaamibonpmijaaaGreat
namespace Go.Proofs.YtaamibonpmijaaaGreat
open Go.RowKit Gs
set_option linter.unusedVariables false
set_option maxRecDepth 100000
/-- The counts of a graph. -/
def countsN (n0 n1 n2 n3 n4 n5 : Nat) : Bool := decide (n3 ≤ 8192) && decide (n1 ≤ 8) && (decide (n0 + n2 ≤ 2048) && decide (n4 ≤ 2048) && decide (n5 ≤ 2048))
def countsA (a : Aig) : Bool := countsN a.ins.length a.clocks.length a.latches.length a.ands.length a.outs.length a.checks.length
set_option maxHeartbeats 3200000 in
theorem iCounts (a0 a1 a2 a3 a4 a5 : Option Addr) (n0 n1 n2 n3 n4 n5 c0 c1 c2 c3 c4 c5 : Nat) (w : World) (h0 : n0 ≤ 1048576) (h1 : n1 ≤ 1048576) (h2 : n2 ≤ 1048576) (h3 : n3 ≤ 1048576) (h4 : n4 ≤ 1048576) (h5 : n5 ≤ 1048576) :
    Calls Tryz.prog 62 #[.agg #[.slice a0 n0 c0, .slice a1 n1 c1, .slice a2 n2 c2, .slice a3 n3 c3, .slice a4 n4 c4, .slice a5 n5 c5]] w fun e w' => e = .returned (.bool (countsN n0 n1 n2 n3 n4 n5)) ∧ Below w.heap.size w w' := by
  by_cases k3 : (n3 : Int) > 8192
  · have HR : Hid (countsN n0 n1 n2 n3 n4 n5 = false) := hide (by unfold countsN; rw [decide_eq_false (p := n3 ≤ 8192) (by omega)]; rfl)
    go_enter Tryz.func62, Tryz.ntmps62
    go_wp2
    exact bodyPost_ret (v := .bool false) (by simp [results, Tryz.results62, go_sem]) rfl ⟨by rw [unhide HR], bal (brf w) _⟩
  · by_cases k1 : (n1 : Int) > 8
    · have HR : Hid (countsN n0 n1 n2 n3 n4 n5 = false) := hide (by unfold countsN; rw [decide_eq_false (p := n1 ≤ 8) (by omega)]; simp)
      have k3' : decide ((8192 : Int) < n3) = false := decide_eq_false (by omega)
      go_enter Tryz.func62, Tryz.ntmps62
      go_wp2
      exact bodyPost_ret (v := .bool false) (by simp [results, Tryz.results62, go_sem]) rfl ⟨by rw [unhide HR], bal (brf w) _⟩
    · have HR : Hid (countsN n0 n1 n2 n3 n4 n5 = (decide (n0 + n2 ≤ 2048) && decide (n4 ≤ 2048) && decide (n5 ≤ 2048))) := hide (by unfold countsN; rw [decide_eq_true (p := n1 ≤ 8) (by omega), decide_eq_true (p := n3 ≤ 8192) (by omega)]; rfl)
      have k3' : decide ((8192 : Int) < n3) = false := decide_eq_false (by omega)
      have k1' : decide ((8 : Int) < n1) = false := decide_eq_false (by omega)
      go_enter Tryz.func62, Tryz.ntmps62
      go_wp2
      all_goals
        refine bodyPost_ret (v := .bool (decide (n0 + n2 ≤ 2048) && decide (n4 ≤ 2048) && decide (n5 ≤ 2048))) ?_ rfl ⟨by rw [unhide HR], bal (brf w) _⟩
        simp [results, Tryz.results62, go_sem]
        rw [Bool.eq_iff_iff]
        simp
        omega
set_option maxHeartbeats 1600000 in
theorem iFirst (a0 a2 : Option Addr) (n0 n2 c0 c2 : Nat) (v1 v3 v4 v5 : Value) (w : World) (h0 : n0 ≤ 1048576) (h2 : n2 ≤ 1048576) :
    Calls Tryz.prog 69 #[.agg #[.slice a0 n0 c0, v1, .slice a2 n2 c2, v3, v4, v5]] w fun e w' => e = .returned (.int .i64 ((1 + n0 + n2 : Nat) : Int)) ∧ Below w.heap.size w w' := by
  obtain ⟨N, e1⟩ : ∃ N : Nat, 1 + n0 + n2 = N := ⟨_, rfl⟩
  rw [e1]
  have q : (1 : Int) + (n0 : Int) + (n2 : Int) = (N : Int) := by omega
  clear e1
  go_enter Tryz.func69, Tryz.ntmps69
  go_wp2
  exact bodyPost_ret (v := .int .i64 (N : Int)) (by simp [results, Tryz.results69, go_sem]) rfl ⟨rfl, bal (brf w) _⟩
/-- Whether a literal is there. -/
def litB (x : Int) (n : Nat) : Bool := decide (0 ≤ x) && decide (x < 2 * (n : Int))
set_option maxHeartbeats 1600000 in
theorem iLit (x : Int) (n : Nat) (w : World) (hn : n ≤ 4194304) :
    Calls Tryz.prog 78 #[.int .i64 x, .int .i64 (n : Int)] w fun e w' => e = .returned (.bool (litB x n)) ∧ w' = w := by
  go_enter Tryz.func78, Tryz.ntmps78
  go_wp2_with (first | (go_at_call 80; refine (iPlace x (2 * (n : Int)) _).mono ?_; rintro e W1 ⟨rfl, hb1⟩; subst hb1))
  exact bodyPost_ret (v := .bool (decide (0 ≤ x) && decide (x < 2 * (n : Int)))) (by simp [results, Tryz.results78, go_sem]) rfl ⟨rfl, rfl⟩
end Go.Proofs.YtaamibonpmijaaaGreat
namespace Go.Proofs.YtaamibonpmijaaaGreat
open Go.RowKit Gs
set_option linter.unusedVariables false
set_option maxRecDepth 100000
def anyW (n : Int) : Bool := decide (14 ≤ n) && decide (n ≤ 18)
end Go.Proofs.YtaamibonpmijaaaGreat
