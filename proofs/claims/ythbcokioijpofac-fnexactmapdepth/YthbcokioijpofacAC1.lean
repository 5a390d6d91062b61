/- Small functions of the program: the first table, counts. -/
import Derived.Test.YthbcokioijpofacMX
import Derived.Test.YthbcokioijpofacRW3
namespace Go.Proofs.Ythbcokioijpofac
open Go Go.RowKit Gs
set_option linter.unusedVariables false
set_option linter.unusedSimpArgs false
set_option maxRecDepth 100000
/-- The counts of a mapped design. -/
def countsN (n0 n1 n2 n3 n4 n5 : Nat) : Bool := decide (n3 ≤ 1024) && decide (n1 ≤ 8) && (decide (n0 + n2 ≤ 2048) && decide (n4 ≤ 2048) && decide (n5 ≤ 2048))
def countsA (a : Mapped) : Bool := countsN a.ins.length a.clocks.length a.regs.length a.luts.length a.outs.length a.checks.length
set_option maxHeartbeats 1600000 in
theorem iFirst (a0 a2 : Option Addr) (n0 n2 c0 c2 : Nat) (v1 v3 v4 v5 : Value) (w : World) (h0 : n0 ≤ 1048576) (h2 : n2 ≤ 1048576) :
    Calls Try.prog 19 #[.agg #[.slice a0 n0 c0, v1, .slice a2 n2 c2, v3, v4, v5]] w fun e w' => e = .returned (.int .i64 ((n0 + n2 : Nat) : Int)) ∧ Below w.heap.size w w' := by
  obtain ⟨N, e1⟩ : ∃ N : Nat, n0 + n2 = N := ⟨_, rfl⟩
  rw [e1]
  have q : (n0 : Int) + (n2 : Int) = (N : Int) := by omega
  clear e1
  go_enter Try.func19, Try.ntmps19
  go_wp2
  exact bodyPost_ret (v := .int .i64 (N : Int)) (by simp [results, Try.results19, go_sem]) rfl ⟨rfl, bal (brf w) _⟩
end Go.Proofs.Ythbcokioijpofac
