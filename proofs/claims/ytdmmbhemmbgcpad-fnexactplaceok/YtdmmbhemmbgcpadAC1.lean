/- Small functions of the program: counts, how many sources there are. -/
import Derived.Test.YtdmmbhemmbgcpadMX
import Derived.Test.YtdmmbhemmbgcpadRW3
namespace Go.Proofs.Ytdmmbhemmbgcpad
open Go Go.RowKit Gs
set_option linter.unusedVariables false
set_option linter.unusedSimpArgs false
set_option maxRecDepth 100000
/-- The counts of a packed design. -/
def countsN (n0 n1 n2 n3 n4 : Nat) : Bool := decide (n2 ≤ 512) && decide (n1 ≤ 8) && (decide (n0 ≤ 2048) && decide (n3 ≤ 2048) && decide (n4 ≤ 2048))
def countsA (a : Packed) : Bool := countsN a.ins.length a.clocks.length a.blocks.length a.outs.length a.checks.length
set_option maxHeartbeats 1600000 in
theorem iSources (a0 a2 : Option Addr) (n0 n2 c0 c2 : Nat) (v1 v3 v4 : Value) (w : World) (h0 : n0 ≤ 1048576) (h2 : n2 ≤ 1048576) :
    Calls Try.prog 49 #[.agg #[.slice a0 n0 c0, v1, .slice a2 n2 c2, v3, v4]] w fun e w' => e = .returned (.int .i64 ((n0 + n2 : Nat) : Int)) ∧ Below w.heap.size w w' := by
  obtain ⟨N, e1⟩ : ∃ N : Nat, n0 + n2 = N := ⟨_, rfl⟩
  rw [e1]
  have q : (n0 : Int) + (n2 : Int) = (N : Int) := by omega
  clear e1
  go_enter Try.func49, Try.ntmps49
  go_wp2
  exact bodyPost_ret (v := .int .i64 (N : Int)) (by simp [results, Try.results49, go_sem]) rfl ⟨rfl, bal (brf w) _⟩
set_option maxHeartbeats 3200000 in
theorem iCounts (s0 s1 s2 s3 s4 : Option Addr) (l0 l1 l2 l3 l4 c0 c1 c2 c3 c4 : Nat) (w : World) (h0 : l0 ≤ 1048576) (h1 : l1 ≤ 1048576) (h2 : l2 ≤ 1048576) (h3 : l3 ≤ 1048576) (h4 : l4 ≤ 1048576) :
    Calls Try.prog 37 #[.agg #[.slice s0 l0 c0, .slice s1 l1 c1, .slice s2 l2 c2, .slice s3 l3 c3, .slice s4 l4 c4]] w fun e w' => e = .returned (.bool (countsN l0 l1 l2 l3 l4)) ∧ Below w.heap.size w w' := by
  by_cases k3 : (l2 : Int) > 512
  · have HR : Hid (countsN l0 l1 l2 l3 l4 = false) := hide (by unfold countsN; rw [decide_eq_false (p := l2 ≤ 512) (by omega)]; rfl)
    go_enter Try.func37, Try.ntmps37
    go_wp2
    exact bodyPost_ret (v := .bool false) (by simp [results, Try.results37, go_sem]) rfl ⟨by rw [unhide HR], bal (brf w) _⟩
  · by_cases k1 : (l1 : Int) > 8
    · have HR : Hid (countsN l0 l1 l2 l3 l4 = false) := hide (by unfold countsN; rw [decide_eq_false (p := l1 ≤ 8) (by omega)]; simp)
      have k3' : decide ((512 : Int) < l2) = false := decide_eq_false (by omega)
      go_enter Try.func37, Try.ntmps37
      go_wp2
      exact bodyPost_ret (v := .bool false) (by simp [results, Try.results37, go_sem]) rfl ⟨by rw [unhide HR], bal (brf w) _⟩
    · have HR : Hid (countsN l0 l1 l2 l3 l4 = (decide (l0 ≤ 2048) && decide (l3 ≤ 2048) && decide (l4 ≤ 2048))) := hide (by
        unfold countsN
        rw [decide_eq_true (p := l1 ≤ 8) (by omega), decide_eq_true (p := l2 ≤ 512) (by omega)]
        rfl)
      have k3' : decide ((512 : Int) < l2) = false := decide_eq_false (by omega)
      have k1' : decide ((8 : Int) < l1) = false := decide_eq_false (by omega)
      generalize countsN l0 l1 l2 l3 l4 = RR at *
      go_enter Try.func37, Try.ntmps37
      go_wp2
      · exact bodyPost_ret (v := .bool (decide ((l4 : Int) ≤ 2048))) (by simp [results, Try.results37, go_sem]) rfl ⟨ret_bool (by rw [unhide HR, Bool.eq_iff_iff]; simp only [Bool.and_eq_true, decide_eq_true_eq]; split at h <;> omega), bal (brf w) _⟩
      · rename_i hA; rw [if_pos h] at hA; exact bodyPost_ret (v := .bool (decide ((l3 : Int) ≤ 2048))) (by simp [results, Try.results37, go_sem]) rfl ⟨ret_bool (by rw [unhide HR, Bool.eq_iff_iff]; simp only [Bool.and_eq_true, decide_eq_true_eq]; omega), bal (brf w) _⟩
      · rename_i hA; rw [if_neg h] at hA; exact bodyPost_ret (v := .bool (decide ((l0 : Int) ≤ 2048))) (by simp [results, Try.results37, go_sem]) rfl ⟨ret_bool (by rw [unhide HR, Bool.eq_iff_iff]; simp only [Bool.and_eq_true, decide_eq_true_eq]; omega), bal (brf w) _⟩
end Go.Proofs.Ytdmmbhemmbgcpad
