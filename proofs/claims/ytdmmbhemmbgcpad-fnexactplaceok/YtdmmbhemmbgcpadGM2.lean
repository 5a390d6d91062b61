/- Small functions of the program. -/
import Derived.Test.YtdmmbhemmbgcpadGS2
import Derived.Test.YtdmmbhemmbgcpadDD
namespace Go.Proofs.Ytdmmbhemmbgcpad
open Go.RowKit Gs
set_option linter.unusedVariables false
set_option maxRecDepth 100000
theorem iPlace (n c : Int) (w : World) : Calls Try.prog 24 #[.int .i64 n, .int .i64 c] w fun e w' => e = .returned (.bool (decide (0 ≤ n) && decide (n < c))) ∧ w' = w := by
  go_enter Try.func24, Try.ntmps24
  by_cases h0 : 0 ≤ n
  · go_wp2
    exact bodyPost_ret (v := .bool (decide (n < c))) (by simp [results, Try.results24, go_sem]) rfl ⟨by rw [show decide (0 ≤ n) = true from decide_eq_true (by omega)]; rfl, rfl⟩
  · have h1 : n < 0 := by omega
    go_wp2
    exact bodyPost_ret (v := .bool false) (by simp [results, Try.results24, go_sem]) rfl ⟨by rw [show decide (0 ≤ n) = false from decide_eq_false (by omega)]; rfl, rfl⟩
end Go.Proofs.Ytdmmbhemmbgcpad
namespace Go.Proofs.Ytdmmbhemmbgcpad
open Go.RowKit Gs
set_option linter.unusedVariables false
set_option maxRecDepth 100000
theorem iNameFits (s : ByteArray) (w : World) (hs : s.size ≤ maxLen) : Calls Try.prog 62 #[.string s] w fun e w' => e = .returned (.bool (decide (1 ≤ s.size) && decide (s.size ≤ 1000))) ∧ w' = w := by
  unfold maxLen at hs
  go_enter Try.func62, Try.ntmps62
  by_cases h0 : 1 ≤ (s.size : Int)
  · go_wp2
    exact bodyPost_ret (v := .bool (decide ((s.size : Int) ≤ 1000))) (by simp [results, Try.results62, go_sem]) rfl ⟨by rw [show decide (1 ≤ s.size) = true from decide_eq_true (by omega), show decide ((s.size : Int) ≤ 1000) = decide (s.size ≤ 1000) from decide_eq_decide.2 (by omega)]; rfl, rfl⟩
  · have h1 : (s.size : Int) < 1 := by omega
    go_wp2
    exact bodyPost_ret (v := .bool false) (by simp [results, Try.results62, go_sem]) rfl ⟨by rw [show decide (1 ≤ s.size) = false from decide_eq_false (by omega)]; rfl, rfl⟩
def signOp (n : Int) : Bool := decide (n = 7) || decide (n = 8) || decide (n = 12) || decide (n = 13)
def cellOp (n : Int) : Bool := decide (n ≠ 7) && decide (n ≠ 8) && decide (n ≠ 11) && decide (1 ≤ n) && decide (n ≤ 29)
end Go.Proofs.Ytdmmbhemmbgcpad
