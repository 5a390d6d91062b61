/- Small functions of the program. -/
import Derived.Test.YtjbbjgoofenkpaaI2
import Derived.Test.YtjbbjgoofenkpaaDD
namespace Go.Proofs.Ytjbbjgoofenkpaa
open Go.RowKit Gs
set_option linter.unusedVariables false
set_option maxRecDepth 100000
theorem iPlace (n c : Int) (w : World) : Calls Try.prog 24 #[.int .i64 n, .int .i64 c] w fun e w' => e = .returned (.bool (decide (0 ≤ n) && decide (n < c))) ∧ w' = w := by
  go_enter Try.func24, Try.ntmps24
  by_cases h0 : 0 ≤ n
  · go_wp2
    exact bodyPost_ret (v := .bool (decide (n < c))) (by simp [results, Try.results24, go_sem]) rfl ⟨by rw [show decide (0 ≤ n) = true from decide_eq_true (by omega)]; rfl, rfl⟩
  · have h1 : n < 0 := by omega
    go_wp2
    exact bodyPost_ret (v := .bool false) (by simp [results, Try.results24, go_sem]) rfl ⟨by rw [show decide (0 ≤ n) = false from decide_eq_false (by omega)]; rfl, rfl⟩
theorem iWidthOK (n : Int) (w : World) : Calls Try.prog 37 #[.int .i64 n] w fun e w' => e = .returned (.bool (decide (1 ≤ n) && decide (n ≤ 64))) ∧ w' = w := by
  go_enter Try.func37, Try.ntmps37
  by_cases h0 : 1 ≤ n
  · go_wp2
    exact bodyPost_ret (v := .bool (decide (n ≤ 64))) (by simp [results, Try.results37, go_sem]) rfl ⟨by rw [show decide (1 ≤ n) = true from decide_eq_true (by omega)]; rfl, rfl⟩
  · have h1 : n < 1 := by omega
    go_wp2
    exact bodyPost_ret (v := .bool false) (by simp [results, Try.results37, go_sem]) rfl ⟨by rw [show decide (1 ≤ n) = false from decide_eq_false (by omega)]; rfl, rfl⟩
end Go.Proofs.Ytjbbjgoofenkpaa
