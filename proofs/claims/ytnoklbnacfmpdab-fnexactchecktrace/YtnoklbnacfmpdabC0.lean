/- Clauses: which of them are right. -/
import Derived.Test.YtnoklbnacfmpdabDD
namespace Go.Proofs.Ytnoklbnacfmpdab
open Go.RowKit Gs
set_option linter.unusedVariables false
/-- A literal of one of so many variables. -/
def litB (vars l : Int) : Bool := !(decide (l = 0) || decide (vars < l) || decide (l < -vars))
def clB (vars most : Int) (c : List Int) : Bool := !decide (most < (c.length : Int)) && c.all (litB vars)
def okC (vars most : Int) (cs : List (List Int)) : Bool := decide (0 ≤ vars) && decide (vars ≤ 2048) && decide (cs.length ≤ 8192) && cs.all (clB vars most)
theorem all_take {α : Type} {p : α → Bool} {xs : List α} {k : Nat} {x : α} (h : xs[k]? = some x) : (xs.take (k + 1)).all p = ((xs.take k).all p && p x) := by
  rw [List.take_add_one, h, List.all_append]; simp
theorem all_no {α : Type} {p : α → Bool} {xs : List α} {k : Nat} {x : α} (h : xs[k]? = some x) (hp : p x = false) : xs.all p = false := by
  rw [List.all_eq_false]
  exact ⟨x, List.mem_of_getElem? h, by simp [hp]⟩
theorem all_end {α : Type} {p : α → Bool} {xs : List α} (h : (xs.take xs.length).all p = true) : xs.all p = true := by
  rwa [List.take_of_length_le (Nat.le_refl _)] at h
end Go.Proofs.Ytnoklbnacfmpdab
