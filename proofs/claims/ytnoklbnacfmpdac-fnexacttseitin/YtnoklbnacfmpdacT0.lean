/- Clauses of a graph: what both make of a literal. -/
import Derived.Test.YtnoklbnacfmpdacL0
namespace Go.Proofs.Ytnoklbnacfmpdac
open Go.RowKit Gs
set_option linter.unusedVariables false
def vN (z : Int) : Nat := (z / 2).toNat
def mkN (ns : List Bool) (x : AndG) : List Bool := (ns.set (vN x.a) true).set (vN x.b) true
def stN (FA : Nat) (xs : List AndG) (k : Nat) (ns : List Bool) : List Bool :=
  match xs[k]? with
  | some x => if ns.getD (FA + k) false then mkN ns x else ns
  | none => ns
/-- The ands ahead of the k-th are looked at, the last first. -/
def coneD (FA : Nat) (xs : List AndG) : Nat → List Bool → List Bool
  | 0, ns => ns
  | k + 1, ns => coneD FA xs k (stN FA xs k ns)
def startN (V : Nat) (lit : Int) : List Bool := (List.replicate V false).set (vN lit) true
def coneB (FA : Nat) (xs : List AndG) (lit : Int) : List Bool := coneD FA xs xs.length (startN (FA + xs.length) lit)
theorem mkN_len (ns : List Bool) (x : AndG) : (mkN ns x).length = ns.length := by unfold mkN; simp
theorem stN_len (FA : Nat) (xs : List AndG) (k : Nat) (ns : List Bool) : (stN FA xs k ns).length = ns.length := by
  unfold stN; split
  · split
    · exact mkN_len _ _
    · rfl
  · rfl
theorem coneD_len (FA : Nat) (xs : List AndG) : ∀ (k : Nat) (ns : List Bool), (coneD FA xs k ns).length = ns.length
  | 0, _ => rfl
  | k + 1, ns => by rw [coneD, coneD_len FA xs k, stN_len]
theorem startN_len (V : Nat) (lit : Int) : (startN V lit).length = V := by unfold startN; simp
theorem coneB_len (FA : Nat) (xs : List AndG) (lit : Int) : (coneB FA xs lit).length = FA + xs.length := by unfold coneB; rw [coneD_len, startN_len]
theorem stN_yes {FA k : Nat} {xs : List AndG} {ns : List Bool} {x : AndG} (h : xs[k]? = some x) (hn : ns[FA + k]? = some true) : stN FA xs k ns = mkN ns x := by
  unfold stN; rw [h]; simp [List.getD_eq_getElem?_getD, hn]
theorem stN_no {FA k : Nat} {xs : List AndG} {ns : List Bool} {x : AndG} (h : xs[k]? = some x) (hn : ns[FA + k]? = some false) : stN FA xs k ns = ns := by
  unfold stN; rw [h]; simp [List.getD_eq_getElem?_getD, hn]
/-- A literal of clauses. -/
def clL (z : Int) : Int := if z % 2 = 1 then -(z / 2 + 1) else z / 2 + 1
def andC (n a b : Int) : List (List Int) := [[-n, a], [-n, b], [n, -a, -b]]
/-- The clauses of one and. -/
def clsA (FA : Nat) (xs : List AndG) (i : Nat) : List (List Int) :=
  match xs[i]? with
  | some x => andC ((FA + i : Nat) + 1) (clL x.a) (clL x.b)
  | none => []
def needL (FA : Nat) (ns : List Bool) (k : Nat) : List Nat := (List.range k).filter fun i => ns.getD (FA + i) false
def clsL (FA : Nat) (xs : List AndG) (is : List Nat) : List (List Int) := [[-1]] ++ is.flatMap (clsA FA xs)
theorem needL_yes {FA k : Nat} {ns : List Bool} (h : ns[FA + k]? = some true) : needL FA ns (k + 1) = needL FA ns k ++ [k] := by
  unfold needL; rw [List.range_succ, List.filter_append]; simp [List.getD_eq_getElem?_getD, h]
theorem needL_no {FA k : Nat} {ns : List Bool} (h : ns[FA + k]? = some false) : needL FA ns (k + 1) = needL FA ns k := by
  unfold needL; rw [List.range_succ, List.filter_append]; simp [List.getD_eq_getElem?_getD, h]
theorem needL_len (FA : Nat) (ns : List Bool) (k : Nat) : (needL FA ns k).length ≤ k := by
  unfold needL; exact Nat.le_trans (List.length_filter_le _ _) (by simp)
theorem clsL_step {FA : Nat} {xs : List AndG} {is : List Nat} {i : Nat} : clsL FA xs (is ++ [i]) = clsL FA xs is ++ clsA FA xs i := by
  unfold clsL; rw [List.flatMap_append, ← List.append_assoc]; simp
theorem clsA_some {FA i : Nat} {xs : List AndG} {x : AndG} (h : xs[i]? = some x) : clsA FA xs i = andC ((FA + i : Nat) + 1) (clL x.a) (clL x.b) := by
  unfold clsA; rw [h]
theorem clsA_len (FA : Nat) (xs : List AndG) (i : Nat) : (clsA FA xs i).length ≤ 3 := by
  unfold clsA andC; split <;> simp
theorem clsL_len (FA : Nat) (xs : List AndG) : ∀ (is : List Nat), (clsL FA xs is).length ≤ 1 + 3 * is.length
  | [] => by unfold clsL; simp
  | i :: is => by
    have := clsL_len FA xs is
    have h2 := clsA_len FA xs i
    unfold clsL at *
    simp at *
    omega
/-- The clauses for a literal. -/
def tsC (FA : Nat) (xs : List AndG) (lit : Int) : List (List Int) := clsL FA xs (needL FA (coneB FA xs lit) xs.length) ++ [[clL lit]]
def Small (xs : List (List Int)) : Prop := ∀ x ∈ xs, x.length ≤ 3
theorem clsL_small (FA : Nat) (xs : List AndG) (is : List Nat) : Small (clsL FA xs is) := by
  intro x hx
  unfold clsL at hx
  rcases List.mem_append.1 hx with h | h
  · simp at h; subst h; decide
  · obtain ⟨i, _, h⟩ := List.mem_flatMap.1 h
    unfold clsA andC at h
    split at h
    · simp at h; rcases h with rfl | rfl | rfl <;> simp
    · simp at h
theorem tsC_small (FA : Nat) (xs : List AndG) (lit : Int) : Small (tsC FA xs lit) := by
  intro x hx
  unfold tsC at hx
  rcases List.mem_append.1 hx with h | h
  · exact clsL_small _ _ _ x h
  · simp at h; subst h; simp
theorem tsC_len (FA : Nat) (xs : List AndG) (lit : Int) : (tsC FA xs lit).length ≤ 2 + 3 * xs.length := by
  unfold tsC
  rw [List.length_append]
  have h1 := clsL_len FA xs (needL FA (coneB FA xs lit) xs.length)
  have h2 := needL_len FA (coneB FA xs lit) xs.length
  simp
  omega
def varsA' (x : Aig) : Nat := firstN x + x.ands.length
/-- Whether there is an answer; which code there is. -/
def tsOK (x : Aig) (lit : Int) : Bool := aigI x && litB lit (varsA' x)
def tsMany (x : Aig) (lit : Int) : Bool := decide (2048 < (varsA' x : Int)) || decide (8192 < ((tsC (firstN x) x.ands lit).length : Int))
def tsV (x : Aig) (lit : Int) : Int := if tsOK x lit then (if tsMany x lit then 0 else (varsA' x : Int)) else 0
def tsL (x : Aig) (lit : Int) : List (List Int) := if tsOK x lit then (if tsMany x lit then [] else tsC (firstN x) x.ands lit) else []
def tsK (x : Aig) (lit : Int) : Int := if tsOK x lit then (if tsMany x lit then 10 else 0) else 1
end Go.Proofs.Ytnoklbnacfmpdac
