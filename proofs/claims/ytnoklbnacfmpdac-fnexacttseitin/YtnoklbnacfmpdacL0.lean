/- The levels of a graph's variables: the mathematics. -/
import Derived.Test.YtnoklbnacfmpdacAI
namespace Go.Proofs.Ytnoklbnacfmpdac
open Go Go.RowKit Gs
set_option linter.unusedVariables false
set_option maxRecDepth 100000
/-- The level of a literal. -/
def lvl (vs : List Int) (l : Int) : Int := vs.getD (l / 2).toNat 0
def abv (vs : List Int) (x : AndG) : Int := 1 + max (lvl vs x.a) (lvl vs x.b)
def levsV : List Int → List AndG → List Int
  | vs, [] => vs
  | vs, a :: r => levsV (vs ++ [abv vs a]) r
theorem levsV_len : ∀ (xs : List AndG) (vs : List Int), (levsV vs xs).length = vs.length + xs.length
  | [], vs => rfl
  | a :: r, vs => by rw [levsV, levsV_len r]; simp; omega
theorem levsV_append : ∀ (xs ys : List AndG) (vs : List Int), levsV vs (xs ++ ys) = levsV (levsV vs xs) ys
  | [], _, _ => rfl
  | a :: r, ys, vs => by rw [List.cons_append, levsV, levsV, levsV_append r]
theorem levsV_step {xs : List AndG} {k : Nat} {x : AndG} (vs : List Int) (h : xs[k]? = some x) : levsV vs (xs.take (k + 1)) = levsV vs (xs.take k) ++ [abv (levsV vs (xs.take k)) x] := by
  rw [List.take_add_one, h, Option.toList_some, levsV_append]; rfl
/-- All levels lie from 0 to a bound. -/
def LBd (N : Int) (vs : List Int) : Prop := ∀ (i : Nat) y, vs[i]? = some y → 0 ≤ y ∧ y ≤ N
theorem LBd.lvl {N : Int} {vs : List Int} (h : LBd N vs) (hN : 0 ≤ N) (l : Int) : 0 ≤ lvl vs l ∧ lvl vs l ≤ N := by
  unfold Go.Proofs.Ytnoklbnacfmpdac.lvl
  rw [List.getD_eq_getElem?_getD]
  cases e : vs[(l / 2).toNat]? with
  | none => exact ⟨Int.le_refl _, hN⟩
  | some y => exact h _ _ e
theorem LBd.step {N : Int} {vs : List Int} (h : LBd N vs) (hN : 0 ≤ N) (x : AndG) : LBd (N + 1) (vs ++ [abv vs x]) := by
  intro i y hy
  have h1 := h.lvl hN x.a
  have h2 := h.lvl hN x.b
  by_cases hi : i < vs.length
  · rw [List.getElem?_append_left hi] at hy
    have := h i y hy
    omega
  · rw [List.getElem?_append_right (by omega)] at hy
    cases e : i - vs.length with
    | zero =>
      rw [e] at hy
      simp at hy
      subst hy
      unfold abv
      omega
    | succ j => rw [e] at hy; simp at hy
theorem LBd.levs : ∀ (xs : List AndG) (vs : List Int) (N : Int), LBd N vs → 0 ≤ N → LBd (N + xs.length) (levsV vs xs)
  | [], vs, N, h, hN => by rw [levsV]; simpa using h
  | a :: r, vs, N, h, hN => by
    have := LBd.levs r _ (N + 1) (h.step hN a) (by omega)
    rw [levsV]
    have e : N + 1 + (r.length : Int) = N + ((a :: r).length : Int) := by simp; omega
    rw [← e]
    exact this
def zerosV (n : Nat) : List Int := List.replicate n 0
theorem LBd.zeros (n : Nat) : LBd 0 (zerosV n) := by
  intro i y hy
  unfold zerosV at hy
  rw [List.getElem?_replicate] at hy
  split at hy
  · injection hy with hy; subst hy; exact ⟨Int.le_refl _, Int.le_refl _⟩
  · cases hy
def firstN (x : Aig) : Nat := 1 + x.ins.length + x.latches.length
def levA (x : Aig) : List Int := levsV (zerosV (firstN x)) x.ands
theorem levA_len (x : Aig) : (levA x).length = firstN x + x.ands.length := by
  unfold levA zerosV; rw [levsV_len, List.length_replicate]
def deepV (vs : List Int) (d : Int) (ls : List Int) : Int := ls.foldl (fun d l => max d (lvl vs l)) d
theorem deepV_step (vs : List Int) (d : Int) {ls : List Int} {k : Nat} {l : Int} (h : ls[k]? = some l) : deepV vs d (ls.take (k + 1)) = max (deepV vs d (ls.take k)) (lvl vs l) := by
  unfold deepV
  rw [List.take_add_one, h, Option.toList_some, List.foldl_append]; rfl
theorem deepV_app (vs : List Int) (d : Int) (xs ys : List Int) : deepV vs d (xs ++ ys) = deepV vs (deepV vs d xs) ys := by
  unfold deepV; rw [List.foldl_append]
theorem deepV_bd {N : Int} {vs : List Int} (h : LBd N vs) (hN : 0 ≤ N) : ∀ (ls : List Int) (d : Int), 0 ≤ d → d ≤ N → 0 ≤ deepV vs d ls ∧ deepV vs d ls ≤ N
  | [], d, h0, h1 => ⟨h0, h1⟩
  | l :: r, d, h0, h1 => by
    have := h.lvl hN l
    exact deepV_bd h hN r (max d (lvl vs l)) (by omega) (by omega)
def endsL (x : Aig) : List Int := x.outs.map (fun p : Pin => p.lit) ++ (x.checks.map (fun p : Pin => p.lit) ++ x.latches.map (fun l : Latch => l.next))
/-- What both answer. -/
def depthA (x : Aig) : Int := if aigI x then deepV (levA x) 0 (endsL x) else -1
def AO (FA : Nat) (xs : List AndG) : Prop := ∀ (i : Nat) x, xs[i]? = some x → 0 ≤ x.a ∧ x.a < 2 * ((FA + i : Nat) : Int) ∧ 0 ≤ x.b ∧ x.b < 2 * ((FA + i : Nat) : Int)
theorem litB_true {x : Int} {n : Nat} (h : litB x n = true) : 0 ≤ x ∧ x < 2 * (n : Int) := by
  unfold litB at h; simpa using h
theorem AO_of : ∀ (xs : List AndG) (f : Nat), andsB f xs = true → AO f xs := by
  intro xs f h i x hx
  have h1 : andsB f (xs.take (i + 1)) = true := by
    cases e : andsB f (xs.take (i + 1)) with
    | true => rfl
    | false => rw [andsB_mono xs f (i + 1) e] at h; cases h
  rw [andsB_take xs f i x hx, Bool.and_eq_true, Bool.and_eq_true] at h1
  obtain ⟨_, h2, h3⟩ := h1
  have h2 := litB_true h2
  have h3 := litB_true h3
  exact ⟨h2.1, h2.2, h3.1, h3.2⟩
/-- What is known of a graph that fits. -/
structure Fit (x : Aig) : Prop where
  ands : AO (firstN x) x.ands
  ends : ∀ l ∈ endsL x, 0 ≤ l ∧ l < 2 * ((firstN x + x.ands.length : Nat) : Int)
  cnt : x.ands.length ≤ 8192 ∧ x.ins.length + x.latches.length ≤ 2048 ∧ x.outs.length ≤ 2048 ∧ x.checks.length ≤ 2048
theorem Fit.of {x : Aig} (h : aigI x = true) : Fit x := by
  unfold aigI at h
  rw [Bool.and_eq_true, Bool.and_eq_true, Bool.and_eq_true] at h
  obtain ⟨⟨⟨h1, h2⟩, _⟩, _⟩ := h
  unfold litsB at h2
  rw [Bool.and_eq_true] at h2
  refine ⟨AO_of _ _ h2.1, fun l hl => ?_, ?_⟩
  · exact litB_true ((List.all_eq_true.1 h2.2) l hl)
  · unfold countsA countsN at h1
    simp only [Bool.and_eq_true, decide_eq_true_eq] at h1
    omega
end Go.Proofs.Ytnoklbnacfmpdac
