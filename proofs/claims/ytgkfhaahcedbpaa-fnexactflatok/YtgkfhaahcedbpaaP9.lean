/- Flat designs: when a statement is right, and how many it is. -/
import Derived.Test.YtgkfhaahcedbpaaP7
import Derived.Test.YtgkfhaahcedbpaaP8
namespace Go.Proofs.Ytgkfhaahcedbpaa
open Go Go.RowKit Gs
set_option linter.unusedVariables false
set_option linter.unusedSimpArgs false
set_option maxRecDepth 100000

def formS (sg : List Signal) (tg : Nat) (kind n low wide : Int) (kw : List Int) (nk : Nat) : Bool :=
  if kind = 2 ∨ kind = 3 then decide (nk = 0) && setB sg tg n low wide kw
  else if kind = 5 then (decide (0 ≤ n) && decide (n ≤ 1000000)) && plainB n low wide kw.length nk n 0 0
  else if kind = 4 then plainB n low wide kw.length nk 0 1 2
  else if kind = 7 then plainB n low wide kw.length nk 0 1 0
  else if kind = 6 then plainB n low wide kw.length nk 0 0 0
  else plainB n low wide kw.length nk 0 0 nk
def okSN (sg : List Signal) (kd tg : Nat) : Nat → Int → St → Bool
  | 0, _, _ => false
  | d + 1, deep, x => (decide (deep ≤ 400) && inSet kd x.kind) && (x.exs.all (okEN sg d (deep + 1)) && (x.kids.all (okSN sg kd tg d (deep + 1)) && formS sg tg x.kind x.n x.low x.wide (x.exs.map (·.width)) x.kids.length))
def cntSN : Nat → St → Nat
  | 0, _ => 0
  | d + 1, x => 1 + ((x.exs.map (cntEN d)).sum + (x.kids.map (cntSN d)).sum)
theorem sum_takeS {f : St → Nat} {xs : List St} {j : Nat} {x : St} (h : xs[j]? = some x) : ((xs.take (j + 1)).map f).sum = ((xs.take j).map f).sum + f x := by
  rw [List.take_add_one, h]; simp
theorem all_takeS {p : St → Bool} {xs : List St} {k : Nat} {x : St} (h : xs[k]? = some x) : (xs.take (k + 1)).all p = ((xs.take k).all p && p x) := by
  rw [List.take_add_one, h, List.all_append]; simp
theorem sum_leS {f : St → Nat} (xs : List St) (j : Nat) : ((xs.take j).map f).sum ≤ (xs.map f).sum := by
  have : (xs.map f).sum = ((xs.take j).map f).sum + ((xs.drop j).map f).sum := by rw [← List.sum_append, ← List.map_append, List.take_append_drop]
  omega
/-- What the program's st does, of statements as deep as d. -/
def StP (sg : List Signal) (kd tg : Nat) (w0 : World) (sv : Value) (T : TypeId) (d : Nat) : Prop := ∀ (x : St) (u : List Value) (deep : Int) (k : Nat) (W : World), RStN d w0 0 x u → 1 ≤ deep → deep ≤ 401 → k ≤ 16384 → Pl w0.heap.size sv T W k → Below w0.heap.size w0 W →
  Calls Try.prog 29 #[.pointer (some ⟨w0.heap.size, 0, none⟩), .agg u.toArray, .int .u64 kd, .int .u64 tg, .int .i64 deep] W fun e W' => ∃ (r : Bool) (k' : Int), e = .returned (.bool r) ∧ r = (okSN sg kd tg d deep x && decide (cntSN d x ≤ k)) ∧ (r = true → k' = (k : Int) - (cntSN d x : Nat)) ∧ Pl w0.heap.size sv T W' k' ∧ Fx w0.heap.size W W'
end Go.Proofs.Ytgkfhaahcedbpaa
