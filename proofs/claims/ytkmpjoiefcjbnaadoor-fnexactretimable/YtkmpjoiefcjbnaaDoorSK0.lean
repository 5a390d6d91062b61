/- The specification's NetOK. -/
import Derived.Test.YtkmpjoiefcjbnaaDoorSC2
import Derived.Test.YtkmpjoiefcjbnaaDoorSN
import Derived.Test.YtkmpjoiefcjbnaaDoorNFA
import Derived.Test.YtkmpjoiefcjbnaaDoorPO
import Derived.Test.YtkmpjoiefcjbnaaDoorNO
namespace Go.Proofs.YtkmpjoiefcjbnaaDoor
open Go.RowKit Gs
set_option linter.unusedVariables false
set_option linter.unusedSimpArgs false
set_option maxRecDepth 100000
/-- What the specification asks of a register ahead of the cells. -/
def regS (n : Net) (r : NetReg) : Bool := Vb.okV (L r.init) && (L r.init).all Vb.knB && decide ((r.init.size : Int) = r.width) && (decide (0 ≤ r.clock) && decide (r.clock < (n.clocks.length : Int)))
def sCellAt (n : Net) (j : Nat) : Bool := match n.cells[j]? with
  | some c => sCellB n j c
  | none => false
def sCellsTo (n : Net) (k : Nat) : Bool := (List.range k).all (sCellAt n)
theorem sCellsTo_succ (n : Net) (k : Nat) : sCellsTo n (k + 1) = (sCellsTo n k && sCellAt n k) := by
  unfold sCellsTo; rw [List.range_succ, List.all_append]; simp
theorem sCellsTo_le {n : Net} {k m : Nat} (hkm : k < m) (h : sCellAt n k = false) : sCellsTo n m = false := by
  unfold sCellsTo
  rw [← Bool.not_eq_true]; intro e
  rw [List.all_eq_true.1 e k (List.mem_range.2 hkm)] at h; cases h
def insB (n : Net) : Bool := n.ins.all (fun p => wOK p.width)
def regsB (n : Net) : Bool := n.regs.all (regS n)
def nextsB (n : Net) : Bool := n.regs.all (nextB n)
def outsB (n : Net) : Bool := n.outs.all (outB n (fun _ => true))
def checksB (n : Net) : Bool := n.checks.all (outB n (fun x => x == 1))
def snamesB (n : Net) : Bool := namesB (n.clocks ++ n.ins.map (·.name)) && namesB (n.regs.map (·.name)) && namesB (n.outs.map (·.name)) && namesB (n.checks.map (·.name))
/-- What the specification's NetOK answers. -/
def sNetB (n : Net) : Bool := countsB n && insB n && regsB n && sCellsTo n n.cells.length && nextsB n && outsB n && checksB n && snamesB n
theorem OS_start {W : World} {B : Nat} (h : B ≤ W.heap.size) : OS B (W.alloc (.cells #[] 9)) (.slice (some ⟨W.heap.size, 0, none⟩) 0 0) [] :=
  ⟨⟨rfl, .inr ⟨W.heap.size, 0, #[], rfl, h, heap_alloc_new W _, Nat.le_refl _, Nat.zero_le _, rfl, rfl⟩⟩, fun _ h => by cases h⟩
theorem OS_start' {W : World} {B M : Nat} (hM : W.heap.size = M) (h : B ≤ M) : OS B (W.alloc (.cells #[] 9)) (.slice (some ⟨M, 0, none⟩) 0 0) [] := by
  subst hM; exact OS_start h
theorem bt_grown {w V : World} {vs : Array Value} {t : TypeId} {o : Obj} {row : Option Nat} (hB : w.heap.size + 1 ≤ ((w.alloc (.cells vs t)).alloc o).heap.size) (hg : ((w.alloc (.cells vs t)).alloc o).grownBy V row) (hr : ∀ j, row = some j → w.heap.size + 1 ≤ j) : Bt t w vs V := by
  have e : (w.alloc (.cells vs t)).heap.size = w.heap.size + 1 := by simp
  unfold Bt
  rw [e]
  have h1 : Below (w.heap.size + 1) (w.alloc (.cells vs t)) ((w.alloc (.cells vs t)).alloc o) := by rw [← e]; exact bal (brf _) o
  exact h1.grown hg hB hr
theorem bt_grown2 {w W V : World} {vs : Array Value} {t : TypeId} {o : Obj} {row : Option Nat} (h : Bt t w vs W) (hg : (W.alloc o).grownBy V row) (hr : ∀ j, row = some j → w.heap.size + 1 ≤ j) : Bt t w vs V := by
  have e : (w.alloc (.cells vs t)).heap.size = w.heap.size + 1 := by simp
  have h1 := h.alloc o
  unfold Bt at h1 ⊢
  rw [e] at h1 ⊢
  exact h1.grown hg (by have := Below.size h1; rw [e] at this; exact this) hr
theorem sz_a {W : World} {m : Nat} (h : m ≤ W.heap.size) (o : Obj) : m ≤ (W.alloc o).heap.size := by simp; omega
theorem reg_cell {W2 V : World} {A : Array Value} {t : TypeId} {o : Obj} {row : Option Nat} (hg : ((W2.alloc (.cells A t)).alloc o).grownBy V row) (hr : ∀ j, row = some j → j < W2.heap.size) {j : Nat} {y : Value} (hj : A[j]? = some y) : V.cell? ⟨W2.heap.size, j, none⟩ = some y :=
  hg.cell (cell_later (bal (brf _) o) (by rw [World.cell?_alloc_new]; exact hj)) (fun e => by have := hr _ e.symm; simp at this)
theorem own_lt {B : Nat} {v : Value} {m : Nat} {xs : List Value} {W : World} (h : W.ownsRow B 9 1 v m xs) : ∀ j, v.ownBlock = some j → j < W.heap.size := fun j hj => (h.lt j hj).2
theorem all_take {α : Type} {p : α → Bool} {xs : List α} {k : Nat} {x : α} (hx : xs[k]? = some x) : (xs.take (k + 1)).all p = ((xs.take k).all p && p x) := by
  rw [List.take_add_one, hx, List.all_append]; simp
theorem map_take {α β : Type} {f : α → β} {xs : List α} {k : Nat} {x : α} (hx : xs[k]? = some x) : (xs.take (k + 1)).map f = (xs.take k).map f ++ [f x] := by
  rw [List.take_add_one, hx, List.map_append]; rfl
end Go.Proofs.YtkmpjoiefcjbnaaDoor
