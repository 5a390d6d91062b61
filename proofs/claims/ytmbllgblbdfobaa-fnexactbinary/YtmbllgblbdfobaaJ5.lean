/- What the program's binaryOps and its closures answer. -/
import Derived.Test.YtmbllgblbdfobaaJ4
import Derived.Test.YtmbllgblbdfobaaJ2
import Derived.Test.YtmbllgblbdfobaaU5
namespace Go.Proofs.Ytmbllgblbdfobaa
open Go.RowKit
set_option linter.unusedVariables false
/-- The table of the binary operations: four of them hold the variable signed. -/
def bTab (b : Nat) : Array Value := #[.nilFunc, .func (.func 81) #[] #[], .func (.func 82) #[] #[], .func (.func 83) #[] #[], .func (.func 84) #[] #[], .func (.func 85) #[] #[], .func (.func 86) #[] #[], .func (.func 87) #[] #[.pointer (some ⟨b, 0, none⟩)], .func (.func 89) #[] #[.pointer (some ⟨b, 0, none⟩)], .func (.func 91) #[] #[], .func (.func 92) #[] #[], .func (.func 93) #[] #[], .func (.func 94) #[] #[.pointer (some ⟨b, 0, none⟩)], .func (.func 96) #[] #[.pointer (some ⟨b, 0, none⟩)], .func (.func 98) #[] #[], .func (.func 99) #[] #[], .func (.func 100) #[] #[], .func (.func 101) #[] #[], .func (.func 102) #[] #[]]
theorem bTab_one (b : Nat) : ((bTab b).all fun x => x.oneCell') = true := by unfold bTab; simp [Value.oneCell']
theorem there_new' {w : World} {cs : Array Value} {t : TypeId} {n M : Nat} (hM : w.heap.size = M) (h : cs.size = n) : (w.alloc (.cells cs t)).there M 0 n := by subst hM; exact there_new w cs t n h
theorem below_setCells' {w W : World} (b : Nat) (hb : w.heap.size ≤ b) (h : Below w.heap.size w W) (vs : List Value) : ∀ o, Below w.heap.size w (W.setCells b o vs) := by
  induction vs generalizing W with
  | nil => intro o; exact h
  | cons v t ih => intro o; exact ih (bst h hb v) (o + 1)
theorem cells_at1 (X : World) (v : Value) (t : TypeId) : (X.alloc (.cells #[v] t)).cell? ⟨X.heap.size, 0, none⟩ = some v := by rw [World.cell?_alloc_new]; rfl
theorem keep_setCells {B b : Nat} {W W' : World} (hb : B ≤ b) (h : ∀ k, k < B → W'.heap[k]? = W.heap[k]?) (vs : List Value) : ∀ o, ∀ k, k < B → (W'.setCells b o vs).heap[k]? = W.heap[k]? := by
  induction vs generalizing W' with
  | nil => intro o; exact h
  | cons v t ih => intro o; exact ih (fun k hk => (Below.heap_setCell _ _ _ _ (by show k ≠ b; omega)).trans (h k hk)) (o + 1)
set_option maxRecDepth 100000 in
set_option maxHeartbeats 400000 in
theorem iBinaryOps (sg : Bool) (w : World) :
    Calls Try.prog 53 #[.bool sg] w fun e w' => e = .returned (.agg (bTab w.heap.size)) ∧ w'.cell? ⟨w.heap.size, 0, none⟩ = some (.bool sg) ∧ Below w.heap.size w w' := by
  have hmf : ∀ (fn : Fn) (first cap : Array Value) (w : World), (Instr.makeFunc fn first cap).run Try.prog w = .ok (.func fn first cap) w := fun _ _ _ _ => rfl
  go_enter Try.func53, Try.ntmps53
  go_wp2_with (refine wpList_store_mid rfl 70 (.tmp 2) (.tmp 7) rfl (w.heap.size + 1) 0 (bTab w.heap.size) rfl rfl (there_new' (by simp) rfl) (by kernel_rfl) (bTab_one _) ?_)
  refine bodyPost_ret (v := .agg (bTab w.heap.size)) (results_row Try.results53 _ _ (w.heap.size + 1) (bTab w.heap.size).toList _ rfl (World.rangeAt_setCells_same _ _ _ _ (there_new' (by simp) rfl)) Try.underlying70 rfl (by kernel_rfl)) rfl ⟨rfl, ?_, ?_⟩
  · rw [World.cell?_of_block (keep_setCells (B := w.heap.size + 1) (Nat.le_refl _) (fun k _ => rfl) _ 0 w.heap.size (by omega))]
    exact cell_later (bal (brf _) _) (cells_at1 _ _ _)
  · exact below_setCells' _ (by omega) (bal (bal (brf w) _) _) _ _
end Go.Proofs.Ytmbllgblbdfobaa
