/- Boxes of vectors in memory: what lies in them stays behind a call that writes nothing that was there. -/
import Derived.Test.YtmbllgblbdfobaaI1
namespace Go.Proofs.Ytmbllgblbdfobaa
open Go.RowKit
/-- Block b holds a vector. -/
def VB (b n : Nat) (k h : BitVec 64) (W : World) : Prop := W.cell? ⟨b, 0, none⟩ = some (.int .i64 n) ∧ W.cell? ⟨b, 1, none⟩ = some (.int .u64 (U k)) ∧ W.cell? ⟨b, 2, none⟩ = some (.int .u64 (U h))
/-- Block b has three cells that may be written. -/
def RB (b : Nat) (W : World) : Prop := ∃ x y z, W.cell? ⟨b, 0, none⟩ = some x ∧ W.cell? ⟨b, 1, none⟩ = some y ∧ W.cell? ⟨b, 2, none⟩ = some z ∧ W.frozen? ⟨b, 0, none⟩ = false ∧ W.frozen? ⟨b, 1, none⟩ = false ∧ W.frozen? ⟨b, 2, none⟩ = false
theorem VB_later {b n : Nat} {k h : BitVec 64} {W w1 : World} (hb : Below W.heap.size W w1) (v : VB b n k h W) : VB b n k h w1 :=
  ⟨cell_later hb v.1, cell_later hb v.2.1, cell_later hb v.2.2⟩
theorem RB_later {b : Nat} {W w1 : World} (hb : Below W.heap.size W w1) (v : RB b W) : RB b w1 := by
  obtain ⟨x, y, z, c0, c1, c2, f0, f1, f2⟩ := v
  exact ⟨x, y, z, cell_later hb c0, cell_later hb c1, cell_later hb c2, frozen_later hb c0 f0, frozen_later hb c1 f1, frozen_later hb c2 f2⟩
theorem VB_alloc {b n : Nat} {k h : BitVec 64} {W : World} (v : VB b n k h W) (o : Obj) : VB b n k h (W.alloc o) := VB_later (bal (brf W) o) v
theorem RB_alloc {b : Nat} {W : World} (v : RB b W) (o : Obj) : RB b (W.alloc o) := RB_later (bal (brf W) o) v
theorem VB_new {n : Nat} {k h : BitVec 64} (W : World) : VB W.heap.size n k h (W.alloc (.cells #[.int .i64 n, .int .u64 (U k), .int .u64 (U h)] 60)) :=
  ⟨by rw [World.cell?_alloc_new]; rfl, by rw [World.cell?_alloc_new]; rfl, by rw [World.cell?_alloc_new]; rfl⟩
theorem RB_new (W : World) (x y z : Value) (t : TypeId) : RB W.heap.size (W.alloc (.cells #[x, y, z] t)) :=
  ⟨x, y, z, by rw [World.cell?_alloc_new]; rfl, by rw [World.cell?_alloc_new]; rfl, by rw [World.cell?_alloc_new]; rfl, by simp [go_sem], by simp [go_sem], by simp [go_sem]⟩
end Go.Proofs.Ytmbllgblbdfobaa
