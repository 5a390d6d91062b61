/- What may be written, and what writing that keeps each cell's kind leaves. -/
import Derived.Test.YtgkfhaahcedbpaaGGS2
namespace Go.Proofs.Ytgkfhaahcedbpaa
open Go Go.RowKit Gs
set_option linter.unusedVariables false
set_option linter.unusedSimpArgs false
/-- No cell from the block B on is frozen. -/
def NF (B : Nat) (W : World) : Prop := ∀ b o x, B ≤ b → W.cell? ⟨b, o, none⟩ = some x → W.frozen? ⟨b, o, none⟩ = false
theorem nf_rf (w : World) : NF w.heap.size w := fun b o x hb h => by
  have := World.block_lt_of_cell? w _ h
  simp at this
  omega
theorem nf_al {B : Nat} {W : World} (h : NF B W) (c : Array Value) (t : TypeId) : NF B (W.alloc (.cells c t)) := fun b o x hb hx => by
  by_cases e : b < W.heap.size
  · have hh : (W.alloc (.cells c t)).heap[b]? = W.heap[b]? := Below.heap_alloc W _ b e
    rw [World.cell?_of_block (a := ⟨b, o, none⟩) hh] at hx
    rw [World.frozen?_of_block (a := ⟨b, o, none⟩) hh]
    exact h b o x hb hx
  · have hlt := World.block_lt_of_cell? _ _ hx
    simp at hlt
    obtain rfl : b = W.heap.size := by omega
    simp
theorem cell_of_set {W : World} {a : Addr} {v : Value} {b o : Nat} {x : Value} (h : (W.setCell a v).cell? ⟨b, o, none⟩ = some x) : ∃ y, W.cell? ⟨b, o, none⟩ = some y := by
  cases hc : W.cell? ⟨b, o, none⟩ with
  | some y => exact ⟨y, rfl⟩
  | none =>
    exfalso
    by_cases e : a = ⟨b, o, none⟩
    · subst e
      simp only [World.setCell, World.cell?, Array.getElem?_modify, ↓reduceIte] at h hc
      cases hh : W.heap[b]? with
      | none => simp [hh] at h
      | some q =>
        cases q <;> simp [hh] at h hc
        rw [Array.getElem?_eq_none (by simp; omega)] at h
        cases h
    · rw [World.cell?_setCell_other (w := W) (a := a) (b := ⟨b, o, none⟩) (v := v) e, hc] at h
      cases h
theorem nf_set {B : Nat} {W : World} (h : NF B W) (a : Addr) (v : Value) : NF B (W.setCell a v) := fun b o x hb hx => by
  obtain ⟨y, hy⟩ := cell_of_set hx
  rw [World.frozen?_setCell]
  exact h b o y hb hy
theorem nf_tr {B : Nat} {W V : World} (h : NF B W) (hb : Below W.heap.size W V) (k : NF W.heap.size V) : NF B V := fun b o x hB hx => by
  by_cases e : b < W.heap.size
  · have hh : V.heap[b]? = W.heap[b]? := hb.block b e
    rw [World.cell?_of_block (a := ⟨b, o, none⟩) hh] at hx
    rw [World.frozen?_of_block (a := ⟨b, o, none⟩) hh]
    exact h b o x hB hx
  · exact k b o x (by omega) hx
theorem nf_setK {B : Nat} : ∀ (vs : List Value) {W : World} {g o : Nat}, NF B W → NF B (setK W g o vs)
  | [], _, _, _, h => h
  | v :: vs, W, g, o, h => by
    rw [setK]
    exact nf_setK vs (nf_set h _ v)
/-- Values of one kind. -/
def SK (x y : Value) : Prop := x = y ∨ (∃ k a b, x = .int k a ∧ y = .int k b) ∨ (∃ a b, x = .bool a ∧ y = .bool b) ∨ (∃ a b, x = .string a ∧ y = .string b)
theorem SK.refl (x : Value) : SK x x := .inl rfl
theorem SK.trans {x y z : Value} (h : SK x y) (k : SK y z) : SK x z := by
  rcases h with rfl | ⟨q, a, b, rfl, rfl⟩ | ⟨a, b, rfl, rfl⟩ | ⟨a, b, rfl, rfl⟩
  · exact k
  · rcases k with rfl | ⟨q', a', b', e, rfl⟩ | ⟨a', b', e, rfl⟩ | ⟨a', b', e, rfl⟩
    · exact .inr (.inl ⟨_, _, _, rfl, rfl⟩)
    · cases e; exact .inr (.inl ⟨_, _, _, rfl, rfl⟩)
    · cases e
    · cases e
  · rcases k with rfl | ⟨q', a', b', e, rfl⟩ | ⟨a', b', e, rfl⟩ | ⟨a', b', e, rfl⟩
    · exact .inr (.inr (.inl ⟨_, _, rfl, rfl⟩))
    · cases e
    · cases e; exact .inr (.inr (.inl ⟨_, _, rfl, rfl⟩))
    · cases e
  · rcases k with rfl | ⟨q', a', b', e, rfl⟩ | ⟨a', b', e, rfl⟩ | ⟨a', b', e, rfl⟩
    · exact .inr (.inr (.inr ⟨_, _, rfl, rfl⟩))
    · cases e
    · cases e
    · cases e; exact .inr (.inr (.inr ⟨_, _, rfl, rfl⟩))
theorem SK.slice {a : Option Addr} {l c : Nat} {y : Value} (h : SK (.slice a l c) y) : y = .slice a l c := by
  rcases h with rfl | ⟨q, a, b, e, rfl⟩ | ⟨a, b, e, rfl⟩ | ⟨a, b, e, rfl⟩
  · rfl
  all_goals cases e
theorem SK.int {k : IntKind} {z : Int} {y : Value} (h : SK (.int k z) y) : ∃ b, y = .int k b := by
  rcases h with rfl | ⟨q, a, b, e, rfl⟩ | ⟨a, b, e, rfl⟩ | ⟨a, b, e, rfl⟩
  · exact ⟨_, rfl⟩
  · cases e; exact ⟨_, rfl⟩
  all_goals cases e
theorem SK.bool {z : Bool} {y : Value} (h : SK (.bool z) y) : ∃ b, y = .bool b := by
  rcases h with rfl | ⟨q, a, b, e, rfl⟩ | ⟨a, b, e, rfl⟩ | ⟨a, b, e, rfl⟩
  · exact ⟨_, rfl⟩
  · cases e
  · cases e; exact ⟨_, rfl⟩
  · cases e
theorem SK.string {z : ByteArray} {y : Value} (h : SK (.string z) y) : ∃ b, y = .string b := by
  rcases h with rfl | ⟨q, a, b, e, rfl⟩ | ⟨a, b, e, rfl⟩ | ⟨a, b, e, rfl⟩
  · exact ⟨_, rfl⟩
  · cases e
  · cases e
  · cases e; exact ⟨_, rfl⟩
theorem SK.ints (k : IntKind) (a b : Int) : SK (.int k a) (.int k b) := .inr (.inl ⟨_, _, _, rfl, rfl⟩)
theorem SK.bools (a b : Bool) : SK (.bool a) (.bool b) := .inr (.inr (.inl ⟨_, _, rfl, rfl⟩))
theorem SK.strings (a b : ByteArray) : SK (.string a) (.string b) := .inr (.inr (.inr ⟨_, _, rfl, rfl⟩))
/-- Only blocks from B up to E were written, each cell with a value of its kind. -/
structure MK (B E : Nat) (W V : World) : Prop where
  os : V.os = W.os
  tape : V.tape = W.tape
  output : V.output = W.output
  size : W.heap.size ≤ V.heap.size
  block : ∀ k, k < W.heap.size → (k < B ∨ E ≤ k) → V.heap[k]? = W.heap[k]?
  kind : ∀ b o x, W.cell? ⟨b, o, none⟩ = some x → ∃ y, V.cell? ⟨b, o, none⟩ = some y ∧ SK x y
  froz : ∀ b o x, W.cell? ⟨b, o, none⟩ = some x → V.frozen? ⟨b, o, none⟩ = W.frozen? ⟨b, o, none⟩
theorem MK.refl (B E : Nat) (W : World) : MK B E W W := ⟨rfl, rfl, rfl, Nat.le_refl _, fun _ _ _ => rfl, fun _ _ x h => ⟨x, h, .refl _⟩, fun _ _ _ _ => rfl⟩
theorem MK.trans {B E : Nat} {X Y Z : World} (h : MK B E X Y) (k : MK B E Y Z) : MK B E X Z :=
  ⟨k.os.trans h.os, k.tape.trans h.tape, k.output.trans h.output, Nat.le_trans h.size k.size, fun i hi ho => (k.block i (Nat.lt_of_lt_of_le hi h.size) ho).trans (h.block i hi ho),
   fun b o x hx => by
    obtain ⟨y, hy, s1⟩ := h.kind b o x hx
    obtain ⟨z, hz, s2⟩ := k.kind b o y hy
    exact ⟨z, hz, s1.trans s2⟩,
   fun b o x hx => by
    obtain ⟨y, hy, s1⟩ := h.kind b o x hx
    exact (k.froz b o y hy).trans (h.froz b o x hx)⟩
theorem MK.later {B E : Nat} {X W V : World} (h : MK B E X W) (hb : Below W.heap.size W V) : MK B E X V :=
  h.trans ⟨hb.os, hb.tape, hb.output, hb.size, fun k hk _ => hb.block k hk, fun b o x hx => ⟨x, cell_later hb hx, .refl _⟩, fun b o x hx => World.frozen?_of_block (hb.block _ (World.block_lt_of_cell? W _ hx))⟩
theorem MK.set {B E : Nat} {X W : World} {b o : Nat} {x : Value} (h : MK B E X W) (hc : W.cell? ⟨b, o, none⟩ = some x) (y : Value) (hs : SK x y) (h1 : B ≤ b) (h2 : b < E) : MK B E X (W.setCell ⟨b, o, none⟩ y) :=
  h.trans ⟨rfl, rfl, rfl, by simp, fun k hk hk2 => Below.heap_setCell _ _ _ _ (by simp; omega),
    fun b' o' x' hx' => by
      by_cases e : (⟨b, o, none⟩ : Addr) = ⟨b', o', none⟩
      · injection e with e1 e2
        subst e1 e2
        rw [hc] at hx'
        cases hx'
        exact ⟨y, World.cell?_setCell_same (w := W) (a := ⟨b, o, none⟩) (v := y) hc, hs⟩
      · exact ⟨x', by rw [World.cell?_setCell_other (w := W) (a := ⟨b, o, none⟩) (b := ⟨b', o', none⟩) (v := y) e]; exact hx', .refl _⟩,
    fun b' o' x' hx' => World.frozen?_setCell ..⟩
/-- A slice of l elements of k cells each, in blocks from B up to E. -/
def KS (k : Nat) (R : World → Nat → Nat → List Value → Prop) (W : World) (B E l : Nat) (v : Value) : Prop :=
  ∃ a c, v = .slice a l c ∧ (l ≠ 0 → ∃ b o, a = some ⟨b, o, none⟩ ∧ B ≤ b ∧ b < E ∧ ∀ i, i < l → ∃ u, u.length = k ∧ At W b (o + i * k) u ∧ R W B E u)
/-- What one may do with a cell in a later world. -/
theorem MK.cell {B E : Nat} {W V : World} (h : MK B E W V) (hn : NF B W) {b o : Nat} {x : Value} (hx : W.cell? ⟨b, o, none⟩ = some x) (hb : B ≤ b) : ∃ y, V.cell? ⟨b, o, none⟩ = some y ∧ SK x y ∧ V.frozen? ⟨b, o, none⟩ = false := by
  obtain ⟨y, hy, hs⟩ := h.kind b o x hx
  exact ⟨y, hy, hs, (h.froz b o x hx).trans (hn b o x hb hx)⟩
end Go.Proofs.Ytgkfhaahcedbpaa
