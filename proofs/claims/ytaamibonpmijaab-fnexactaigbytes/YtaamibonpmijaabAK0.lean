/- What stays where rows of bytes are written. -/
import Derived.Test.YtaamibonpmijaabAB1
import Derived.Test.YtaamibonpmijaabLO
import Derived.Test.YtaamibonpmijaabSS1
import Derived.Laws.Rows
namespace Go.Proofs.Ytaamibonpmijaab
open Go Go.RowKit Gs
set_option linter.unusedVariables false
set_option linter.unusedSimpArgs false
set_option maxRecDepth 100000
/-- No row of bytes. -/
def notB (o : Obj) : Prop := ∀ cs fz, o ≠ .cells cs 5 fz
theorem notB_cells {cs : Array Value} {t : TypeId} {fz : Nat × Nat} (h : t ≠ 5) : notB (.cells cs t fz) := fun _ _ e => by injection e with _ e _; exact h e
/-- All but rows of bytes, and some blocks, stays. -/
structure KP (S : List Nat) (W W' : World) : Prop where
  size : W.heap.size ≤ W'.heap.size
  keep : ∀ (b : Nat) o, W.heap[b]? = some o → notB o → b ∉ S → W'.heap[b]? = some o
theorem KP.refl (S : List Nat) (W : World) : KP S W W := ⟨Nat.le_refl _, fun _ _ h _ _ => h⟩
theorem KP.trans {S : List Nat} {A B C : World} (h : KP S A B) (k : KP S B C) : KP S A C := ⟨Nat.le_trans h.size k.size, fun b o ho hn hs => k.keep b o (h.keep b o ho hn hs) hn hs⟩
theorem KP.wide {S S' : List Nat} {A B : World} (h : KP S A B) (hs : ∀ b ∈ S, b ∈ S') : KP S' A B := ⟨h.size, fun b o ho hn hb => h.keep b o ho hn (fun e => hb (hs b e))⟩
theorem KP.alloc {S : List Nat} {A B : World} (h : KP S A B) (o : Obj) : KP S A (B.alloc o) :=
  ⟨Nat.le_trans h.size (by simp), fun b o' ho hn hs => by
    have hk := h.keep b o' ho hn hs
    rw [Below.heap_alloc B o b (Array.getElem?_eq_some_iff.1 hk).1]
    exact hk⟩
theorem KP.of_below {S : List Nat} {A B : World} (h : Below A.heap.size A B) : KP S A B := ⟨h.size, fun b o ho _ _ => (h.block b (Array.getElem?_eq_some_iff.1 ho).1).trans ho⟩
theorem KP.drew {S : List Nat} {A B : World} (h : KP S A B) (n : Nat) : KP S A (B.drewN n) := h.trans (KP.of_below (bdn' (brf B)))
theorem KP.set {S : List Nat} {A B : World} (h : KP S A B) {b : Nat} (hb : b ∈ S) (o : Nat) (v : Value) : KP S A (B.setCell ⟨b, o, none⟩ v) :=
  ⟨Nat.le_trans h.size (by simp), fun k o' ho hn hs => by
    rw [Below.heap_setCell B ⟨b, o, none⟩ v k (fun e => hs (by rw [e]; exact hb))]
    exact h.keep k o' ho hn hs⟩
theorem cell_of {W : World} {b o : Nat} {cs : Array Value} {t : TypeId} {fz : Nat × Nat} {y : Value} (h : W.heap[b]? = some (.cells cs t fz)) (hy : cs[o]? = some y) : W.cell? ⟨b, o, none⟩ = some y := by
  simp [World.cell?, h, hy]
theorem froz_of {W : World} {b o : Nat} {cs : Array Value} {t : TypeId} (h : W.heap[b]? = some (.cells cs t (0, 0))) : W.frozen? ⟨b, o, none⟩ = false := by
  simp [World.frozen?, h]
/-- What is written lies in no other block. -/
theorem own_not {B : Nat} {W : World} {v : Value} {xs : List UInt8} (h : OB B W v xs) {b : Nat} {o : Obj} (hb : W.heap[b]? = some o) (hn : notB o) : some b ≠ v.ownBlock := by
  intro e
  rcases h.2 with ⟨rfl, _⟩ | ⟨g, cap, cur, rfl, _, hg, _⟩
  · cases e
  · simp [Value.ownBlock] at e
    subst e
    rw [hg] at hb
    injection hb with hb
    exact hn cur (0, 0) hb.symm
theorem KP.grown {S : List Nat} {A W W2 : World} {B : Nat} {v : Value} {xs : List UInt8} (h : KP S A W) (ho : OB B W v xs) (hg : W.grownBy W2 v.ownBlock) : KP S A W2 :=
  ⟨Nat.le_trans h.size hg.size, fun b o hb hn hs => by
    have hk := h.keep b o hb hn hs
    rw [hg.block b (Array.getElem?_eq_some_iff.1 hk).1 (own_not ho hk hn)]
    exact hk⟩
end Go.Proofs.Ytaamibonpmijaab
