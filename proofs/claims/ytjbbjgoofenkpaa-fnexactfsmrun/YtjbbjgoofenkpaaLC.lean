/- A world behind one that boxed cells; knownVec. -/
import Derived.Test.YtjbbjgoofenkpaaM4
namespace Go.Proofs.Ytjbbjgoofenkpaa
open Go.RowKit Gs
set_option linter.unusedVariables false
set_option maxRecDepth 100000
/-- A world behind one that boxed some cells. -/
def Bt (t : TypeId) (w : World) (vs : Array Value) (W : World) : Prop := Below (w.alloc (.cells vs t)).heap.size (w.alloc (.cells vs t)) W
theorem Bt.get {t : TypeId} {w W : World} {vs : Array Value} (h : Bt t w vs W) {j : Nat} {y : Value} (hj : vs[j]? = some y) : W.cell? ⟨w.heap.size, j, none⟩ = some y :=
  cell_later h (by rw [World.cell?_alloc_new]; exact hj)
theorem Bt.below {t : TypeId} {w W : World} {vs : Array Value} (h : Bt t w vs W) : Below w.heap.size w W := btr (bal (brf w) _) h
theorem Bt.then {t : TypeId} {w W V : World} {vs : Array Value} (h : Bt t w vs W) (hb : Below W.heap.size W V) : Bt t w vs V := btr h hb
theorem Bt.alloc {t : TypeId} {w W : World} {vs : Array Value} (h : Bt t w vs W) (o : Obj) : Bt t w vs (W.alloc o) := bal h o
theorem Bt.drew {t : TypeId} {w W : World} {vs : Array Value} (h : Bt t w vs W) : Bt t w vs W.drew := bdr h
theorem Bt.refl (t : TypeId) (w : World) (vs : Array Value) : Bt t w vs (w.alloc (.cells vs t)) := brf _
theorem Bt.size {t : TypeId} {w W : World} {vs : Array Value} (h : Bt t w vs W) : w.heap.size < W.heap.size := by
  have := Below.size h
  have e : (w.alloc (.cells vs t)).heap.size = w.heap.size + 1 := by go_simp
  omega
theorem Bt.get6 {t : TypeId} {w W : World} {v0 v1 v2 v3 v4 v5 : Value} (h : Bt t w #[v0, v1, v2, v3, v4, v5] W) : W.cell? ⟨w.heap.size, 0, none⟩ = some v0 ∧ W.cell? ⟨w.heap.size, 1, none⟩ = some v1 ∧ W.cell? ⟨w.heap.size, 2, none⟩ = some v2 ∧ W.cell? ⟨w.heap.size, 3, none⟩ = some v3 ∧ W.cell? ⟨w.heap.size, 4, none⟩ = some v4 ∧ W.cell? ⟨w.heap.size, 5, none⟩ = some v5 :=
  ⟨h.get rfl, h.get rfl, h.get rfl, h.get rfl, h.get rfl, h.get rfl⟩
/-- A text that is a known vector. -/
def knownS (s : ByteArray) : Bool := Vb.okV (L s) && (Vb.kn (L s) == Vb.ones s.size)
theorem iKnown (s : ByteArray) (w : World) (hs : s.size ≤ maxLen) : Calls Try.prog 38 #[.string s] w fun e w' => (∃ n k h, e = .returned (.tuple #[V n k h, .bool (knownS s)]) ∧ (knownS s = true → n = s.size)) ∧ Below w.heap.size w w' := by
  cases h : Vb.okV (L s)
  · refine (iKnownVec_no s w hs h).mono ?_
    rintro e w' ⟨rfl, hb⟩
    exact ⟨⟨0, 0#64, 0#64, by simp [knownS, h], by simp [knownS, h]⟩, hb⟩
  · refine (iKnownVec s w hs h).mono ?_
    rintro e w' ⟨rfl, hb⟩
    exact ⟨⟨s.size, Vb.kn (L s), Vb.wh (L s), by simp [knownS, h], fun _ => rfl⟩, hb⟩
theorem Bt.get5 {t : TypeId} {w W : World} {v0 v1 v2 v3 v4 : Value} (h : Bt t w #[v0, v1, v2, v3, v4] W) : W.cell? ⟨w.heap.size, 0, none⟩ = some v0 ∧ W.cell? ⟨w.heap.size, 1, none⟩ = some v1 ∧ W.cell? ⟨w.heap.size, 2, none⟩ = some v2 ∧ W.cell? ⟨w.heap.size, 3, none⟩ = some v3 ∧ W.cell? ⟨w.heap.size, 4, none⟩ = some v4 :=
  ⟨h.get rfl, h.get rfl, h.get rfl, h.get rfl, h.get rfl⟩
end Go.Proofs.Ytjbbjgoofenkpaa
