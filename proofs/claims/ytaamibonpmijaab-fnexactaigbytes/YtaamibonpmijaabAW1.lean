/- The program's byte writer: what it keeps, and what it has written. -/
import Derived.Test.YtaamibonpmijaabAB2
import Derived.Laws.Rows
import Derived.Test.YtaamibonpmijaabAK0
namespace Go.Proofs.Ytaamibonpmijaab
open Go Go.RowKit Gs
set_option linter.unusedVariables false
set_option linter.unusedSimpArgs false
set_option maxRecDepth 100000
/-- The writer in the block bw has written xs. -/
def ST (w0 : World) (bw : Nat) (W : World) (xs : List UInt8) : Prop := Below w0.heap.size w0 W ∧ w0.heap.size ≤ bw ∧ ∃ v, W.heap[bw]? = some (.cells #[v] 62 (0, 0)) ∧ OB w0.heap.size W v xs
theorem ST.alloc {w0 : World} {bw : Nat} {W : World} {xs : List UInt8} (h : ST w0 bw W xs) (o : Obj) : ST w0 bw (W.alloc o) xs := by
  obtain ⟨h1, h2, v, h3, h4⟩ := h
  exact ⟨bal h1 o, h2, v, by rw [Below.heap_alloc W o bw (Array.getElem?_eq_some_iff.1 h3).1]; exact h3, h4.alloc o⟩
theorem ST.later {w0 : World} {bw : Nat} {W V : World} {xs : List UInt8} (h : ST w0 bw W xs) (hb : Below W.heap.size W V) : ST w0 bw V xs := by
  obtain ⟨h1, h2, v, h3, h4⟩ := h
  exact ⟨btr h1 hb, h2, v, (hb.block bw (Array.getElem?_eq_some_iff.1 h3).1).trans h3, h4.later hb⟩
theorem ST_mid {w0 : World} {bw : Nat} {W W1 W2 : World} {xs ys : List UInt8} {v v' : Value} (hb : Below w0.heap.size w0 W) (hw : w0.heap.size ≤ bw) (hc : W.heap[bw]? = some (.cells #[v] 62 (0, 0))) (ho : OB w0.heap.size W v xs) (h1 : Below W.heap.size W W1) (hg : W1.grownBy W2 v.ownBlock) (ho2 : OB w0.heap.size W2 v' (xs ++ ys)) :
    (W2.cell? ⟨bw, 0, none⟩ = some v ∧ W2.frozen? ⟨bw, 0, none⟩ = false) ∧ ST w0 bw (W2.setCell ⟨bw, 0, none⟩ v') (xs ++ ys) ∧ KP [bw] W (W2.setCell ⟨bw, 0, none⟩ v') := by
  have hbw : bw < W.heap.size := (Array.getElem?_eq_some_iff.1 hc).1
  have hold : ∀ (b : Nat) o, W.heap[b]? = some o → notB o → W2.heap[b]? = some o := fun b o hbo hn => by
    have hlt : b < W.heap.size := (Array.getElem?_eq_some_iff.1 hbo).1
    rw [hg.block b (Nat.lt_of_lt_of_le hlt h1.size) (own_not ho hbo hn), h1.block b hlt]
    exact hbo
  have hc2 := hold bw _ hc (notB_cells (by decide))
  have hB2 : Below w0.heap.size w0 W2 := below_grown (btr hb h1) hg (btr hb h1).size ho.row
  refine ⟨⟨cell_of hc2 rfl, froz_of hc2⟩, ⟨hB2.setCell hw v', hw, v', ?_, ?_⟩, ⟨?_, fun b o hbo hn hbs => ?_⟩⟩
  · have := heap_setCell_same W2 bw 0 #[v] 62 v' hc2
    simpa using this
  · obtain ⟨e1, e2 | ⟨g, cap, cur, hv, hg', hcc, rest⟩⟩ := ho2
    · exact ⟨e1, .inl e2⟩
    · refine ⟨e1, .inr ⟨g, cap, cur, hv, hg', ?_, rest⟩⟩
      rw [Below.heap_setCell W2 ⟨bw, 0, none⟩ v' g (fun e => by
        have e' : g = bw := e
        subst e'
        rw [hc2] at hcc
        injection hcc with hcc
        injection hcc with _ hcc _
        cases hcc)]
      exact hcc
  · have := hg.size
    have := h1.size
    simp
    omega
  · rw [Below.heap_setCell W2 ⟨bw, 0, none⟩ v' b (fun e => hbs (by have e' : b = bw := e; rw [e']; exact List.mem_singleton.2 rfl))]
    exact hold b o hbo hn
end Go.Proofs.Ytaamibonpmijaab
