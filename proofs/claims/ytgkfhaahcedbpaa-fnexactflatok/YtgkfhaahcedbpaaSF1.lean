/- The specification's FlatOK: what its leaves want. -/
import Derived.Test.YtgkfhaahcedbpaaP14
import Derived.Test.YtgkfhaahcedbpaaGSH1
namespace Go.Proofs.Ytgkfhaahcedbpaa
open Go Go.RowKit Gs
set_option linter.unusedVariables false
set_option linter.unusedSimpArgs false
set_option maxRecDepth 100000

theorem sigFB_facts {g : Signal} (h : sigFB g = true) : 1 ≤ g.kind ∧ g.kind ≤ 5 ∧ 1 ≤ g.name.size ∧ g.name.size ≤ 1000 ∧ (g.init.size : Int) = g.width ∧ Vb.okV (L g.init) = true ∧ (g.kind = 5 → 1 ≤ g.depth ∧ g.depth ≤ 64) ∧ (¬ g.kind = 5 → g.depth = 0) := by
  unfold sigFB depthB at h
  simp only [Bool.and_eq_true, decide_eq_true_eq] at h
  obtain ⟨⟨⟨a1, a2⟩, a3, a4⟩, ⟨⟨a5, a6⟩, a7, a8⟩, a9⟩ := h
  refine ⟨a1, a2, a3, a4, a7, a8, fun h5 => ?_, fun h5 => ?_⟩
  · rw [if_pos h5] at a9; simpa using a9
  · rw [if_neg h5] at a9; simpa using a9
theorem sigFB_bad {g : Signal} (h : ¬ sigFB g = true) : g.name.size < 1 ∨ 1000 < g.name.size ∨ g.kind < 1 ∨ 5 < g.kind ∨ Vb.okV (L g.init) = false ∨ ¬ (g.init.size : Int) = g.width ∨ (g.kind = 5 ∧ g.depth < 1) ∨ (g.kind = 5 ∧ 64 < g.depth) ∨ (¬ g.kind = 5 ∧ ¬ g.depth = 0) := by
  false_or_by_contra
  rename_i hc
  apply h
  simp only [not_or] at hc
  obtain ⟨c1, c2, c3, c4, c5, c6, c7, c8, c9⟩ := hc
  have c5' : Vb.okV (L g.init) = true := by cases h : Vb.okV (L g.init) <;> simp_all
  obtain ⟨o1, o2, _⟩ := (okV_iff _).1 c5'
  have c6' : (g.init.size : Int) = g.width := Decidable.not_not.1 c6
  unfold sigFB depthB
  simp only [Bool.and_eq_true, decide_eq_true_eq]
  refine ⟨⟨⟨by omega, by omega⟩, by omega, by omega⟩, ⟨⟨by omega, by omega⟩, c6', c5'⟩, ?_⟩
  split
  · rename_i h5
    simp only [Bool.and_eq_true, decide_eq_true_eq]
    omega
  · rename_i h5
    simp only [decide_eq_true_eq]
    omega
theorem toList_inj9 {a b : ByteArray} (h : a.toList = b.toList) : a = b := by
  rw [ByteArray.toList_eq, ByteArray.toList_eq] at h
  exact L_inj h
theorem nodup_step {xs : List ByteArray} {x : ByteArray} (h : xs.Nodup) (hx : x ∉ xs) : (xs ++ [x]).Nodup := by
  rw [List.nodup_append]
  refine ⟨h, by simp, fun a ha b hb => ?_⟩
  rw [List.mem_singleton.1 hb]
  intro e
  exact hx (e ▸ ha)
theorem notin_step {α : Type} {f : α → ByteArray} {xs : List α} {k : Nat} {x : α} {y : ByteArray} (h : y ∉ (xs.take k).map f) (hg : xs[k]? = some x) (hn : ¬ f x = y) : y ∉ (xs.take (k + 1)).map f := by
  rw [List.take_add_one, hg, List.map_append]
  intro hm
  rcases List.mem_append.1 hm with hm | hm
  · exact h hm
  · simp at hm; exact hn hm.symm
end Go.Proofs.Ytgkfhaahcedbpaa
