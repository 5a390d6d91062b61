/- The specification's Tseitin. -/
import Derived.Test.YtnoklbnacfmpdacT2
import Derived.Test.YtnoklbnacfmpdacLW
namespace Go.Proofs.Ytnoklbnacfmpdac
open Go Go.RowKit Gs
set_option linter.unusedVariables false
set_option linter.unusedSimpArgs false
set_option maxRecDepth 100000
theorem info51 : (Try.prog.info? 51).map (fun i => (i.zero, i.size, i.bytes)) = some (some (.slice none 0 0), 1, 24) := by kernel_rfl
theorem RI_one (W : World) (x : List Int) : RI (W.alloc (.cells (iC x) 3)) W.heap.size (W.heap.size + 1) [x] [.slice (some ⟨W.heap.size, 0, none⟩) x.length x.length] :=
  ⟨W.heap.size, rfl, Nat.le_refl _, heap_new W _, Nat.le_refl _⟩
theorem CP_start (W : World) (x : List Int) {B : Nat} (hB : B ≤ W.heap.size) : CP B (W.heap.size + 1) ((W.alloc (.cells (iC x) 3)).alloc (.cells #[.slice (some ⟨W.heap.size, 0, none⟩) x.length x.length] 51)) (.slice (some ⟨W.heap.size + 1, 0, none⟩) 1 1) [x] := by
  refine ⟨by simp, [.slice (some ⟨W.heap.size, 0, none⟩) x.length x.length], ⟨rfl, .inr ⟨W.heap.size + 1, 1, #[.slice (some ⟨W.heap.size, 0, none⟩) x.length x.length], rfl, by omega, ?_, Nat.le_refl _, by decide, rfl, rfl⟩⟩, ?_⟩
  · have := heap_new (W.alloc (.cells (iC x) 3)) (.cells #[.slice (some ⟨W.heap.size, 0, none⟩) x.length x.length] 51)
    rw [World.size_alloc] at this
    exact this
  · exact RI.low _ _ hB (RI.later (RI_one W x) (bal (brf _) _))
theorem sl3_one (h : Nat) : ∀ u ∈ sl3 h, u.oneCell' = true := by
  intro u hu; unfold sl3 at hu; simp at hu; rcases hu with rfl | rfl | rfl <;> rfl
theorem sl3_at (w : World) (n a b : Int) (h : Nat) (hh : h = w.heap.size + 1 + 1 + 1) : ∀ j u, (sl3 w.heap.size)[j]? = some u → ((wl3 w n a b).alloc (.cells (sl3 w.heap.size).toArray 51)).cell? ((⟨h, 0, none⟩ : Addr).add j) = some u := by
  intro j u hj
  subst hh
  rw [Addr.add_lit, ← wl3_size w n a b, Nat.zero_add, World.cell?_alloc_new]
  simpa using hj
theorem one_at (w : World) (v : Value) (h : Nat) (hh : h = w.heap.size) : ∀ j u, [v][j]? = some u → (w.alloc (.cells #[v] 51)).cell? ((⟨h, 0, none⟩ : Addr).add j) = some u := by
  intro j u hj
  subst hh
  rw [Addr.add_lit, Nat.zero_add, World.cell?_alloc_new]
  simpa using hj
/-- One and's clauses behind the others. -/
theorem CP.and {B E : Nat} {v v' : Value} {xs : List (List Int)} {vs : List Value} {W V w2 : World} {n a b : Int} (h0 : E ≤ W.heap.size) (hB : B ≤ W.heap.size) (hown : W.ownsRow B 51 1 v xs.length vs) (hri : RI W B E xs vs) (hV : V = (wl3 W n a b).alloc (.cells (sl3 W.heap.size).toArray 51)) (hown' : w2.ownsRow B 51 1 v' (xs.length + 3) (vs ++ sl3 W.heap.size)) (hg : V.grownBy w2 v.ownBlock) : CP B (W.heap.size + 1 + 1 + 1) w2 v' (xs ++ andC n a b) := by
  have hb : Below W.heap.size W V := by rw [hV]; exact bal (wl3_below W n a b) _
  refine CP.app (W := V) (vs := vs) (ws := sl3 W.heap.size) (RI.up _ _ h0 (RI.later hri hb)) hb.size ?_ (by rw [hV, World.size_alloc, wl3_size]; omega) (ownsRow_keep hown (fun g o _ hc => (hb.block g (Array.getElem?_eq_some_iff.1 hc).1).trans hc)) (by exact hown') hg
  have := RI.later (wl3_RI W n a b) (bal (brf (wl3 W n a b)) (.cells (sl3 W.heap.size).toArray 51))
  rw [hV]
  exact this
theorem CP.one {B E : Nat} {v v' : Value} {xs : List (List Int)} {x : List Int} {vs : List Value} {W V w2 : World} (h0 : E ≤ W.heap.size) (hB : B ≤ W.heap.size) (hown : W.ownsRow B 51 1 v xs.length vs) (hri : RI W B E xs vs) (hV : V = (W.alloc (.cells (iC x) 3)).alloc (.cells #[.slice (some ⟨W.heap.size, 0, none⟩) x.length x.length] 51)) (hown' : w2.ownsRow B 51 1 v' (xs.length + 1) (vs ++ [.slice (some ⟨W.heap.size, 0, none⟩) x.length x.length])) (hg : V.grownBy w2 v.ownBlock) : CP B (W.heap.size + 1) w2 v' (xs ++ [x]) := by
  have hb : Below W.heap.size W V := by rw [hV]; exact bal (bal (brf W) _) _
  refine CP.app (W := V) (vs := vs) (ws := [.slice (some ⟨W.heap.size, 0, none⟩) x.length x.length]) (RI.up _ _ h0 (RI.later hri hb)) hb.size ?_ (by rw [hV]; simp) (ownsRow_keep hown (fun g o _ hc => (hb.block g (Array.getElem?_eq_some_iff.1 hc).1).trans hc)) (by exact hown') hg
  rw [hV]
  exact RI.later (RI_one W x) (bal (brf _) _)
end Go.Proofs.Ytnoklbnacfmpdac
