/- listOf: the names of things, in a slice of one's own. -/
import Derived.Test.YtdmmbhemmbgcpadGS2
import Derived.Test.YtdmmbhemmbgcpadDD
import Derived.OwnWalk
namespace Go.Proofs.Ytdmmbhemmbgcpad
open Go.RowKit Gs
set_option linter.unusedVariables false
set_option maxRecDepth 100000
/-- Strings in a row of one's own. -/
def OS (B : Nat) (W : World) (v : Value) (xs : List ByteArray) : Prop := W.ownsRow B 9 1 v xs.length (xs.map Value.string) ∧ ∀ s ∈ xs, s.size ≤ maxLen
theorem OS_nil (B : Nat) (W : World) : OS B W (.slice none 0 0) [] := ⟨World.ownsRow_nil _ _ _ _, fun _ h => by cases h⟩
theorem OS.later {B : Nat} {v : Value} {xs : List ByteArray} {W W' : World} (h : OS B W v xs) (hb : Below W.heap.size W W') : OS B W' v xs := by
  obtain ⟨⟨h1, h2 | ⟨g, cap, cur, hv, hg, hc, rest⟩⟩, h3⟩ := h
  · exact ⟨⟨h1, .inl h2⟩, h3⟩
  · exact ⟨⟨h1, .inr ⟨g, cap, cur, hv, hg, (hb.block g (Array.getElem?_eq_some_iff.1 hc).1).trans hc, rest⟩⟩, h3⟩
theorem OS.read {B : Nat} {v : Value} {xs : List ByteArray} {W : World} (h : OS B W v xs) (hl : xs.length ≤ maxLen) : RS 1 RStr W B xs v := by
  obtain ⟨hr, h3⟩ := h
  have hc := fun g hg => World.ownsRow.cells hr (g := g) hg
  rcases hr.2 with ⟨rfl, hn⟩ | ⟨g, cap, cur, rfl, hb, hg, hlc, hm, _⟩
  · have : xs = [] := List.length_eq_zero_iff.1 hn
    subst this
    exact RS.nil _ _ _ _ _ _
  · refine ⟨_, _, rfl, hlc, hl, fun _ => ⟨g, 0, rfl, hb, fun i x hx => ?_⟩⟩
    refine ⟨[.string x], rfl, fun j y hj => ?_, rfl, h3 x (List.mem_of_getElem? hx)⟩
    have hj0 : j = 0 := by
      cases j with
      | zero => rfl
      | succ j => simp at hj
    subst hj0
    simp at hj
    subst hj
    have := hc g rfl i (.string x) (by rw [List.getElem?_map, hx]; rfl)
    rw [Addr.add_lit] at this
    simpa using this
theorem OS.step {B : Nat} {v : Value} {xs : List ByteArray} {W : World} {s : ByteArray} (h : W.ownsRow B 9 1 v (xs.length + 1) (xs.map Value.string ++ [.string s])) (h3 : ∀ s ∈ xs, s.size ≤ maxLen) (hs : s.size ≤ maxLen) : OS B W v (xs ++ [s]) := by
  refine ⟨?_, fun t ht => ?_⟩
  · rw [List.length_append, List.map_append]; exact h
  · rcases List.mem_append.1 ht with h | h
    · exact h3 t h
    · simp at h; subst h; exact hs
theorem info9 : (Try.prog.info? 9).map (fun i => (i.zero, i.size, i.bytes)) = some (some (.string ByteArray.empty), 1, 16) := by kernel_rfl
theorem newS (W : World) (s : ByteArray) (g : Nat) (hg : g = W.heap.size) : ∀ j u, [Value.string s][j]? = some u → (W.alloc (.cells #[.string s] 9)).cell? ((⟨g, 0, none⟩ : Addr).add j) = some u := by
  intro j u h
  subst hg
  match j, h with
  | 0, h => simp at h; subst h; simp [Addr.add]
  | j + 1, h => simp at h
theorem oneS (s : ByteArray) : ∀ u ∈ [Value.string s], u.oneCell' = true := by
  intro u hu; simp at hu; subst hu; rfl
theorem below_grown {B : Nat} {w W V : World} {row : Option Nat} (h : Below B w W) (hg : W.grownBy V row) (hB : B ≤ W.heap.size) (hr : ∀ j, row = some j → B ≤ j) : Below B w V := h.grown hg hB hr
theorem own_row {B : Nat} {v : Value} {n : Nat} {xs : List Value} {W : World} (h : W.ownsRow B 9 1 v n xs) : ∀ j, v.ownBlock = some j → B ≤ j := fun j hj => (h.lt j hj).1
end Go.Proofs.Ytdmmbhemmbgcpad
