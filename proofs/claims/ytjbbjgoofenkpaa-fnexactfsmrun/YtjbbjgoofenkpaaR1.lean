/- Strings in a row of one's own. -/
import Derived.Test.YtjbbjgoofenkpaaGS2
import Derived.OwnWalk
namespace Go.Proofs.Ytjbbjgoofenkpaa
open Go.RowKit Gs
set_option linter.unusedVariables false
set_option maxRecDepth 100000
def OT (B : Nat) (W : World) (v : Value) (xs : List ByteArray) : Prop := W.ownsRow B 9 1 v xs.length (xs.map fun x => Value.string x) ∧ ∀ x ∈ xs, x.size ≤ maxLen
theorem OT_nil (B : Nat) (W : World) : OT B W (.slice none 0 0) [] := ⟨World.ownsRow_nil _ _ _ _, fun x h => by cases h⟩
theorem OT.later {B : Nat} {v : Value} {xs : List ByteArray} {W W' : World} (h : OT B W v xs) (hb : Below W.heap.size W W') : OT B W' v xs := by
  obtain ⟨⟨h1, h2 | ⟨g, cap, cur, hv, hg, hc, rest⟩⟩, h3⟩ := h
  · exact ⟨⟨h1, .inl h2⟩, h3⟩
  · exact ⟨⟨h1, .inr ⟨g, cap, cur, hv, hg, (hb.block g (Array.getElem?_eq_some_iff.1 hc).1).trans hc, rest⟩⟩, h3⟩
theorem OT.alloc {B : Nat} {v : Value} {xs : List ByteArray} {W : World} (h : OT B W v xs) (o : Obj) : OT B (W.alloc o) v xs := ⟨World.ownsRow.alloc h.1 o, h.2⟩
theorem OT.row {B : Nat} {v : Value} {xs : List ByteArray} {W : World} (h : OT B W v xs) : ∀ j, v.ownBlock = some j → B ≤ j := fun j hj => (World.ownsRow.lt h.1 j hj).1
theorem OT.shape {B : Nat} {v : Value} {xs : List ByteArray} {W : World} (h : OT B W v xs) : ∃ a l c, v = .slice a l c := by
  rcases h.1.2 with ⟨rfl, _⟩ | ⟨g, cap, cur, rfl, _⟩
  · exact ⟨_, _, _, rfl⟩
  · exact ⟨_, _, _, rfl⟩
theorem OT.step {B : Nat} {v : Value} {xs : List ByteArray} {W : World} {x : ByteArray} (h : W.ownsRow B 9 1 v (xs.length + 1) ((xs.map fun x => Value.string x) ++ [.string x])) (hs : ∀ y ∈ xs, y.size ≤ maxLen) (hx : x.size ≤ maxLen) : OT B W v (xs ++ [x]) := by
  refine ⟨?_, fun y hy => ?_⟩
  · rw [List.length_append, List.map_append]
    exact h
  · rcases List.mem_append.1 hy with h | h
    · exact hs y h
    · simp at h; subst h; exact hx
theorem OT.low {B B' : Nat} {v : Value} {xs : List ByteArray} {W : World} (hB : B ≤ B') (h : OT B' W v xs) : OT B W v xs := by
  obtain ⟨⟨h1, h2 | ⟨g, cap, cur, hv, hg, rest⟩⟩, h3⟩ := h
  · exact ⟨⟨h1, .inl h2⟩, h3⟩
  · exact ⟨⟨h1, .inr ⟨g, cap, cur, hv, Nat.le_trans hB hg, rest⟩⟩, h3⟩
theorem OT.read {B : Nat} {v : Value} {xs : List ByteArray} {W : World} (h : OT B W v xs) (hl : xs.length ≤ maxLen) : RS 1 RStr W B xs v := by
  have hc := fun g hg => World.ownsRow.cells h.1 (g := g) hg
  have h3 := h.2
  rcases h.1.2 with ⟨rfl, hn⟩ | ⟨g, cap, cur, rfl, hb, hg, hlc, hm, _⟩
  · have : xs = [] := List.length_eq_zero_iff.1 hn
    subst this
    exact RS.nil _ _ _ _ _ _
  · refine ⟨_, _, rfl, hlc, hl, fun _ => ⟨g, 0, rfl, hb, fun i x hx => ?_⟩⟩
    refine ⟨[.string x], rfl, fun j y hj => ?_, rfl, h3 x (List.mem_of_getElem? hx)⟩
    have hj0 : j = 0 := by
      cases j with
      | zero => rfl
      | succ j => simp at hj
    subst hj0
    simp at hj
    subst hj
    have := hc g rfl i (.string x) (by rw [List.getElem?_map, hx]; rfl)
    rw [Addr.add_lit] at this
    simpa using this
theorem info9 : (Try.prog.info? 9).map (fun i => (i.zero, i.size, i.bytes)) = some (some (.string ByteArray.empty), 1, 16) := by kernel_rfl
theorem newT (W : World) (x : ByteArray) (g : Nat) (hg : g = W.heap.size) : ∀ j u, [Value.string x][j]? = some u → (W.alloc (.cells #[.string x] 9)).cell? ((⟨g, 0, none⟩ : Addr).add j) = some u := by
  intro j u h
  subst hg
  match j, h with
  | 0, h => simp at h; subst h; simp [Addr.add]
  | j + 1, h => simp at h
theorem oneT (x : ByteArray) : ∀ u ∈ [Value.string x], u.oneCell' = true := by
  intro u hu; simp at hu; subst hu; rfl
theorem OT_start {W : World} {B M : Nat} (hM : W.heap.size = M) (h : B ≤ M) : OT B (W.alloc (.cells #[] 9)) (.slice (some ⟨M, 0, none⟩) 0 0) [] := by
  subst hM
  exact ⟨⟨rfl, .inr ⟨W.heap.size, 0, #[], rfl, h, heap_alloc_new W _, Nat.le_refl _, Nat.zero_le _, rfl, rfl⟩⟩, fun x h => by cases h⟩
end Go.Proofs.Ytjbbjgoofenkpaa
