/- Ints in a row of one's own. -/
import Derived.Test.YtdmmbhemmbgcpadGS2
import Derived.OwnWalk
namespace Go.Proofs.Ytdmmbhemmbgcpad
open Go.RowKit Gs
set_option linter.unusedVariables false
set_option maxRecDepth 100000
def OI (B : Nat) (W : World) (v : Value) (xs : List Int) : Prop := W.ownsRow B 3 1 v xs.length (xs.map fun x => Value.int .i64 x)
theorem OI_nil (B : Nat) (W : World) : OI B W (.slice none 0 0) [] := World.ownsRow_nil _ _ _ _
theorem OI.later {B : Nat} {v : Value} {xs : List Int} {W W' : World} (h : OI B W v xs) (hb : Below W.heap.size W W') : OI B W' v xs := by
  obtain ⟨h1, h2 | ⟨g, cap, cur, hv, hg, hc, rest⟩⟩ := h
  · exact ⟨h1, .inl h2⟩
  · exact ⟨h1, .inr ⟨g, cap, cur, hv, hg, (hb.block g (Array.getElem?_eq_some_iff.1 hc).1).trans hc, rest⟩⟩
theorem OI.alloc {B : Nat} {v : Value} {xs : List Int} {W : World} (h : OI B W v xs) (o : Obj) : OI B (W.alloc o) v xs := World.ownsRow.alloc h o
theorem OI.row {B : Nat} {v : Value} {xs : List Int} {W : World} (h : OI B W v xs) : ∀ j, v.ownBlock = some j → B ≤ j := fun j hj => (World.ownsRow.lt h j hj).1
theorem OI.shape {B : Nat} {v : Value} {xs : List Int} {W : World} (h : OI B W v xs) : ∃ a l c, v = .slice a l c := by
  rcases h.2 with ⟨rfl, _⟩ | ⟨g, cap, cur, rfl, _⟩
  · exact ⟨_, _, _, rfl⟩
  · exact ⟨_, _, _, rfl⟩
theorem OI.step {B : Nat} {v : Value} {xs : List Int} {W : World} {x : Int} (h : W.ownsRow B 3 1 v (xs.length + 1) ((xs.map fun x => Value.int .i64 x) ++ [.int .i64 x])) : OI B W v (xs ++ [x]) := by
  unfold OI
  rw [List.length_append, List.map_append]
  exact h
theorem OI.read {B : Nat} {v : Value} {xs : List Int} {W : World} (h : OI B W v xs) (hl : xs.length ≤ maxLen) : RS 1 RInt W B xs v := by
  have hc := fun g hg => World.ownsRow.cells h (g := g) hg
  rcases h.2 with ⟨rfl, hn⟩ | ⟨g, cap, cur, rfl, hb, hg, hlc, hm, _⟩
  · have : xs = [] := List.length_eq_zero_iff.1 hn
    subst this
    exact RS.nil _ _ _ _ _ _
  · refine ⟨_, _, rfl, hlc, hl, fun _ => ⟨g, 0, rfl, hb, fun i x hx => ?_⟩⟩
    refine ⟨[.int .i64 x], rfl, fun j y hj => ?_, rfl⟩
    have hj0 : j = 0 := by
      cases j with
      | zero => rfl
      | succ j => simp at hj
    subst hj0
    simp at hj
    subst hj
    have := hc g rfl i (.int .i64 x) (by rw [List.getElem?_map, hx]; rfl)
    rw [Addr.add_lit] at this
    simpa using this
theorem info3 : (Try.prog.info? 3).map (fun i => (i.zero, i.size, i.bytes)) = some (some (.int .i64 0), 1, 8) := by kernel_rfl
theorem newI (W : World) (x : Int) (g : Nat) (hg : g = W.heap.size) : ∀ j u, [Value.int .i64 x][j]? = some u → (W.alloc (.cells #[.int .i64 x] 3)).cell? ((⟨g, 0, none⟩ : Addr).add j) = some u := by
  intro j u h
  subst hg
  match j, h with
  | 0, h => simp at h; subst h; simp [Addr.add]
  | j + 1, h => simp at h
theorem oneI (x : Int) : ∀ u ∈ [Value.int .i64 x], u.oneCell' = true := by
  intro u hu; simp at hu; subst hu; rfl
theorem OI_start {W : World} {B M : Nat} (hM : W.heap.size = M) (h : B ≤ M) : OI B (W.alloc (.cells #[] 3)) (.slice (some ⟨M, 0, none⟩) 0 0) [] := by
  subst hM
  exact ⟨rfl, .inr ⟨W.heap.size, 0, #[], rfl, h, heap_alloc_new W _, Nat.le_refl _, Nat.zero_le _, rfl, rfl⟩⟩
end Go.Proofs.Ytdmmbhemmbgcpad
