/- Bools in a row of one's own. -/
import Derived.Test.YtaamibonpmijaaaGreatGS2
import Derived.OwnWalk
import Derived.Test.YtaamibonpmijaaaGreatDD
namespace Go.Proofs.YtaamibonpmijaaaGreat
open Go.RowKit Gs
set_option linter.unusedVariables false
set_option maxRecDepth 100000
def OL (B : Nat) (W : World) (v : Value) (xs : List Bool) : Prop := W.ownsRow B 4 1 v xs.length (xs.map fun x => Value.bool x)
theorem OL_nil (B : Nat) (W : World) : OL B W (.slice none 0 0) [] := World.ownsRow_nil _ _ _ _
theorem OL.later {B : Nat} {v : Value} {xs : List Bool} {W W' : World} (h : OL B W v xs) (hb : Below W.heap.size W W') : OL B W' v xs := by
  obtain ⟨h1, h2 | ⟨g, cap, cur, hv, hg, hc, rest⟩⟩ := h
  · exact ⟨h1, .inl h2⟩
  · exact ⟨h1, .inr ⟨g, cap, cur, hv, hg, (hb.block g (Array.getElem?_eq_some_iff.1 hc).1).trans hc, rest⟩⟩
theorem OL.alloc {B : Nat} {v : Value} {xs : List Bool} {W : World} (h : OL B W v xs) (o : Obj) : OL B (W.alloc o) v xs := World.ownsRow.alloc h o
theorem OL.row {B : Nat} {v : Value} {xs : List Bool} {W : World} (h : OL B W v xs) : ∀ j, v.ownBlock = some j → B ≤ j := fun j hj => (World.ownsRow.lt h j hj).1
theorem OL.shape {B : Nat} {v : Value} {xs : List Bool} {W : World} (h : OL B W v xs) : ∃ a l c, v = .slice a l c := by
  rcases h.2 with ⟨rfl, _⟩ | ⟨g, cap, cur, rfl, _⟩
  · exact ⟨_, _, _, rfl⟩
  · exact ⟨_, _, _, rfl⟩
theorem OL.step {B : Nat} {v : Value} {xs : List Bool} {W : World} {x : Bool} (h : W.ownsRow B 4 1 v (xs.length + 1) ((xs.map fun x => Value.bool x) ++ [.bool x])) : OL B W v (xs ++ [x]) := by
  unfold OL
  rw [List.length_append, List.map_append]
  exact h
theorem OL.read {B : Nat} {v : Value} {xs : List Bool} {W : World} (h : OL B W v xs) (hl : xs.length ≤ maxLen) : RS 1 RBool W B xs v := by
  have hc := fun g hg => World.ownsRow.cells h (g := g) hg
  rcases h.2 with ⟨rfl, hn⟩ | ⟨g, cap, cur, rfl, hb, hg, hlc, hm, _⟩
  · have : xs = [] := List.length_eq_zero_iff.1 hn
    subst this
    exact RS.nil _ _ _ _ _ _
  · refine ⟨_, _, rfl, hlc, hl, fun _ => ⟨g, 0, rfl, hb, fun i x hx => ?_⟩⟩
    refine ⟨[.bool x], rfl, fun j y hj => ?_, rfl⟩
    have hj0 : j = 0 := by
      cases j with
      | zero => rfl
      | succ j => simp at hj
    subst hj0
    simp at hj
    subst hj
    have := hc g rfl i (.bool x) (by rw [List.getElem?_map, hx]; rfl)
    rw [Addr.add_lit] at this
    simpa using this
theorem info4 : (Tryz.prog.info? 4).map (fun i => (i.zero, i.size, i.bytes)) = some (some (.bool false), 1, 1) := by kernel_rfl
theorem newL (W : World) (x : Bool) (g : Nat) (hg : g = W.heap.size) : ∀ j u, [Value.bool x][j]? = some u → (W.alloc (.cells #[.bool x] 4)).cell? ((⟨g, 0, none⟩ : Addr).add j) = some u := by
  intro j u h
  subst hg
  match j, h with
  | 0, h => simp at h; subst h; simp [Addr.add]
  | j + 1, h => simp at h
theorem oneL (x : Bool) : ∀ u ∈ [Value.bool x], u.oneCell' = true := by
  intro u hu; simp at hu; subst hu; rfl
theorem OL_start {W : World} {B M : Nat} (hM : W.heap.size = M) (h : B ≤ M) : OL B (W.alloc (.cells #[] 4)) (.slice (some ⟨M, 0, none⟩) 0 0) [] := by
  subst hM
  exact ⟨rfl, .inr ⟨W.heap.size, 0, #[], rfl, h, heap_alloc_new W _, Nat.le_refl _, Nat.zero_le _, rfl, rfl⟩⟩
end Go.Proofs.YtaamibonpmijaaaGreat
namespace Go.Proofs.YtaamibonpmijaaaGreat
open Go.RowKit Gs
set_option linter.unusedVariables false
set_option maxRecDepth 100000
/-- Strings in a row of one's own. -/
def OS (B : Nat) (W : World) (v : Value) (xs : List ByteArray) : Prop := W.ownsRow B 9 1 v xs.length (xs.map Value.string) ∧ ∀ s ∈ xs, s.size ≤ maxLen
theorem OS_nil (B : Nat) (W : World) : OS B W (.slice none 0 0) [] := ⟨World.ownsRow_nil _ _ _ _, fun _ h => by cases h⟩
theorem OS.later {B : Nat} {v : Value} {xs : List ByteArray} {W W' : World} (h : OS B W v xs) (hb : Below W.heap.size W W') : OS B W' v xs := by
  obtain ⟨⟨h1, h2 | ⟨g, cap, cur, hv, hg, hc, rest⟩⟩, h3⟩ := h
  · exact ⟨⟨h1, .inl h2⟩, h3⟩
  · exact ⟨⟨h1, .inr ⟨g, cap, cur, hv, hg, (hb.block g (Array.getElem?_eq_some_iff.1 hc).1).trans hc, rest⟩⟩, h3⟩
theorem OS.read {B : Nat} {v : Value} {xs : List ByteArray} {W : World} (h : OS B W v xs) (hl : xs.length ≤ maxLen) : RS 1 RStr W B xs v := by
  obtain ⟨hr, h3⟩ := h
  have hc := fun g hg => World.ownsRow.cells hr (g := g) hg
  rcases hr.2 with ⟨rfl, hn⟩ | ⟨g, cap, cur, rfl, hb, hg, hlc, hm, _⟩
  · have : xs = [] := List.length_eq_zero_iff.1 hn
    subst this
    exact RS.nil _ _ _ _ _ _
  · refine ⟨_, _, rfl, hlc, hl, fun _ => ⟨g, 0, rfl, hb, fun i x hx => ?_⟩⟩
    refine ⟨[.string x], rfl, fun j y hj => ?_, rfl, h3 x (List.mem_of_getElem? hx)⟩
    have hj0 : j = 0 := by
      cases j with
      | zero => rfl
      | succ j => simp at hj
    subst hj0
    simp at hj
    subst hj
    have := hc g rfl i (.string x) (by rw [List.getElem?_map, hx]; rfl)
    rw [Addr.add_lit] at this
    simpa using this
theorem OS.step {B : Nat} {v : Value} {xs : List ByteArray} {W : World} {s : ByteArray} (h : W.ownsRow B 9 1 v (xs.length + 1) (xs.map Value.string ++ [.string s])) (h3 : ∀ s ∈ xs, s.size ≤ maxLen) (hs : s.size ≤ maxLen) : OS B W v (xs ++ [s]) := by
  refine ⟨?_, fun t ht => ?_⟩
  · rw [List.length_append, List.map_append]; exact h
  · rcases List.mem_append.1 ht with h | h
    · exact h3 t h
    · simp at h; subst h; exact hs
theorem info9 : (Tryz.prog.info? 9).map (fun i => (i.zero, i.size, i.bytes)) = some (some (.string ByteArray.empty), 1, 16) := by kernel_rfl
theorem newS (W : World) (s : ByteArray) (g : Nat) (hg : g = W.heap.size) : ∀ j u, [Value.string s][j]? = some u → (W.alloc (.cells #[.string s] 9)).cell? ((⟨g, 0, none⟩ : Addr).add j) = some u := by
  intro j u h
  subst hg
  match j, h with
  | 0, h => simp at h; subst h; simp [Addr.add]
  | j + 1, h => simp at h
theorem oneS (s : ByteArray) : ∀ u ∈ [Value.string s], u.oneCell' = true := by
  intro u hu; simp at hu; subst hu; rfl
theorem below_grown {B : Nat} {w W V : World} {row : Option Nat} (h : Below B w W) (hg : W.grownBy V row) (hB : B ≤ W.heap.size) (hr : ∀ j, row = some j → B ≤ j) : Below B w V := h.grown hg hB hr
theorem own_row {B : Nat} {v : Value} {n : Nat} {xs : List Value} {W : World} (h : W.ownsRow B 9 1 v n xs) : ∀ j, v.ownBlock = some j → B ≤ j := fun j hj => (h.lt j hj).1
end Go.Proofs.YtaamibonpmijaaaGreat
namespace Go.Proofs.YtaamibonpmijaaaGreat
open Go.RowKit Gs
set_option linter.unusedVariables false
set_option maxRecDepth 100000
def OT (B : Nat) (W : World) (v : Value) (xs : List ByteArray) : Prop := W.ownsRow B 9 1 v xs.length (xs.map fun x => Value.string x) ∧ ∀ x ∈ xs, x.size ≤ maxLen
theorem OT_nil (B : Nat) (W : World) : OT B W (.slice none 0 0) [] := ⟨World.ownsRow_nil _ _ _ _, fun x h => by cases h⟩
theorem OT.later {B : Nat} {v : Value} {xs : List ByteArray} {W W' : World} (h : OT B W v xs) (hb : Below W.heap.size W W') : OT B W' v xs := by
  obtain ⟨⟨h1, h2 | ⟨g, cap, cur, hv, hg, hc, rest⟩⟩, h3⟩ := h
  · exact ⟨⟨h1, .inl h2⟩, h3⟩
  · exact ⟨⟨h1, .inr ⟨g, cap, cur, hv, hg, (hb.block g (Array.getElem?_eq_some_iff.1 hc).1).trans hc, rest⟩⟩, h3⟩
theorem OT.alloc {B : Nat} {v : Value} {xs : List ByteArray} {W : World} (h : OT B W v xs) (o : Obj) : OT B (W.alloc o) v xs := ⟨World.ownsRow.alloc h.1 o, h.2⟩
theorem OT.row {B : Nat} {v : Value} {xs : List ByteArray} {W : World} (h : OT B W v xs) : ∀ j, v.ownBlock = some j → B ≤ j := fun j hj => (World.ownsRow.lt h.1 j hj).1
theorem OT.shape {B : Nat} {v : Value} {xs : List ByteArray} {W : World} (h : OT B W v xs) : ∃ a l c, v = .slice a l c := by
  rcases h.1.2 with ⟨rfl, _⟩ | ⟨g, cap, cur, rfl, _⟩
  · exact ⟨_, _, _, rfl⟩
  · exact ⟨_, _, _, rfl⟩
theorem OT.step {B : Nat} {v : Value} {xs : List ByteArray} {W : World} {x : ByteArray} (h : W.ownsRow B 9 1 v (xs.length + 1) ((xs.map fun x => Value.string x) ++ [.string x])) (hs : ∀ y ∈ xs, y.size ≤ maxLen) (hx : x.size ≤ maxLen) : OT B W v (xs ++ [x]) := by
  refine ⟨?_, fun y hy => ?_⟩
  · rw [List.length_append, List.map_append]
    exact h
  · rcases List.mem_append.1 hy with h | h
    · exact hs y h
    · simp at h; subst h; exact hx
theorem OT.low {B B' : Nat} {v : Value} {xs : List ByteArray} {W : World} (hB : B ≤ B') (h : OT B' W v xs) : OT B W v xs := by
  obtain ⟨⟨h1, h2 | ⟨g, cap, cur, hv, hg, rest⟩⟩, h3⟩ := h
  · exact ⟨⟨h1, .inl h2⟩, h3⟩
  · exact ⟨⟨h1, .inr ⟨g, cap, cur, hv, Nat.le_trans hB hg, rest⟩⟩, h3⟩
theorem OT.read {B : Nat} {v : Value} {xs : List ByteArray} {W : World} (h : OT B W v xs) (hl : xs.length ≤ maxLen) : RS 1 RStr W B xs v := by
  have hc := fun g hg => World.ownsRow.cells h.1 (g := g) hg
  have h3 := h.2
  rcases h.1.2 with ⟨rfl, hn⟩ | ⟨g, cap, cur, rfl, hb, hg, hlc, hm, _⟩
  · have : xs = [] := List.length_eq_zero_iff.1 hn
    subst this
    exact RS.nil _ _ _ _ _ _
  · refine ⟨_, _, rfl, hlc, hl, fun _ => ⟨g, 0, rfl, hb, fun i x hx => ?_⟩⟩
    refine ⟨[.string x], rfl, fun j y hj => ?_, rfl, h3 x (List.mem_of_getElem? hx)⟩
    have hj0 : j = 0 := by
      cases j with
      | zero => rfl
      | succ j => simp at hj
    subst hj0
    simp at hj
    subst hj
    have := hc g rfl i (.string x) (by rw [List.getElem?_map, hx]; rfl)
    rw [Addr.add_lit] at this
    simpa using this

theorem newT (W : World) (x : ByteArray) (g : Nat) (hg : g = W.heap.size) : ∀ j u, [Value.string x][j]? = some u → (W.alloc (.cells #[.string x] 9)).cell? ((⟨g, 0, none⟩ : Addr).add j) = some u := by
  intro j u h
  subst hg
  match j, h with
  | 0, h => simp at h; subst h; simp [Addr.add]
  | j + 1, h => simp at h
theorem oneT (x : ByteArray) : ∀ u ∈ [Value.string x], u.oneCell' = true := by
  intro u hu; simp at hu; subst hu; rfl
theorem OT_start {W : World} {B M : Nat} (hM : W.heap.size = M) (h : B ≤ M) : OT B (W.alloc (.cells #[] 9)) (.slice (some ⟨M, 0, none⟩) 0 0) [] := by
  subst hM
  exact ⟨⟨rfl, .inr ⟨W.heap.size, 0, #[], rfl, h, heap_alloc_new W _, Nat.le_refl _, Nat.zero_le _, rfl, rfl⟩⟩, fun x h => by cases h⟩
end Go.Proofs.YtaamibonpmijaaaGreat
namespace Go.Proofs.YtaamibonpmijaaaGreat
open Go.RowKit Gs
set_option linter.unusedVariables false
set_option maxRecDepth 100000
def OI (B : Nat) (W : World) (v : Value) (xs : List Int) : Prop := W.ownsRow B 3 1 v xs.length (xs.map fun x => Value.int .i64 x)
theorem OI_nil (B : Nat) (W : World) : OI B W (.slice none 0 0) [] := World.ownsRow_nil _ _ _ _
theorem OI.later {B : Nat} {v : Value} {xs : List Int} {W W' : World} (h : OI B W v xs) (hb : Below W.heap.size W W') : OI B W' v xs := by
  obtain ⟨h1, h2 | ⟨g, cap, cur, hv, hg, hc, rest⟩⟩ := h
  · exact ⟨h1, .inl h2⟩
  · exact ⟨h1, .inr ⟨g, cap, cur, hv, hg, (hb.block g (Array.getElem?_eq_some_iff.1 hc).1).trans hc, rest⟩⟩
theorem OI.alloc {B : Nat} {v : Value} {xs : List Int} {W : World} (h : OI B W v xs) (o : Obj) : OI B (W.alloc o) v xs := World.ownsRow.alloc h o
theorem OI.row {B : Nat} {v : Value} {xs : List Int} {W : World} (h : OI B W v xs) : ∀ j, v.ownBlock = some j → B ≤ j := fun j hj => (World.ownsRow.lt h j hj).1
theorem OI.shape {B : Nat} {v : Value} {xs : List Int} {W : World} (h : OI B W v xs) : ∃ a l c, v = .slice a l c := by
  rcases h.2 with ⟨rfl, _⟩ | ⟨g, cap, cur, rfl, _⟩
  · exact ⟨_, _, _, rfl⟩
  · exact ⟨_, _, _, rfl⟩
theorem OI.step {B : Nat} {v : Value} {xs : List Int} {W : World} {x : Int} (h : W.ownsRow B 3 1 v (xs.length + 1) ((xs.map fun x => Value.int .i64 x) ++ [.int .i64 x])) : OI B W v (xs ++ [x]) := by
  unfold OI
  rw [List.length_append, List.map_append]
  exact h
theorem OI.read {B : Nat} {v : Value} {xs : List Int} {W : World} (h : OI B W v xs) (hl : xs.length ≤ maxLen) : RS 1 RInt W B xs v := by
  have hc := fun g hg => World.ownsRow.cells h (g := g) hg
  rcases h.2 with ⟨rfl, hn⟩ | ⟨g, cap, cur, rfl, hb, hg, hlc, hm, _⟩
  · have : xs = [] := List.length_eq_zero_iff.1 hn
    subst this
    exact RS.nil _ _ _ _ _ _
  · refine ⟨_, _, rfl, hlc, hl, fun _ => ⟨g, 0, rfl, hb, fun i x hx => ?_⟩⟩
    refine ⟨[.int .i64 x], rfl, fun j y hj => ?_, rfl⟩
    have hj0 : j = 0 := by
      cases j with
      | zero => rfl
      | succ j => simp at hj
    subst hj0
    simp at hj
    subst hj
    have := hc g rfl i (.int .i64 x) (by rw [List.getElem?_map, hx]; rfl)
    rw [Addr.add_lit] at this
    simpa using this
theorem info3 : (Tryz.prog.info? 3).map (fun i => (i.zero, i.size, i.bytes)) = some (some (.int .i64 0), 1, 8) := by kernel_rfl
theorem newI (W : World) (x : Int) (g : Nat) (hg : g = W.heap.size) : ∀ j u, [Value.int .i64 x][j]? = some u → (W.alloc (.cells #[.int .i64 x] 3)).cell? ((⟨g, 0, none⟩ : Addr).add j) = some u := by
  intro j u h
  subst hg
  match j, h with
  | 0, h => simp at h; subst h; simp [Addr.add]
  | j + 1, h => simp at h
theorem oneI (x : Int) : ∀ u ∈ [Value.int .i64 x], u.oneCell' = true := by
  intro u hu; simp at hu; subst hu; rfl
theorem OI_start {W : World} {B M : Nat} (hM : W.heap.size = M) (h : B ≤ M) : OI B (W.alloc (.cells #[] 3)) (.slice (some ⟨M, 0, none⟩) 0 0) [] := by
  subst hM
  exact ⟨rfl, .inr ⟨W.heap.size, 0, #[], rfl, h, heap_alloc_new W _, Nat.le_refl _, Nat.zero_le _, rfl, rfl⟩⟩
end Go.Proofs.YtaamibonpmijaaaGreat
