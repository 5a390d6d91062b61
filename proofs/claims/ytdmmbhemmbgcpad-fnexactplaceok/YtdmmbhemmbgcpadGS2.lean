/- Rows that are written element by element. -/
import Derived.Test.YtdmmbhemmbgcpadGS
import Derived.Test.YtdmmbhemmbgcpadBase
import Derived.Laws.MakeOwn
namespace Go.Proofs.Ytdmmbhemmbgcpad.Gs
open Go Go.RowKit
set_option linter.unusedVariables false
/-- Cells one behind the other are set. -/
def setK (w : World) (g o : Nat) : List Value → World
  | [] => w
  | v :: vs => setK (w.setCell ⟨g, o, none⟩ v) g (o + 1) vs
theorem ne_addr {b g o p : Nat} (h : b ≠ g ∨ p ≠ o) : (⟨g, o, none⟩ : Addr) ≠ ⟨b, p, none⟩ := fun e => by
  injection e with e1 e2
  rcases h with h | h
  · exact h e1.symm
  · exact h e2.symm
theorem setK_other : ∀ (vs : List Value) (w : World) (g o b p : Nat), (b ≠ g ∨ p < o ∨ o + vs.length ≤ p) → (setK w g o vs).cell? ⟨b, p, none⟩ = w.cell? ⟨b, p, none⟩
  | [], _, _, _, _, _, _ => rfl
  | v :: vs, w, g, o, b, p, h => by
    simp only [List.length_cons] at h
    rw [setK, setK_other vs _ g (o + 1) b p (by omega)]
    exact World.cell?_setCell_other (w := w) (a := ⟨g, o, none⟩) (b := ⟨b, p, none⟩) (v := v) (ne_addr (by omega))
theorem setK_frozen : ∀ (vs : List Value) (w : World) (g o : Nat) (a : Addr), (setK w g o vs).frozen? a = w.frozen? a
  | [], _, _, _, _ => rfl
  | v :: vs, w, g, o, a => by rw [setK, setK_frozen vs]; simp
theorem setK_some : ∀ (vs : List Value) (w : World) (g o b p : Nat), (∃ x, w.cell? ⟨b, p, none⟩ = some x) → ∃ x, (setK w g o vs).cell? ⟨b, p, none⟩ = some x
  | [], _, _, _, _, _, h => h
  | v :: vs, w, g, o, b, p, h => by
    rw [setK]
    refine setK_some vs _ g (o + 1) b p ?_
    obtain ⟨x, hx⟩ := h
    by_cases e : b = g ∧ p = o
    · obtain ⟨rfl, rfl⟩ := e
      exact ⟨v, World.cell?_setCell_same (w := w) (a := ⟨b, p, none⟩) (v := v) hx⟩
    · exact ⟨x, by rw [World.cell?_setCell_other (w := w) (a := ⟨g, o, none⟩) (b := ⟨b, p, none⟩) (v := v) (ne_addr (by omega))]; exact hx⟩
theorem setK_at : ∀ (vs : List Value) (w : World) (g o : Nat), (∀ q, q < vs.length → ∃ x, w.cell? ⟨g, o + q, none⟩ = some x) → At (setK w g o vs) g o vs
  | [], _, _, _, _ => fun j y hj => by simp at hj
  | v :: vs, w, g, o, h => by
    intro j y hj
    rw [setK]
    cases j with
    | zero =>
      simp at hj; subst hj
      rw [setK_other vs _ g (o + 1) g (o + 0) (by omega)]
      obtain ⟨x, hx⟩ := h 0 (by simp)
      exact World.cell?_setCell_same (w := w) (a := ⟨g, o, none⟩) (v := v) hx
    | succ j =>
      have hj' : vs[j]? = some y := by simpa using hj
      have := setK_at vs (w.setCell ⟨g, o, none⟩ v) g (o + 1) (fun q hq => ?_) j y hj'
      · rwa [show o + 1 + j = o + (j + 1) by omega] at this
      · have h1 := h (q + 1) (by simpa using hq)
        rw [show o + (q + 1) = o + 1 + q by omega] at h1
        exact setK_some [v] w g o g (o + 1 + q) h1
theorem setK_below : ∀ (vs : List Value) {B : Nat} {w W : World} {g o : Nat}, Below B w W → B ≤ g → Below B w (setK W g o vs)
  | [], _, _, _, _, _, h, _ => h
  | v :: vs, B, w, W, g, o, h, hg => by
    rw [setK]
    exact setK_below vs (h.setCell (p := ⟨g, o, none⟩) hg v) hg
theorem setK_size : ∀ (vs : List Value) (w : World) (g o : Nat), (setK w g o vs).heap.size = w.heap.size
  | [], _, _, _ => rfl
  | v :: vs, w, g, o => by rw [setK, setK_size vs]; simp
/-- The cells of a row that may be written. -/
def TP (W : World) (g m : Nat) : Prop := ∀ i, i < m → (∃ x, W.cell? ⟨g, i, none⟩ = some x) ∧ W.frozen? ⟨g, i, none⟩ = false
/-- The first n elements of a row hold those of a list. -/
def NR {α : Type} (k : Nat) (R : Rd α) (W : World) (B g n : Nat) (xs : List α) : Prop := ∀ i x, i < n → xs[i]? = some x → ∃ u, u.length = k ∧ At W g (i * k) u ∧ R W B x u
theorem TP.later {W V : World} {g m : Nat} (h : TP W g m) (hb : Below W.heap.size W V) : TP V g m := fun i hi => by
  obtain ⟨⟨x, hx⟩, hf⟩ := h i hi
  exact ⟨⟨x, cell_later hb hx⟩, frozen_later hb hx hf⟩
theorem TP.set {W : World} {g m o : Nat} {vs : List Value} (h : TP W g m) : TP (setK W g o vs) g m := fun i hi => by
  obtain ⟨hx, hf⟩ := h i hi
  exact ⟨setK_some vs W g o g i hx, by rw [setK_frozen]; exact hf⟩
theorem NR.later {α : Type} {k : Nat} {R : Rd α} (hR : Keeps R) {W V : World} {B g n : Nat} {xs : List α} (h : NR k R W B g n xs) (hb : Below W.heap.size W V) : NR k R V B g n xs := fun i x hi hx => by
  obtain ⟨u, h1, h2, h3⟩ := h i x hi hx
  exact ⟨u, h1, fun j y hj => cell_later hb (h2 j y hj), hR _ _ _ _ _ (later_cells hb B) h3⟩
/-- One element more is written. -/
theorem NR.step {α : Type} {k : Nat} {R : Rd α} (hR : Keeps R) {V : World} {B g j m : Nat} {xs : List α} {x : α} {u : List Value} (hTP : TP V g m) (h : NR k R V B g j xs) (hg : g < B) (hx : xs[j]? = some x) (hu : u.length = k) (hr : R V B x u) (hm : j * k + k ≤ m) : NR k R (setK V g (j * k) u) B g (j + 1) xs := by
  have hkeep : ∀ b o y, B ≤ b → V.cell? ⟨b, o, none⟩ = some y → (setK V g (j * k) u).cell? ⟨b, o, none⟩ = some y := fun b o y hb hc => by
    rw [setK_other u V g (j * k) b o (.inl (by omega))]; exact hc
  intro i y hi hy
  by_cases e : i = j
  · subst e
    rw [hx] at hy
    cases hy
    exact ⟨u, hu, setK_at u V g (i * k) (fun q hq => (hTP (i * k + q) (by omega)).1), hR _ _ _ _ _ hkeep hr⟩
  · obtain ⟨v, h1, h2, h3⟩ := h i y (by omega) hy
    refine ⟨v, h1, fun q z hz => ?_, hR _ _ _ _ _ hkeep h3⟩
    have hq : q < k := by rw [← h1]; exact (List.getElem?_eq_some_iff.1 hz).1
    have hij : i * k + k ≤ j * k := by
      have : (i + 1) * k ≤ j * k := Nat.mul_le_mul_right k (by omega)
      rw [Nat.add_mul, Nat.one_mul] at this
      exact this
    rw [setK_other u V g (j * k) g (i * k + q) (.inr (.inl (by omega)))]
    exact h2 q z hz
theorem NR.zero {α : Type} {k : Nat} {R : Rd α} {W : World} {B g : Nat} {xs : List α} : NR k R W B g 0 xs := fun i x hi => absurd hi (Nat.not_lt_zero _)
theorem NR.done {α : Type} {k : Nat} {R : Rd α} (hL : Lowers R) {W : World} {B g : Nat} {xs : List α} (h : NR k R W (g + 1) g xs.length xs) (hn : xs.length ≤ maxLen) (hB : B ≤ g) : RS k R W B xs (.slice (some ⟨g, 0, none⟩) xs.length xs.length) :=
  ⟨_, _, rfl, Nat.le_refl _, hn, fun _ => ⟨g, 0, rfl, hB, fun i x hx => by
    obtain ⟨u, h1, h2, h3⟩ := h i x (List.getElem?_eq_some_iff.1 hx).1 hx
    exact ⟨u, h1, by rw [Nat.zero_add]; exact h2, hL _ _ _ _ _ (by omega) h3⟩⟩⟩
theorem TP_made (w : World) (M : Array Value) (t : TypeId) (m : Nat) (h : M.size = m) : TP (w.alloc (.cells M t)) w.heap.size m := fun i hi => by
  refine ⟨⟨M[i]'(by omega), ?_⟩, by simp⟩
  rw [World.cell?_alloc_new]; exact Array.getElem?_eq_getElem (by omega)
theorem RS.set {α : Type} {k : Nat} {R : Rd α} (hR : Keeps R) {W : World} {B : Nat} {xs : List α} {v u : Value} {g o : Nat} (h : RS k R W B xs v) (hg : g < B) : RS k R (W.setCell ⟨g, o, none⟩ u) B xs v :=
  h.keep hR fun b p y hb hc => by
    rw [World.cell?_setCell_other (w := W) (a := ⟨g, o, none⟩) (b := ⟨b, p, none⟩) (v := u) (ne_addr (.inl (by omega)))]; exact hc
end Go.Proofs.Ytdmmbhemmbgcpad.Gs
