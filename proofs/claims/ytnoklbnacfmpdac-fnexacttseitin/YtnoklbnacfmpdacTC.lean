/- Lists of lists of numbers in rows of one's own; rows of yes and no. -/
import Derived.Test.YtnoklbnacfmpdacT0
import Derived.Test.YtnoklbnacfmpdacDDa
import Derived.Test.YtnoklbnacfmpdacBRa
import Derived.Test.YtnoklbnacfmpdacLO
import Derived.OwnWalk
namespace Go.Proofs.Ytnoklbnacfmpdac
open Go Go.RowKit Gs
set_option linter.unusedVariables false
def iC (x : List Int) : Array Value := (x.map fun z => Value.int .i64 z).toArray
/-- Slices that lie in blocks of their own, one behind the other, from B up to E. -/
def RI (W : World) : Nat → Nat → List (List Int) → List Value → Prop
  | B, E, [], [] => B ≤ E
  | B, E, x :: xs, u :: us => ∃ b, u = .slice (some ⟨b, 0, none⟩) x.length x.length ∧ B ≤ b ∧ W.heap[b]? = some (.cells (iC x) 3) ∧ RI W (b + 1) E xs us
  | _, _, [], _ :: _ => False
  | _, _, _ :: _, [] => False
theorem RI.le {W : World} : ∀ {B E : Nat} (xs : List (List Int)) (us : List Value), RI W B E xs us → B ≤ E
  | _, _, [], [], h => h
  | B, E, x :: xs, u :: us, h => by
    obtain ⟨b, _, hb, _, hr⟩ := h
    have := RI.le xs us hr
    omega
  | _, _, [], _ :: _, h => h.elim
  | _, _, _ :: _, [], h => h.elim
theorem RI.keep {W W' : World} : ∀ {B E : Nat} (xs : List (List Int)) (us : List Value), (∀ b o, B ≤ b → b < E → W.heap[b]? = some (.cells o 3) → W'.heap[b]? = some (.cells o 3)) → RI W B E xs us → RI W' B E xs us
  | _, _, [], [], _, h => h
  | B, E, x :: xs, u :: us, k, h => by
    obtain ⟨b, h1, hb, h2, hr⟩ := h
    have := RI.le xs us hr
    exact ⟨b, h1, hb, k b _ hb (by omega) h2, RI.keep xs us (fun c o hc he ho => k c o (by omega) he ho) hr⟩
  | _, _, [], _ :: _, _, h => h.elim
  | _, _, _ :: _, [], _, h => h.elim
theorem RI.up {W : World} : ∀ {B E E' : Nat} (xs : List (List Int)) (us : List Value), E ≤ E' → RI W B E xs us → RI W B E' xs us
  | _, _, _, [], [], e, h => Nat.le_trans h e
  | B, E, E', x :: xs, u :: us, e, h => by
    obtain ⟨b, h1, hb, h2, hr⟩ := h
    exact ⟨b, h1, hb, h2, RI.up xs us e hr⟩
  | _, _, _, [], _ :: _, _, h => h.elim
  | _, _, _, _ :: _, [], _, h => h.elim
theorem RI.low {W : World} {B B' E : Nat} : ∀ (xs : List (List Int)) (us : List Value), B' ≤ B → RI W B E xs us → RI W B' E xs us
  | [], [], e, h => Nat.le_trans e h
  | x :: xs, u :: us, e, h => by
    obtain ⟨b, h1, hb, h2, hr⟩ := h
    exact ⟨b, h1, Nat.le_trans e hb, h2, hr⟩
  | [], _ :: _, _, h => h.elim
  | _ :: _, [], _, h => h.elim
theorem RI.append {W : World} : ∀ {B E E' : Nat} (xs ys : List (List Int)) (us vs : List Value), RI W B E xs us → RI W E E' ys vs → RI W B E' (xs ++ ys) (us ++ vs)
  | _, _, _, [], ys, [], vs, h, k => RI.low ys vs h k
  | B, E, E', x :: xs, ys, u :: us, vs, h, k => by
    obtain ⟨b, h1, hb, h2, hr⟩ := h
    exact ⟨b, h1, hb, h2, RI.append xs ys us vs hr k⟩
  | _, _, _, [], _, _ :: _, _, h, _ => h.elim
  | _, _, _, _ :: _, _, [], _, h, _ => h.elim
theorem RI.len {W : World} : ∀ {B E : Nat} (xs : List (List Int)) (us : List Value), RI W B E xs us → us.length = xs.length
  | _, _, [], [], _ => rfl
  | B, E, x :: xs, u :: us, h => by
    obtain ⟨b, _, _, _, hr⟩ := h
    simp [RI.len xs us hr]
  | _, _, [], _ :: _, h => h.elim
  | _, _, _ :: _, [], h => h.elim
theorem RI.at {W : World} : ∀ {B E : Nat} (xs : List (List Int)) (us : List Value), RI W B E xs us → ∀ (i : Nat) x, xs[i]? = some x → ∃ b, us[i]? = some (.slice (some ⟨b, 0, none⟩) x.length x.length) ∧ B ≤ b ∧ b < E ∧ W.heap[b]? = some (.cells (iC x) 3)
  | _, _, [], [], _, i, x, hx => by simp at hx
  | B, E, y :: xs, u :: us, h, i, x, hx => by
    obtain ⟨b, h1, hb, h2, hr⟩ := h
    have hle := RI.le xs us hr
    cases i with
    | zero => simp at hx; subst hx; exact ⟨b, by simp [h1], hb, by omega, h2⟩
    | succ i =>
      obtain ⟨c, q1, q2, q3, q4⟩ := RI.at xs us hr i x (by simpa using hx)
      exact ⟨c, by simpa using q1, by omega, q3, q4⟩
  | _, _, [], _ :: _, h, _, _, _ => h.elim
  | _, _, _ :: _, [], h, _, _, _ => h.elim
/-- The cells of a block. -/
theorem iC_cell {W : World} {b : Nat} {x : List Int} (h : W.heap[b]? = some (.cells (iC x) 3)) {i : Nat} {z : Int} (hz : x[i]? = some z) : W.cell? ⟨b, i, none⟩ = some (.int .i64 z) := by
  simp [World.cell?, h, iC, List.getElem?_map, hz]
theorem iC_read {W : World} {b B : Nat} {x : List Int} (h : W.heap[b]? = some (.cells (iC x) 3)) (hB : B ≤ b) (hl : x.length ≤ maxLen) : RS 1 RInt W B x (.slice (some ⟨b, 0, none⟩) x.length x.length) := by
  refine ⟨_, _, rfl, Nat.le_refl _, hl, fun _ => ⟨b, 0, rfl, hB, fun i z hz => ⟨[.int .i64 z], rfl, fun j y hj => ?_, rfl⟩⟩⟩
  have hj0 : j = 0 := by
    cases j with
    | zero => rfl
    | succ j => simp at hj
  subst hj0
  simp at hj
  subst hj
  simpa using iC_cell h hz
/-- A list of lists in a row of one's own. -/
def CP (B E : Nat) (W : World) (v : Value) (xs : List (List Int)) : Prop := E ≤ W.heap.size ∧ ∃ vs, W.ownsRow B 51 1 v xs.length vs ∧ RI W B E xs vs
theorem ownsRow_keep {W W' : World} {B e k n : Nat} {v : Value} {vs : List Value} (h : W.ownsRow B e k v n vs) (hk : ∀ g o, v.ownBlock = some g → W.heap[g]? = some (.cells o e) → W'.heap[g]? = some (.cells o e)) : W'.ownsRow B e k v n vs := by
  obtain ⟨h1, h2 | ⟨g, cap, cur, hv, hg, hc, rest⟩⟩ := h
  · exact ⟨h1, .inl h2⟩
  · refine ⟨h1, .inr ⟨g, cap, cur, hv, hg, hk g cur ?_ hc, rest⟩⟩
    rw [hv]; rfl
theorem CP.later {B E : Nat} {v : Value} {xs : List (List Int)} {W W' : World} (h : CP B E W v xs) (hb : Below W.heap.size W W') : CP B E W' v xs := by
  obtain ⟨h0, vs, h1, h2⟩ := h
  refine ⟨Nat.le_trans h0 hb.size, vs, ownsRow_keep h1 (fun g o _ hc => (hb.block g (Array.getElem?_eq_some_iff.1 hc).1).trans hc), RI.keep xs vs (fun b o _ _ hc => (hb.block b (Array.getElem?_eq_some_iff.1 hc).1).trans hc) h2⟩
theorem CP.near {B E B0 : Nat} {v : Value} {xs : List (List Int)} {W W' : World} (h : CP B E W v xs) (hb : Near B0 W W') : CP B E W' v xs := by
  obtain ⟨h0, vs, h1, h2⟩ := h
  refine ⟨Nat.le_trans h0 hb.size, vs, ownsRow_keep h1 (fun g o _ hc => hb.block g _ hc (.inr rfl)), RI.keep xs vs (fun b o _ _ hc => hb.block b _ hc (.inr rfl)) h2⟩
theorem CP.shape {B E : Nat} {v : Value} {xs : List (List Int)} {W : World} (h : CP B E W v xs) : ∃ a c, v = .slice a xs.length c := by
  obtain ⟨_, vs, ⟨_, ⟨hv, hn⟩ | ⟨g, cap, cur, hv, _⟩⟩, _⟩ := h
  · exact ⟨none, 0, by rw [hv, hn]⟩
  · exact ⟨_, _, hv⟩
theorem CP.row {B E : Nat} {v : Value} {xs : List (List Int)} {W : World} (h : CP B E W v xs) : ∀ j, v.ownBlock = some j → B ≤ j := by
  obtain ⟨_, vs, h1, _⟩ := h
  exact fun j hj => (World.ownsRow.lt h1 j hj).1
theorem CP.read {B E : Nat} {v : Value} {xs : List (List Int)} {W : World} (h : CP B E W v xs) (hl : xs.length ≤ maxLen) (hs : Small xs) : RS 1 RIntS W B xs v := by
  obtain ⟨h0, vs, h1, h2⟩ := h
  have hc := fun g hg => World.ownsRow.cells h1 (g := g) hg
  rcases h1.2 with ⟨rfl, hn⟩ | ⟨g, cap, cur, rfl, hb, hg, hlc, hm, _⟩
  · have : xs = [] := List.length_eq_zero_iff.1 hn
    subst this
    exact RS.nil _ _ _ _ _ _
  · refine ⟨_, _, rfl, hlc, hl, fun _ => ⟨g, 0, rfl, hb, fun i x hx => ?_⟩⟩
    obtain ⟨b, q1, q2, q3, q4⟩ := RI.at xs vs h2 i x hx
    have hxl := hs x (List.mem_of_getElem? hx)
    refine ⟨[.slice (some ⟨b, 0, none⟩) x.length x.length], rfl, fun j y hj => ?_, _, rfl, iC_read q4 q2 (by unfold maxLen; omega)⟩
    have hj0 : j = 0 := by
      cases j with
      | zero => rfl
      | succ j => simp at hj
    subst hj0
    simp at hj
    subst hj
    have := hc g rfl i _ q1
    rw [Addr.add_lit] at this
    simpa using this
/-- A list to which others were appended. -/
theorem CP.app {B E E' : Nat} {v v' : Value} {xs ys : List (List Int)} {vs ws : List Value} {W W2 : World} (h2 : RI W B E xs vs) (hE : E ≤ W.heap.size) (hy : RI W E E' ys ws) (hE' : E' ≤ W.heap.size) (hown : W.ownsRow B 51 1 v xs.length vs) (hown' : W2.ownsRow B 51 1 v' (xs.length + ys.length) (vs ++ ws)) (hg : W.grownBy W2 v.ownBlock) : CP B E' W2 v' (xs ++ ys) := by
  refine ⟨Nat.le_trans hE' hg.size, vs ++ ws, by rw [List.length_append]; exact hown', ?_⟩
  refine RI.keep _ _ (fun b o hb hbe hc => ?_) (RI.append xs ys vs ws h2 hy)
  refine (hg.block b (Array.getElem?_eq_some_iff.1 hc).1 ?_).trans hc
  intro e
  rcases hown.2 with ⟨rfl, _⟩ | ⟨g, cap, cur, rfl, _, hgc, _⟩
  · cases e
  · have : b = g := by
      have : some b = some g := e
      injection this
    subst this
    rw [hc] at hgc
    injection hgc with h1
    injection h1 with _ h3 _
    cases h3
/-- A row of yes and no that may be written. -/
def NB (g : Nat) (W : World) (vs : List Bool) : Prop := ∀ (i : Nat) x, vs[i]? = some x → W.cell? ⟨g, i, none⟩ = some (.bool x) ∧ W.frozen? ⟨g, i, none⟩ = false
theorem NB.later {g : Nat} {W W' : World} {vs : List Bool} (h : NB g W vs) (hb : Below W.heap.size W W') : NB g W' vs := fun i x hx => ⟨cell_later hb (h i x hx).1, frozen_later hb (h i x hx).1 (h i x hx).2⟩
theorem NB.near {g B0 : Nat} {W W' : World} {vs : List Bool} (h : NB g W vs) (hb : Near B0 W W') : NB g W' vs := fun i x hx => ⟨hb.cell (h i x hx).1, (hb.frozen (h i x hx).1).trans (h i x hx).2⟩
theorem NB.set {g : Nat} {W : World} {vs : List Bool} (h : NB g W vs) (i : Nat) (y : Bool) : NB g (W.setCell ⟨g, i, none⟩ (.bool y)) (vs.set i y) := by
  intro k x hx
  by_cases hi : i = k
  · subst hi
    have hlt : i < vs.length := by
      have := (List.getElem?_eq_some_iff.1 hx).1
      simpa using this
    rw [List.getElem?_set_self (by exact hlt)] at hx
    cases hx
    obtain ⟨q1, q2⟩ := h i _ (List.getElem?_eq_getElem hlt)
    exact ⟨World.cell?_setCell_same (w := W) (a := ⟨g, i, none⟩) (v := .bool y) q1, by simpa using q2⟩
  · rw [List.getElem?_set_ne hi] at hx
    obtain ⟨q1, q2⟩ := h k x hx
    refine ⟨?_, by simpa using q2⟩
    rw [World.cell?_setCell_other (w := W) (a := ⟨g, i, none⟩) (b := ⟨g, k, none⟩) (v := .bool y) (ne_addr (.inr (Ne.symm hi)))]
    exact q1
theorem NB.other {g b o : Nat} {W : World} {vs : List Bool} {v : Value} (h : NB g W vs) (hne : b ≠ g) : NB g (W.setCell ⟨b, o, none⟩ v) vs := by
  intro k x hx
  obtain ⟨q1, q2⟩ := h k x hx
  refine ⟨?_, by simpa using q2⟩
  rw [World.cell?_setCell_other (w := W) (a := ⟨b, o, none⟩) (b := ⟨g, k, none⟩) (v := v) (ne_addr (.inl (Ne.symm hne)))]
  exact q1
end Go.Proofs.Ytnoklbnacfmpdac
