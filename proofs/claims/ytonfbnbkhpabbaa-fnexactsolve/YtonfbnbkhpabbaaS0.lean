/- The specification's search: its memory. -/
import Derived.Test.YtonfbnbkhpabbaaN3
import Derived.Test.YtonfbnbkhpabbaaP1
import Derived.Test.YtonfbnbkhpabbaaV0
import Derived.Maps.AppendAt
namespace Go.Proofs.Ytonfbnbkhpabbaa
open Go Go.RowKit Gs
set_option linter.unusedVariables false
set_option linter.unusedSimpArgs false
set_option maxRecDepth 100000
/-- The fields of a search. -/
def XF (n : Nat) (cv : Value) (most k : Nat) (mv tv : Value) (ov : Bool) : Array Value := #[.int .i64 (n : Int), cv, .int .i64 (most : Int), .int .i64 (k : Int), mv, tv, .bool ov]
def XH (n : Nat) (cv : Value) (most xb k : Nat) (mv tv : Value) (ov : Bool) (W : World) : Prop := W.heap[xb]? = some (.cells (XF n cv most k mv tv ov) 38)
/-- Numbers in a row of one's own. -/
def IR (B : Nat) (W : World) (v : Value) (xs : List Int) : Prop := W.ownsRow B 3 1 v xs.length (iL xs)
/-- Rows of numbers in a row of one's own. -/
def TR (B : Nat) (W : World) (v : Value) (T : List (List Int)) : Prop := ∃ vals, W.ownsRow B 24 1 v T.length vals ∧ ∀ (i : Nat) z, T[i]? = some z → ∃ u, vals[i]? = some u ∧ IR B W u z
/-- Rows of numbers stay. -/
def KI (W W' : World) : Prop := ∀ (g : Nat) (o : Array Value), W.heap[g]? = some (.cells o 3) → W'.heap[g]? = some (.cells o 3)
theorem KI.refl (W : World) : KI W W := fun _ _ h => h
theorem KI.trans {a b c : World} (h : KI a b) (k : KI b c) : KI a c := fun g o hg => k g o (h g o hg)
theorem KI.below {W W' : World} (h : Below W.heap.size W W') : KI W W' := fun g o hg => (h.block g (heap_lt hg)).trans hg
theorem KI.set {W : World} {b i : Nat} {o : Array Value} {t : TypeId} {v : Value} (hb : W.heap[b]? = some (.cells o t)) (ht : t ≠ 3) : KI W (W.setCell ⟨b, i, none⟩ v) := fun g o' hg => (Below.heap_setCell W ⟨b, i, none⟩ v g (ty_ne hg hb (Ne.symm ht))).trans hg
theorem IR.keep {B : Nat} {W W' : World} {v : Value} {xs : List Int} (h : IR B W v xs) (hk : KI W W') : IR B W' v xs := ownsRow_keep h (fun g o _ hc => hk g o hc)
theorem IR.shape {B : Nat} {W : World} {v : Value} {xs : List Int} (h : IR B W v xs) : ∃ a c, v = .slice a xs.length c := by
  rcases h.2 with ⟨rfl, hn⟩ | ⟨g, cap, cur, rfl, _⟩
  · exact ⟨none, 0, by rw [hn]⟩
  · exact ⟨_, _, rfl⟩
theorem IR.cells {B : Nat} {W : World} {a : Option Addr} {l c : Nat} {xs : List Int} (h : IR B W (.slice a l c) xs) : ∀ (j : Nat) z, xs[j]? = some z → ∃ yb, a = some ⟨yb, 0, none⟩ ∧ W.cell? ⟨yb, j, none⟩ = some (.int .i64 z) := by
  intro j z hz
  rcases id h.2 with ⟨hv, hn⟩ | ⟨g, cap, cur, hv, _⟩
  · have := (List.getElem?_eq_some_iff.1 hz).1; omega
  · injection hv with e1 e2 e3
    subst e1
    refine ⟨g, rfl, ?_⟩
    have := World.ownsRow.cells h (g := g) rfl j (.int .i64 z) (by unfold iL; rw [List.getElem?_map, hz]; rfl)
    rw [Addr.add_lit] at this
    simpa using this
theorem IR.read {B : Nat} {W : World} {v : Value} {xs : List Int} (h : IR B W v xs) : RS 1 RInt W 0 xs v := by
  obtain ⟨a, c, rfl⟩ := h.shape
  have hc := fun j z hz => h.cells j z hz
  rcases id h.2 with ⟨hv, hn⟩ | ⟨g, cap, cur, hv, _, hg, hlc, hm, _⟩
  · have : xs = [] := List.length_eq_zero_iff.1 hn
    subst this
    exact RS.nil _ _ _ _ _ _
  · injection hv with e1 e2 e3
    subst e1 e3
    refine ⟨_, _, rfl, hlc, Nat.le_trans hlc hm, fun _ => ⟨g, 0, rfl, Nat.zero_le _, fun i x hx => ?_⟩⟩
    obtain ⟨yb, e, hcell⟩ := hc i x hx
    cases e
    refine ⟨[.int .i64 x], rfl, fun j y hj => ?_, rfl⟩
    have hj0 : j = 0 := by
      cases j with
      | zero => rfl
      | succ j => simp at hj
    subst hj0
    simp at hj
    subst hj
    simpa using hcell
theorem IR.lt {B : Nat} {W : World} {v : Value} {xs : List Int} (h : IR B W v xs) : ∀ j, v.ownBlock = some j → B ≤ j ∧ j < W.heap.size := fun j hj => World.ownsRow.lt h j hj
/-- A new row, with nothing in it. -/
theorem IR.new (w W : World) (B : Nat) (hB : B ≤ W.heap.size) : IR B (W.alloc (.cells #[] 3)) (.slice (some ⟨W.heap.size, 0, none⟩) 0 0) [] :=
  ⟨rfl, .inr ⟨W.heap.size, 0, #[], rfl, hB, heap_new _ _, Nat.le_refl _, Nat.zero_le _, by simp, rfl⟩⟩
theorem TR.nil (B : Nat) (W : World) : TR B W (.slice none 0 0) [] := ⟨[], ⟨rfl, .inl ⟨rfl, rfl⟩⟩, fun i z hz => by simp at hz⟩
theorem TR.keep {B : Nat} {W W' : World} {v : Value} {T : List (List Int)} (h : TR B W v T) (hk : KI W W') (hr : ∀ (g : Nat) (o : Array Value), v.ownBlock = some g → W.heap[g]? = some (.cells o 24) → W'.heap[g]? = some (.cells o 24)) : TR B W' v T := by
  obtain ⟨vals, h1, h2⟩ := h
  refine ⟨vals, ownsRow_keep h1 hr, fun i z hz => ?_⟩
  obtain ⟨u, e, hu⟩ := h2 i z hz
  exact ⟨u, e, hu.keep hk⟩
theorem TR.later {B : Nat} {W W' : World} {v : Value} {T : List (List Int)} (h : TR B W v T) (hb : Below W.heap.size W W') : TR B W' v T := h.keep (KI.below hb) (fun g o _ hg => (hb.block g (heap_lt hg)).trans hg)
theorem TR.set {B : Nat} {W : World} {v : Value} {T : List (List Int)} {b i : Nat} {o : Array Value} {t : TypeId} {x : Value} (h : TR B W v T) (hb : W.heap[b]? = some (.cells o t)) (ht : t ≠ 3) (ht2 : t ≠ 24) : TR B (W.setCell ⟨b, i, none⟩ x) v T := h.keep (KI.set hb ht) (fun g o' _ hg => (Below.heap_setCell W ⟨b, i, none⟩ x g (ty_ne hg hb (Ne.symm ht2))).trans hg)
theorem TR.shape {B : Nat} {W : World} {v : Value} {T : List (List Int)} (h : TR B W v T) : ∃ a c, v = .slice a T.length c := by
  obtain ⟨vals, h1, _⟩ := h
  rcases h1.2 with ⟨rfl, hn⟩ | ⟨g, cap, cur, rfl, _⟩
  · exact ⟨none, 0, by rw [hn]⟩
  · exact ⟨_, _, rfl⟩
theorem TR.read {B : Nat} {W : World} {v : Value} {T : List (List Int)} (h : TR B W v T) : RS 1 RIntS W 0 T v := by
  obtain ⟨vals, h1, h2⟩ := h
  have hc := fun g hg => World.ownsRow.cells h1 (g := g) hg
  rcases h1.2 with ⟨rfl, hn⟩ | ⟨g, cap, cur, rfl, _, hg, hlc, hm, _⟩
  · have : T = [] := List.length_eq_zero_iff.1 hn
    subst this
    exact RS.nil _ _ _ _ _ _
  · refine ⟨_, _, rfl, hlc, Nat.le_trans hlc hm, fun _ => ⟨g, 0, rfl, Nat.zero_le _, fun i x hx => ?_⟩⟩
    obtain ⟨u, hu, hr⟩ := h2 i x hx
    refine ⟨[u], rfl, fun j y hj => ?_, u, rfl, hr.read⟩
    have hj0 : j = 0 := by
      cases j with
      | zero => rfl
      | succ j => simp at hj
    subst hj0
    simp at hj
    subst hj
    have := hc g rfl i _ hu
    rw [Addr.add_lit] at this
    simpa using this
/-- One more row. -/
theorem TR.snoc {B : Nat} {W W' : World} {v v' u : Value} {T : List (List Int)} {z : List Int} (h : TR B W v T) (hu : IR B W u z) (hown : ∀ vals, W.ownsRow B 24 1 v T.length vals → W'.ownsRow B 24 1 v' (T.length + 1) (vals ++ [u])) (hk : KI W W') : TR B W' v' (T ++ [z]) := by
  obtain ⟨vals, h1, h2⟩ := h
  refine ⟨vals ++ [u], by rw [List.length_append]; exact hown vals h1, fun i y hy => ?_⟩
  have hvl : vals.length = T.length := by have := h1.1; omega
  by_cases hi : i < T.length
  · rw [List.getElem?_append_left hi] at hy
    obtain ⟨u', e, hr⟩ := h2 i y hy
    exact ⟨u', by rw [List.getElem?_append_left (by omega)]; exact e, hr.keep hk⟩
  · rw [List.getElem?_append_right (by omega)] at hy
    have hi0 : i - T.length = 0 := by
      have := (List.getElem?_eq_some_iff.1 hy).1
      simp at this; omega
    rw [hi0] at hy
    simp at hy; subst hy
    exact ⟨u, by rw [List.getElem?_append_right (by omega), hvl, hi0]; rfl, hu.keep hk⟩
theorem TR.add {B : Nat} {W W' : World} {v v' u : Value} {T : List (List Int)} {z : List Int} {vals : List Value} (h1 : W.ownsRow B 24 1 v T.length vals) (h2 : ∀ (i : Nat) z, T[i]? = some z → ∃ u, vals[i]? = some u ∧ IR B W u z) (hu : IR B W u z) (hown : W'.ownsRow B 24 1 v' (T.length + 1) (vals ++ [u])) (hk : KI W W') : TR B W' v' (T ++ [z]) := by
  refine ⟨vals ++ [u], by rw [List.length_append]; exact hown, fun i y hy => ?_⟩
  have hvl : vals.length = T.length := by have := h1.1; omega
  by_cases hi : i < T.length
  · rw [List.getElem?_append_left hi] at hy
    obtain ⟨u', e, hr⟩ := h2 i y hy
    exact ⟨u', by rw [List.getElem?_append_left (by omega)]; exact e, hr.keep hk⟩
  · rw [List.getElem?_append_right (by omega)] at hy
    have hi0 : i - T.length = 0 := by
      have := (List.getElem?_eq_some_iff.1 hy).1
      simp at this; omega
    rw [hi0] at hy
    simp at hy; subst hy
    exact ⟨u, by rw [List.getElem?_append_right (by omega), hvl, hi0]; rfl, hu.keep hk⟩
theorem IR.low {B B' : Nat} {W : World} {v : Value} {xs : List Int} (h : IR B W v xs) (hb : B' ≤ B) : IR B' W v xs := by
  obtain ⟨h1, h2 | ⟨g, cap, cur, hv, hg, rest⟩⟩ := h
  · exact ⟨h1, .inl h2⟩
  · exact ⟨h1, .inr ⟨g, cap, cur, hv, Nat.le_trans hb hg, rest⟩⟩
theorem KI.grown {W W' : World} {v : Value} {B n : Nat} {e : TypeId} {vals : List Value} (h : W.ownsRow B e 1 v n vals) (he : e ≠ 3) (hg : W.grownBy W' v.ownBlock) : KI W W' := fun g o hc => by
  refine (hg.block g (heap_lt hc) ?_).trans hc
  intro e2
  obtain ⟨o', h2⟩ := own_ty h e2.symm
  exact ty_ne hc h2 (Ne.symm he) rfl
theorem XH.grown {n : Nat} {cv : Value} {most xb k : Nat} {mv tv : Value} {ov : Bool} {W W' : World} (h : XH n cv most xb k mv tv ov W) {v : Value} {B m : Nat} {e : TypeId} {vals : List Value} (ho : W.ownsRow B e 1 v m vals) (he : e ≠ 38) (hg : W.grownBy W' v.ownBlock) : XH n cv most xb k mv tv ov W' := by
  refine (hg.block xb (heap_lt h) ?_).trans h
  intro e2
  obtain ⟨o', h2⟩ := own_ty ho e2.symm
  exact ty_ne h h2 (Ne.symm he) rfl
theorem info24 : (Try.prog.info? 24).map (fun i => (i.zero, i.size, i.bytes)) = some (some (.slice none 0 0), 1, 24) := by kernel_rfl
theorem at_slice (w : World) (v : Value) (g : Nat) (hg : g = w.heap.size) : ∀ j u, [v][j]? = some u → (w.alloc (.cells #[v] 24)).cell? ((⟨g, 0, none⟩ : Addr).add j) = some u := by
  intro j u hj
  match j, hj with
  | 0, hj => simp at hj; subst hj; subst hg; simp [Addr.add]
  | j + 1, hj => simp at hj
theorem negs_take {D : List Int} {j : Nat} {z : Int} (h : D[j]? = some z) : negs (D.take (j + 1)) = negs (D.take j) ++ [-z] := by
  unfold negs; rw [List.take_add_one, h]; simp
section
variable {n : Nat} {cv : Value} {most xb k : Nat} {mv tv : Value} {ov : Bool} {W : World}
theorem XH.cell (h : XH n cv most xb k mv tv ov W) (i : Nat) (v : Value) (hi : (XF n cv most k mv tv ov)[i]? = some v) : W.cell? ⟨xb, i, none⟩ = some v := by
  unfold XH at h
  simp only [World.cell?, h]; exact hi
theorem XH.frz (h : XH n cv most xb k mv tv ov W) (i : Nat) : W.frozen? ⟨xb, i, none⟩ = false := by
  unfold XH at h
  simp [World.frozen?, h]
theorem XH.c0 (h : XH n cv most xb k mv tv ov W) : W.cell? ⟨xb, 0, none⟩ = some (.int .i64 (n : Int)) := h.cell 0 _ rfl
theorem XH.c1 (h : XH n cv most xb k mv tv ov W) : W.cell? ⟨xb, 1, none⟩ = some cv := h.cell 1 _ rfl
theorem XH.c2 (h : XH n cv most xb k mv tv ov W) : W.cell? ⟨xb, 2, none⟩ = some (.int .i64 (most : Int)) := h.cell 2 _ rfl
theorem XH.c3 (h : XH n cv most xb k mv tv ov W) : W.cell? ⟨xb, 3, none⟩ = some (.int .i64 (k : Int)) := h.cell 3 _ rfl
theorem XH.c4 (h : XH n cv most xb k mv tv ov W) : W.cell? ⟨xb, 4, none⟩ = some mv := h.cell 4 _ rfl
theorem XH.c5 (h : XH n cv most xb k mv tv ov W) : W.cell? ⟨xb, 5, none⟩ = some tv := h.cell 5 _ rfl
theorem XH.c6 (h : XH n cv most xb k mv tv ov W) : W.cell? ⟨xb, 6, none⟩ = some (.bool ov) := h.cell 6 _ rfl
theorem XH.later (h : XH n cv most xb k mv tv ov W) {W' : World} (hb : Below W.heap.size W W') : XH n cv most xb k mv tv ov W' := (hb.block xb (heap_lt h)).trans h
theorem XH.work (h : XH n cv most xb k mv tv ov W) : XH n cv most xb (k + 1) mv tv ov (W.setCell ⟨xb, 3, none⟩ (.int .i64 ((k : Int) + 1))) := by
  unfold XH; rw [heap_set h]; rfl
theorem XH.over (h : XH n cv most xb k mv tv ov W) : XH n cv most xb k mv tv true (W.setCell ⟨xb, 6, none⟩ (.bool true)) := by
  unfold XH; rw [heap_set h]; rfl
theorem XH.trace (h : XH n cv most xb k mv tv ov W) (tv' : Value) : XH n cv most xb k mv tv' ov (W.setCell ⟨xb, 5, none⟩ tv') := by
  unfold XH; rw [heap_set h]; rfl
theorem XH.model (h : XH n cv most xb k mv tv ov W) (mv' : Value) : XH n cv most xb k mv' tv ov (W.setCell ⟨xb, 4, none⟩ mv') := by
  unfold XH; rw [heap_set h]; rfl
end
/-- What a search leaves. -/
def SQ (B n : Nat) (w : World) (cv : Value) (most xb : Nat) (Cl : List (List Int)) (D : List Int) (k0 : Nat) (T0 : List (List Int)) (W : World) (e : Ending) (W' : World) : Prop :=
  Below B w W' ∧ KI W W' ∧ W.heap.size ≤ W'.heap.size ∧
  ((e = .returned (.bool false) ∧ (∃ k mv tv, XH n cv most xb k mv tv true W') ∧ Vs n most Cl true D k0 T0 .over) ∨
   (e = .returned (.bool true) ∧ ∃ k m mv tv, XH n cv most xb k mv tv false W' ∧ IR B W' mv m ∧ Vs n most Cl true D k0 T0 (.sat m k)) ∨
   (e = .returned (.bool false) ∧ ∃ k tv T, XH n cv most xb k (.slice none 0 0) tv false W' ∧ TR B W' tv T ∧ k0 < k ∧ k ≤ most ∧ T.length + k0 = T0.length + k ∧ ∀ R, Vs n most Cl false D k T R → Vs n most Cl true D k0 T0 R))
end Go.Proofs.Ytonfbnbkhpabbaa
