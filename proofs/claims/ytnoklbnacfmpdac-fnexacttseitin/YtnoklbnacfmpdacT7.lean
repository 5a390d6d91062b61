/- The state of the program's Tseitin between two ands. -/
import Derived.Test.YtnoklbnacfmpdacT3
import Derived.Test.YtnoklbnacfmpdacT6
namespace Go.Proofs.Ytnoklbnacfmpdac
open Go Go.RowKit Gs
set_option linter.unusedVariables false
set_option linter.unusedSimpArgs false
set_option maxRecDepth 100000
/-- What stays: cells in blocks of other types than rows of slices and the cell that holds one. -/
structure TSt (w : World) (b7 b b2 b3 g b9 : Nat) (s3 : Option Addr) (xs : List AndG) (c3 FA N : Nat) (ns : List Bool) (W : World) : Prop where
  below : Below w.heap.size w W
  lo : w.heap.size ≤ b9
  c7 : W.cell? ⟨b7, 0, none⟩ = some (.int .i64 (FA : Int))
  cb : W.cell? ⟨b, 3, none⟩ = some (.slice s3 xs.length c3)
  cb2 : W.cell? ⟨b2, 0, none⟩ = some (.slice (some ⟨g, 0, none⟩) N N)
  cb3 : W.cell? ⟨b3, 0, none⟩ = some (.int .i64 (FA : Int))
  nb : NB g W ns
  ty : TB W b7 3 ∧ TB W b 36 ∧ TB W b2 49 ∧ TB W b3 3 ∧ TB W g 4 ∧ TB W b9 29
  fz : W.frozen? ⟨b9, 0, none⟩ = false
/-- And the clauses so far. -/
def TS (w : World) (b7 b b2 b3 g b9 : Nat) (s3 : Option Addr) (xs : List AndG) (c3 FA N : Nat) (ns : List Bool) (cs : List (List Int)) (W : World) : Prop :=
  TSt w b7 b b2 b3 g b9 s3 xs c3 FA N ns W ∧ ∃ v E, W.cell? ⟨b9, 0, none⟩ = some v ∧ CP w.heap.size E W v cs
section
variable {w : World} {b7 b b2 b3 g b9 : Nat} {s3 : Option Addr} {xs : List AndG} {c3 FA N : Nat} {ns : List Bool} {cs : List (List Int)} {W W' : World}
theorem TB.cell {t : TypeId} (h : TB W b t) (hk : W'.heap[b]? = W.heap[b]?) (o : Nat) : W'.cell? ⟨b, o, none⟩ = W.cell? ⟨b, o, none⟩ := World.cell?_of_block (a := ⟨b, o, none⟩) hk
theorem frz (hk : W'.heap[b]? = W.heap[b]?) (o : Nat) : W'.frozen? ⟨b, o, none⟩ = W.frozen? ⟨b, o, none⟩ := World.frozen?_of_block (a := ⟨b, o, none⟩) hk
/-- What holds where these blocks stay. -/
theorem TSt.keep (h : TSt w b7 b b2 b3 g b9 s3 xs c3 FA N ns W) (hb : Below w.heap.size w W') (hk : ∀ k t, TB W k t → t ≠ 51 → W'.heap[k]? = W.heap[k]?) : TSt w b7 b b2 b3 g b9 s3 xs c3 FA N ns W' := by
  obtain ⟨t7, tb, t2, t3, tg, t9⟩ := h.ty
  have k7 := hk _ _ t7 (by decide)
  have kb := hk _ _ tb (by decide)
  have k2 := hk _ _ t2 (by decide)
  have k3 := hk _ _ t3 (by decide)
  have kg := hk _ _ tg (by decide)
  have k9 := hk _ _ t9 (by decide)
  refine ⟨hb, h.lo, (World.cell?_of_block (a := ⟨b7, 0, none⟩) k7).trans h.c7, (World.cell?_of_block (a := ⟨b, 3, none⟩) kb).trans h.cb, (World.cell?_of_block (a := ⟨b2, 0, none⟩) k2).trans h.cb2, (World.cell?_of_block (a := ⟨b3, 0, none⟩) k3).trans h.cb3, fun i x hx => ⟨(World.cell?_of_block (a := ⟨g, i, none⟩) kg).trans (h.nb i x hx).1, (World.frozen?_of_block (a := ⟨g, i, none⟩) kg).trans (h.nb i x hx).2⟩, ⟨?_, ?_, ?_, ?_, ?_, ?_⟩, (World.frozen?_of_block (a := ⟨b9, 0, none⟩) k9).trans h.fz⟩
  · obtain ⟨o, f, e⟩ := t7; exact ⟨o, f, k7.trans e⟩
  · obtain ⟨o, f, e⟩ := tb; exact ⟨o, f, kb.trans e⟩
  · obtain ⟨o, f, e⟩ := t2; exact ⟨o, f, k2.trans e⟩
  · obtain ⟨o, f, e⟩ := t3; exact ⟨o, f, k3.trans e⟩
  · obtain ⟨o, f, e⟩ := tg; exact ⟨o, f, kg.trans e⟩
  · obtain ⟨o, f, e⟩ := t9; exact ⟨o, f, k9.trans e⟩
theorem TB.lt {t : TypeId} (h : TB W b t) : b < W.heap.size := by
  obtain ⟨o, f, h⟩ := h
  exact (Array.getElem?_eq_some_iff.1 h).1
theorem TSt.later (h : TSt w b7 b b2 b3 g b9 s3 xs c3 FA N ns W) (hb : Below W.heap.size W W') : TSt w b7 b b2 b3 g b9 s3 xs c3 FA N ns W' :=
  h.keep (btr h.below hb) (fun k t ht _ => hb.block k ht.lt)
theorem TSt.near {B0 : Nat} (h : TSt w b7 b b2 b3 g b9 s3 xs c3 FA N ns W) (hb : Near B0 W W') (hB : w.heap.size ≤ B0) : TSt w b7 b b2 b3 g b9 s3 xs c3 FA N ns W' :=
  h.keep (h.below.trans (hb.under hB h.below.size)) (fun k t ht _ => by obtain ⟨o, f, e⟩ := ht; exact (hb.block k _ e (.inr rfl)).trans e.symm)
theorem TS.later (h : TS w b7 b b2 b3 g b9 s3 xs c3 FA N ns cs W) (hb : Below W.heap.size W W') : TS w b7 b b2 b3 g b9 s3 xs c3 FA N ns cs W' := by
  obtain ⟨h1, v, E, h2, h3⟩ := h
  exact ⟨h1.later hb, v, E, cell_later hb h2, h3.later hb⟩
theorem TS.near {B0 : Nat} (h : TS w b7 b b2 b3 g b9 s3 xs c3 FA N ns cs W) (hb : Near B0 W W') (hB : w.heap.size ≤ B0) : TS w b7 b b2 b3 g b9 s3 xs c3 FA N ns cs W' := by
  obtain ⟨h1, v, E, h2, h3⟩ := h
  exact ⟨h1.near hb hB, v, E, hb.cell h2, h3.near hb⟩
/-- An append to the row. -/
theorem TSt.grown {v : Value} {n : Nat} {vs : List Value} (h : TSt w b7 b b2 b3 g b9 s3 xs c3 FA N ns W) (hown : W.ownsRow w.heap.size 51 1 v n vs) (hg : W.grownBy W' v.ownBlock) : TSt w b7 b b2 b3 g b9 s3 xs c3 FA N ns W' := by
  refine h.keep (below_grown h.below hg h.below.size (fun j hj => (World.ownsRow.lt hown j hj).1)) (fun k t ht hne => ?_)
  refine hg.block k ht.lt ?_
  intro e
  rcases hown.2 with ⟨rfl, _⟩ | ⟨r, cap, cur, rfl, _, hgc, _⟩
  · cases e
  · have : k = r := by
      have : some k = some r := e
      injection this
    subst this
    obtain ⟨o, f, ht⟩ := ht
    rw [hgc] at ht
    injection ht with h1
    injection h1 with _ h3 _
    exact hne h3.symm
/-- What came of it is stored. -/
theorem TS.store {v c9 : Value} {E : Nat} (hc9 : W.cell? ⟨b9, 0, none⟩ = some c9) (h : TSt w b7 b b2 b3 g b9 s3 xs c3 FA N ns W) (hcp : CP w.heap.size E W v cs) : TS w b7 b b2 b3 g b9 s3 xs c3 FA N ns cs (W.setCell ⟨b9, 0, none⟩ v) := by
  obtain ⟨t7, tb, t2, t3, tg, t9⟩ := h.ty
  have hne : ∀ k t, TB W k t → t ≠ 29 → k ≠ b9 := fun k t ht hn e => by
    subst e
    obtain ⟨o, f, e1⟩ := ht
    obtain ⟨o', f', e2⟩ := t9
    rw [e1] at e2
    injection e2 with h1
    injection h1 with _ h3 _
    exact hn h3
  have hs : ∀ k t, TB W k t → t ≠ 29 → (W.setCell ⟨b9, 0, none⟩ v).heap[k]? = W.heap[k]? := fun k t ht hn => Below.heap_setCell W ⟨b9, 0, none⟩ v k (hne k t ht hn)
  have k7 := hs _ _ t7 (by decide)
  have kb := hs _ _ tb (by decide)
  have k2 := hs _ _ t2 (by decide)
  have k3 := hs _ _ t3 (by decide)
  have kg := hs _ _ tg (by decide)
  refine ⟨⟨bst h.below (a := ⟨b9, 0, none⟩) h.lo v, h.lo, (World.cell?_of_block (a := ⟨b7, 0, none⟩) k7).trans h.c7, (World.cell?_of_block (a := ⟨b, 3, none⟩) kb).trans h.cb, (World.cell?_of_block (a := ⟨b2, 0, none⟩) k2).trans h.cb2, (World.cell?_of_block (a := ⟨b3, 0, none⟩) k3).trans h.cb3, fun i x hx => ⟨(World.cell?_of_block (a := ⟨g, i, none⟩) kg).trans (h.nb i x hx).1, (World.frozen?_of_block (a := ⟨g, i, none⟩) kg).trans (h.nb i x hx).2⟩, ⟨t7.set, tb.set, t2.set, t3.set, tg.set, t9.set⟩, by simpa using h.fz⟩, v, E, World.cell?_setCell_same (w := W) (a := ⟨b9, 0, none⟩) (v := v) hc9, ?_⟩
  obtain ⟨h0, vs, h1, h2⟩ := hcp
  refine ⟨by simpa using h0, vs, ownsRow_keep h1 (fun r o _ hc => (hs r 51 ⟨o, _, hc⟩ (by decide)).trans hc), RI.keep cs vs (fun r o _ _ hc => (hs r 3 ⟨o, _, hc⟩ (by decide)).trans hc) h2⟩
end
end Go.Proofs.Ytnoklbnacfmpdac
