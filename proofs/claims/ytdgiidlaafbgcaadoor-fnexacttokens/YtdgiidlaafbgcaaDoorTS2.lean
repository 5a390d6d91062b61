/- The specification's Tokens: what its loop keeps. -/
import Derived.Test.YtdgiidlaafbgcaaDoorTL5
namespace Go.Proofs.YtdgiidlaafbgcaaDoor
open Go.RowKit
set_option linter.unusedVariables false
theorem OT_lit (B : Nat) (W V : World) (g : Nat) (hB : B ≤ g) (h : V.heap[g]? = some (.cells #[] 31 (0, 0))) : OT B (.slice (some ⟨g, 0, none⟩) 0 0) [] V :=
  ⟨rfl, .inr ⟨g, 0, #[], rfl, hB, h, Nat.le_refl _, Nat.zero_le _, rfl, rfl⟩⟩
theorem sTooLong (s : ByteArray) (w : World) (hs : s.size ≤ maxLen) (h : 65536 < s.size) :
    Calls Tryd.prog 4 #[.string s] w fun e w' => (∃ v, e = .returned (.tuple #[v, .int .i64 2, .int .i64 0]) ∧ OT w.heap.size v [] w') ∧ Below w.heap.size w w' := by
  unfold maxLen at hs
  go_enter Tryd.func4, Tryd.ntmps4
  go_wp2
  exact bodyPost_ret (v := .tuple #[.slice (some ⟨w.heap.size, 0, none⟩) 0 0, .int .i64 2, .int .i64 0]) (by simp [results, Tryd.results4, go_sem]) rfl ⟨⟨_, rfl, OT_lit _ w _ _ (Nat.le_refl _) (World.alloc_heap_new w _)⟩, bal (brf w) _⟩
set_option maxRecDepth 100000 in
set_option maxHeartbeats 400000 in
theorem sMarksB (w : World) :
    Calls Tryd.prog 9 #[] w fun e w' => e = .returned (.slice (some ⟨w.heap.size, 0, none⟩) 36 36) ∧ Below w.heap.size w w' ∧ w'.heap[w.heap.size]? = some (.cells mksV.toArray 9 (0, 0)) := by
  go_enter Tryd.func9, Tryd.ntmps9
  go_wp2
  go_ret
  refine ⟨rfl, bal (brf w) _, ?_⟩
  exact World.alloc_heap_new w (.cells mksV.toArray 9)
/-- What the loop keeps: the row of its own, the empty row, the marks. -/
def SI (w : World) (v : Value) (out : List Nb.Tk) (W : World) : Prop :=
  OT (w.heap.size + 1) v out W ∧ W.heap[w.heap.size]? = some (.cells #[] 31 (0, 0)) ∧ W.heap[w.heap.size + 1 + 1]? = some (.cells mksV.toArray 9 (0, 0)) ∧ Below w.heap.size w W
theorem heap_later {W W' : World} {k : Nat} {o : Obj} (h : W.heap[k]? = some o) (hb : Below W.heap.size W W') : W'.heap[k]? = some o := (hb.block k (Array.getElem?_eq_some_iff.1 h).1).trans h
theorem SI_later {w W W' : World} {v : Value} {out : List Nb.Tk} (h : SI w v out W) (hb : Below W.heap.size W W') : SI w v out W' :=
  ⟨ownsRow_later h.1 hb, heap_later h.2.1 hb, heap_later h.2.2.1 hb, below_step h.2.2.2 hb⟩
theorem own_ne {B : Nat} {v : Value} {ts : List Nb.Tk} {W : World} {k : Nat} {c : Array Value} (h : OT B v ts W) (hk : W.heap[k]? = some (.cells c 9 (0, 0))) : some k ≠ v.ownBlock := by
  rcases h.2 with ⟨rfl, _⟩ | ⟨g, cap, cur, rfl, hg, hc, _⟩
  · intro e; cases e
  · intro e
    have : k = g := by injection e
    subst this
    rw [hk] at hc
    simp at hc
theorem SI_grow {w W W' : World} {v v' : Value} {out : List Nb.Tk} {t : Nb.Tk} (h : SI w v out W) (ho : W'.ownsRow (w.heap.size + 1) 31 3 v' (out.length + 1) (tkC out ++ [.int .i64 (t.kind : Nat), .string (S t.text), .int .i64 (t.at_ : Nat)])) (hg : W.grownBy W' v.ownBlock) : SI w v' (out ++ [t]) W' := by
  obtain ⟨h1, h2, h3, h4⟩ := h
  have hlt := World.ownsRow.lt h1
  refine ⟨OT_step ho, (hg.block _ (Array.getElem?_eq_some_iff.1 h2).1 ?_).trans h2, (hg.block _ (Array.getElem?_eq_some_iff.1 h3).1 (own_ne h1 h3)).trans h3, ?_⟩
  · intro e
    have := (hlt _ e.symm).1
    omega
  · exact h4.grown hg h4.size (fun k hk => by have := (hlt k hk).1; omega)
theorem SI_start (w V : World) (hb : Below ((w.alloc (.cells #[] 31)).alloc (.cells #[] 31)).heap.size ((w.alloc (.cells #[] 31)).alloc (.cells #[] 31)) V) (hm : V.heap[((w.alloc (.cells #[] 31)).alloc (.cells #[] 31)).heap.size]? = some (.cells mksV.toArray 9 (0, 0))) : SI w (.slice (some ⟨w.heap.size + 1, 0, none⟩) 0 0) [] V := by
  have z : (w.alloc (.cells #[] 31)).heap.size = w.heap.size + 1 := by simp
  have b1 : ((w.alloc (.cells #[] 31)).alloc (.cells #[] 31)).heap[w.heap.size]? = some (.cells #[] 31 (0, 0)) := heap_later (World.alloc_heap_new w _) (bal (brf _) _)
  have b2 : ((w.alloc (.cells #[] 31)).alloc (.cells #[] 31)).heap[w.heap.size + 1]? = some (.cells #[] 31 (0, 0)) := by rw [← z]; exact World.alloc_heap_new _ _
  refine ⟨OT_lit _ w _ _ (Nat.le_refl _) (heap_later b2 hb), heap_later b1 hb, ?_, btr (bal (bal (brf w) _) _) hb⟩
  rw [show w.heap.size + 1 + 1 = ((w.alloc (.cells #[] 31)).alloc (.cells #[] 31)).heap.size by simp]
  exact hm
theorem SI_none {w W : World} {v : Value} {out : List Nb.Tk} (h : SI w v out W) {V : World} (hb : Below W.heap.size W V) : OT w.heap.size (.slice (some ⟨w.heap.size, 0, none⟩) 0 0) [] V := OT_lit _ w _ _ (Nat.le_refl _) (heap_later h.2.1 hb)
theorem SI_own {w W : World} {v : Value} {out : List Nb.Tk} (h : SI w v out W) : OT w.heap.size v out W := by
  obtain ⟨h1, h2⟩ := h.1
  refine ⟨h1, ?_⟩
  rcases h2 with h2 | ⟨g, cap, cur, hv, hg, rest⟩
  · exact .inl h2
  · exact .inr ⟨g, cap, cur, hv, by omega, rest⟩
theorem SI_mark {w W : World} {v : Value} {out : List Nb.Tk} (h : SI w v out W) (k : Nat) (hk : k < 36) : W.cell? ⟨w.heap.size + 1 + 1, k, none⟩ = some (.string (S (Nb.marksL.getD k []))) := by
  have := mksV_at k hk
  unfold World.cell?
  simp only [h.2.2.1]
  simpa using this
theorem SI_size {w W : World} {v : Value} {out : List Nb.Tk} (h : SI w v out W) : w.heap.size + 1 ≤ W.heap.size := (Array.getElem?_eq_some_iff.1 h.2.1).1
theorem SI_shape {w W : World} {v : Value} {out : List Nb.Tk} (h : SI w v out W) : ∃ (c1 : Option Addr) (c2 : Nat), v = .slice c1 out.length c2 := by
  rcases h.1.2 with ⟨hv, hn⟩ | ⟨g, cap, cur, hv, _⟩
  · exact ⟨none, 0, by rw [hv, hn]⟩
  · exact ⟨some ⟨g, 0, none⟩, cap, hv⟩
theorem pre_is (s : ByteArray) (a : Nat) (m : List UInt8) : m.isPrefixOf ((L s).drop a) = true ↔ s.extract a (a + m.length) = S m := by
  rw [List.isPrefixOf_iff_prefix, List.prefix_iff_eq_take]
  constructor
  · intro h; apply L_inj; rw [L_extract, L_S, show a + m.length - a = m.length by omega]; exact h.symm
  · intro h; have := congrArg L h; rw [L_extract, L_S, show a + m.length - a = m.length by omega] at this; exact this.symm
theorem pre_len (s : ByteArray) (a : Nat) (m : List UInt8) (ha : a ≤ s.size) (h : m.isPrefixOf ((L s).drop a) = true) : a + m.length ≤ s.size := by
  have := (List.isPrefixOf_iff_prefix.1 h).length_le
  rw [List.length_drop, L_len] at this; omega
theorem drewN_heap (W : World) (n : Nat) : (W.drewN n).heap = W.heap := by simp
theorem below_drewN {w W : World} (h : Below w.heap.size w W) (n : Nat) : Below w.heap.size w (W.drewN n) := h.trans ⟨rfl, rfl, rfl, Nat.le_refl _, fun _ _ => rfl⟩
theorem eqS_t {x y : ByteArray} (h : x = y) : (x.toList == y.toList) = true := by subst h; simp
theorem eqS_f {x y : ByteArray} (h : x ≠ y) : (x.toList == y.toList) = false := by
  rw [beq_eq_false_iff_ne]; intro e; apply h
  apply L_inj
  rw [ByteArray.toList_eq, ByteArray.toList_eq] at e
  exact e
/-- A token of three cells at a block. -/
theorem T3 {W : World} {b : Nat} {x y z : Value} (h : W.heap[b]? = some (.cells #[x, y, z] 31 (0, 0))) : W.cell? ⟨b, 0, none⟩ = some x ∧ W.cell? ⟨b, 1, none⟩ = some y ∧ W.cell? ⟨b, 2, none⟩ = some z ∧ W.frozen? ⟨b, 0, none⟩ = false ∧ W.frozen? ⟨b, 1, none⟩ = false ∧ W.frozen? ⟨b, 2, none⟩ = false := by
  unfold World.cell? World.frozen?
  simp only [h]
  simp
end Go.Proofs.YtdgiidlaafbgcaaDoor
