/- knownVec; readsNothing and like of a cell. -/
import Derived.Test.YtaamibonpmijaaaGreatIa
import Derived.Test.YtaamibonpmijaaaGreatMa
import Derived.Test.YtaamibonpmijaaaGreatGS2
import Derived.RegionTactic
import Derived.BigQuiet
namespace Go.Proofs.YtaamibonpmijaaaGreat
open Go.RowKit Gs
set_option linter.unusedVariables false
set_option maxRecDepth 100000
theorem kv_cells {w W1 : World} (hb1 : Below (w.alloc (.cells #[.int .i64 0, .int .u64 0, .int .u64 0] 122)).heap.size (w.alloc (.cells #[.int .i64 0, .int .u64 0, .int .u64 0] 122)) W1) :
    (W1.cell? ⟨w.heap.size, 0, none⟩ = some (.int .i64 0) ∧ W1.cell? ⟨w.heap.size, 1, none⟩ = some (.int .u64 0) ∧ W1.cell? ⟨w.heap.size, 2, none⟩ = some (.int .u64 0)) ∧ (W1.frozen? ⟨w.heap.size, 0, none⟩ = false ∧ W1.frozen? ⟨w.heap.size, 1, none⟩ = false ∧ W1.frozen? ⟨w.heap.size, 2, none⟩ = false) ∧ w.heap.size < W1.heap.size ∧ Below w.heap.size w W1 := by
  have hsz : (w.alloc (.cells #[.int .i64 0, .int .u64 0, .int .u64 0] 122)).heap.size = w.heap.size + 1 := by go_simp
  have h1 := hb1.size
  refine ⟨⟨cell_later hb1 (by go_simp), cell_later hb1 (by go_simp), cell_later hb1 (by go_simp)⟩, ⟨((bcell hb1).2 _ _ (by omega)).trans (by go_simp), ((bcell hb1).2 _ _ (by omega)).trans (by go_simp), ((bcell hb1).2 _ _ (by omega)).trans (by go_simp)⟩, by omega, btr (bal (brf w) _) hb1⟩
theorem iKnownVec_no (s : ByteArray) (w : World) (hs : s.size ≤ maxLen) (h : Vb.okV (L s) = false) : Calls Tryz.prog 68 #[.string s] w fun e w' => e = .returned (.tuple #[V 0 0#64 0#64, .bool false]) ∧ Below w.heap.size w w' := by
  go_enter Tryz.func68, Tryz.ntmps68
  go_wp2_with (go_at_call 90; refine (iVecOf_no s _ hs h).mono ?_; rintro e W1 ⟨rfl, hb1⟩; obtain ⟨⟨c0, c1, c2⟩, ⟨f0, f1, f2⟩, hlt, hb⟩ := kv_cells hb1; have HB := hide hb; clear hb1 hb; unfold V)
  go_region
  go_wp2
  exact bodyPost_ret (v := .tuple #[V 0 0#64 0#64, .bool false]) (by simp [results, Tryz.results68, go_sem, V, c0, c1, c2, hlt]) rfl ⟨rfl, bdr (bal (bst (bst (bst (unhide HB) (Nat.le_refl _) _) (Nat.le_refl _) _) (Nat.le_refl _) _) _)⟩
theorem kv_after {w W1 W2 : World} {x0 x1 x2 : Value} (c0 : W1.cell? ⟨w.heap.size, 0, none⟩ = some (.int .i64 0)) (c1 : W1.cell? ⟨w.heap.size, 1, none⟩ = some (.int .u64 0)) (c2 : W1.cell? ⟨w.heap.size, 2, none⟩ = some (.int .u64 0)) (f0 : W1.frozen? ⟨w.heap.size, 0, none⟩ = false) (f1 : W1.frozen? ⟨w.heap.size, 1, none⟩ = false) (f2 : W1.frozen? ⟨w.heap.size, 2, none⟩ = false) (hlt : w.heap.size < W1.heap.size) (HB : Hid (Below w.heap.size w W1))
    (hb2 : Below (W1.alloc (.cells #[x0, x1, x2] 122)).drew.heap.size (W1.alloc (.cells #[x0, x1, x2] 122)).drew W2) :
    (W2.cell? ⟨w.heap.size, 0, none⟩ = some (.int .i64 0) ∧ W2.cell? ⟨w.heap.size, 1, none⟩ = some (.int .u64 0) ∧ W2.cell? ⟨w.heap.size, 2, none⟩ = some (.int .u64 0)) ∧ (W2.frozen? ⟨w.heap.size, 0, none⟩ = false ∧ W2.frozen? ⟨w.heap.size, 1, none⟩ = false ∧ W2.frozen? ⟨w.heap.size, 2, none⟩ = false) ∧ (W2.cell? ⟨W1.heap.size, 0, none⟩ = some x0 ∧ W2.cell? ⟨W1.heap.size, 1, none⟩ = some x1 ∧ W2.cell? ⟨W1.heap.size, 2, none⟩ = some x2) ∧ Below w.heap.size w W2 := by
  have hb := unhide HB
  have hbd : Below W1.heap.size W1 W2 := btr (bdr (bal (brf W1) _)) hb2
  refine ⟨⟨cell_later hbd c0, cell_later hbd c1, cell_later hbd c2⟩, ⟨((bcell hbd).2 _ _ hlt).trans f0, ((bcell hbd).2 _ _ hlt).trans f1, ((bcell hbd).2 _ _ hlt).trans f2⟩, ⟨cell_later hb2 (by go_simp), cell_later hb2 (by go_simp), cell_later hb2 (by go_simp)⟩, btr hb hbd⟩
theorem iKnownVec (s : ByteArray) (w : World) (hs : s.size ≤ maxLen) (h : Vb.okV (L s) = true) : Calls Tryz.prog 68 #[.string s] w fun e w' => e = .returned (.tuple #[V s.size (Vb.kn (L s)) (Vb.wh (L s)), .bool (Vb.kn (L s) == Vb.ones s.size)]) ∧ Below w.heap.size w w' := by
  have h64 : s.size ≤ 64 := ((okV_iff s).1 h).2.1
  go_enter Tryz.func68, Tryz.ntmps68
  go_wp2_with (go_at_call 90; refine (iVecOf s _ hs h).mono ?_; rintro e W1 ⟨rfl, hb1⟩; obtain ⟨⟨c0, c1, c2⟩, ⟨f0, f1, f2⟩, hlt, hb⟩ := kv_cells hb1; have HB := hide hb; clear hb1 hb; unfold V)
  go_region_with (first | (go_at_call 91; refine (iIsKnown _ _ _ h64 _).mono ?_; rintro e W2 ⟨rfl, hb2⟩; obtain ⟨⟨d0, d1, d2⟩, ⟨g0, g1, g2⟩, ⟨e0, e1, e2⟩, hb3⟩ := kv_after c0 c1 c2 f0 f1 f2 hlt HB hb2; have HB2 := hide hb3; clear hb2 hb3))
  all_goals (go_wp2; exact bodyPost_ret (v := .tuple #[V s.size (Vb.kn (L s)) (Vb.wh (L s)), .bool (Vb.kn (L s) == Vb.ones s.size)]) (by simp [results, Tryz.results68, go_sem, V, d0, d1, d2]) rfl ⟨rfl, bst (bst (bst (unhide HB2) (Nat.le_refl _) _) (Nat.le_refl _) _) (Nat.le_refl _) _⟩)
end Go.Proofs.YtaamibonpmijaaaGreat
