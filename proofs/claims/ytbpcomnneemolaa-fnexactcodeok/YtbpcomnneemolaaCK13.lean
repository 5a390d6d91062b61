/- impl.CodeOK. -/
import Derived.Test.YtbpcomnneemolaaCKC
import Derived.Test.YtbpcomnneemolaaCKB
import Derived.Test.YtbpcomnneemolaaPM
import Derived.Laws.MakeOwn
import Derived.Laws.OwnMore
import Derived.Laws.Tables
namespace Go.Proofs.Ytbpcomnneemolaa
open Go.RowKit Gs
set_option linter.unusedVariables false
set_option maxRecDepth 100000
theorem info3 : (Try.prog.info? 3).map (fun i => (i.zero, i.size, i.bytes)) = some (some (.int .i64 0), 1, 8) := by kernel_rfl
theorem make_zero (n : Nat) (hn : n ≤ 1048576) : ∃ M : Array Value, (∀ i, i < n → M[i]? = some (.int .i64 0)) ∧ M.size = n ∧ ∀ W : World, (Instr.makeSlice 23 (.int .i64 (n : Int)) (.int .i64 (n : Int))).run Try.prog W = .ok (.slice (some ⟨W.heap.size, 0, none⟩) n n) (W.alloc (.cells M 3)) := by
  obtain ⟨i0, hi, hz0, hz1, hz2⟩ := info_parts info3
  refine ⟨madeCells #[.int .i64 0] (n * 1), fun i hi => ?_, by rw [size_madeCells]; omega, fun W => ?_⟩
  · rw [← Array.getElem?_toList, toList_madeCells_one, List.getElem?_replicate, if_pos (by omega)]
  · have hr := run_make (P := Try.prog) W 23 3 i0 _ (by kernel_rfl) hi hz0 .i64 .i64 n n (by omega) (Int.le_refl _) (by rw [hz2]; omega) (by omega)
    rw [hr, hz1]
    simp
    rfl
/-- The cells of a look. -/
def lookC (CV : Array Value) (s : Value) : Array Value := CV ++ kL ++ #[s]
theorem built65 (x0 x1 x2 x3 x4 x5 x6 x7 x8 s : Value) (hs : ∃ a l c, s = .slice a l c) : Try.prog.built 65 [(0, .agg #[x0, x1, x2, x3, x4, x5, x6, x7, x8]), (1, .agg kL), (2, s)] = some (lookC #[x0, x1, x2, x3, x4, x5, x6, x7, x8] s) := by
  obtain ⟨a, l, c, rfl⟩ := hs
  kernel_rfl
/-- What is known of the region's operations: the code, the table, the slots, the widths, the look. -/
def FL (w0 : World) (p : Value) (x0 x1 x2 x3 x4 x5 x6 x7 x8 : Value) (n : Nat) (k : Nat) (w : World) (v : Value) : Prop :=
  match k with
  | 0 => v = .agg #[x0, x1, x2, x3, x4, x5, x6, x7, x8]
  | 1 => v = .agg kL
  | 2 => v = p
  | 3 => v = .int .i64 (n : Int)
  | 4 => ∃ wb, v = .slice (some ⟨wb, 0, none⟩) n n ∧ w0.heap.size ≤ wb ∧ wb < w.heap.size ∧ ∀ i, i < n → w.cell? ⟨wb, i, none⟩ = some (.int .i64 0) ∧ w.frozen? ⟨wb, i, none⟩ = false
  | 5 => ∃ wb, v = .agg (lookC #[x0, x1, x2, x3, x4, x5, x6, x7, x8] (.slice (some ⟨wb, 0, none⟩) n n)) ∧ w0.heap.size ≤ wb ∧ wb < w.heap.size ∧ ∀ i, i < n → w.cell? ⟨wb, i, none⟩ = some (.int .i64 0) ∧ w.frozen? ⟨wb, i, none⟩ = false
  | _ => ∃ b wb, v = .pointer (some ⟨b, 0, none⟩) ∧ w0.heap.size ≤ wb ∧ wb < b ∧ b < w.heap.size ∧ (∀ i y, (lookC #[x0, x1, x2, x3, x4, x5, x6, x7, x8] (.slice (some ⟨wb, 0, none⟩) n n))[i]? = some y → w.cell? ⟨b, i, none⟩ = some y) ∧ ∀ i, i < n → w.cell? ⟨wb, i, none⟩ = some (.int .i64 0) ∧ w.frozen? ⟨wb, i, none⟩ = false
theorem FL.lasts (w0 : World) (p x0 x1 x2 x3 x4 x5 x6 x7 x8 : Value) (n : Nat) : Lasts (FL w0 p x0 x1 x2 x3 x4 x5 x6 x7 x8 n) := by
  intro k w w' v hb h
  unfold FL at *
  split at h
  all_goals first
    | exact h
    | (obtain ⟨wb, h1, h2, h3, h4⟩ := h; exact ⟨wb, h1, h2, Nat.lt_of_lt_of_le h3 hb.size, fun i hi => ⟨cell_later hb (h4 i hi).1, frozen_later hb (h4 i hi).1 (h4 i hi).2⟩⟩)
    | (obtain ⟨b, wb, h1, h2, h3, h4, h5, h6⟩ := h; exact ⟨b, wb, h1, h2, h3, Nat.lt_of_lt_of_le h4 hb.size, fun i y hy => cell_later hb (h5 i y hy), fun i hi => ⟨cell_later hb (h6 i hi).1, frozen_later hb (h6 i hi).1 (h6 i hi).2⟩⟩)
theorem lookC_low {CV : Array Value} {s : Value} (h9 : CV.size = 9) {i : Nat} (hi : i < 9) : (lookC CV s)[i]? = CV[i]? := by
  unfold lookC
  rw [Array.getElem?_append_left (by rw [Array.size_append, kL_size]; omega), Array.getElem?_append_left (by omega)]
theorem lookC_mid {CV : Array Value} {s : Value} (h9 : CV.size = 9) {i : Nat} (hi : i < 70) : (lookC CV s)[9 + i]? = kL[i]? := by
  unfold lookC
  rw [Array.getElem?_append_left (by rw [Array.size_append, kL_size]; omega), Array.getElem?_append_right (by omega), h9, Nat.add_sub_cancel_left]
theorem lookC_last {CV : Array Value} {s : Value} (h9 : CV.size = 9) : (lookC CV s)[79]? = some s := by
  unfold lookC
  rw [Array.getElem?_append_right (by rw [Array.size_append, kL_size]; omega), Array.size_append, kL_size, h9]
  rfl
theorem look_Lk {W : World} {b wb n : Nat} {c : Code} {v1 v2 v4 v5 v6 v7 v8 : Value} (hn : c.slots = (n : Int)) (hf : n ≤ 16384) (hc : ∀ i y, (lookC #[.int .i64 c.slots, v1, v2, .int .i64 c.clocks, v4, v5, v6, v7, v8] (.slice (some ⟨wb, 0, none⟩) n n))[i]? = some y → W.cell? ⟨b, i, none⟩ = some y) (hz : ∀ i, i < n → W.cell? ⟨wb, i, none⟩ = some (.int .i64 0)) : Lk W b c v1 v2 v4 v5 v6 v7 v8 wb (List.replicate n 0) := by
  have lo : ∀ i y, i < 9 → #[.int .i64 c.slots, v1, v2, .int .i64 c.clocks, v4, v5, v6, v7, v8][i]? = some y → W.cell? ⟨b, i, none⟩ = some y := fun i y hi hy => hc i y ((lookC_low rfl hi).trans hy)
  refine ⟨lo 0 _ (by omega) rfl, lo 1 _ (by omega) rfl, lo 2 _ (by omega) rfl, lo 3 _ (by omega) rfl, lo 4 _ (by omega) rfl, lo 5 _ (by omega) rfl, lo 6 _ (by omega) rfl, lo 7 _ (by omega) rfl, lo 8 _ (by omega) rfl, fun j hj => hc _ _ ((lookC_mid rfl (by omega)).trans (kL_takes j hj)), ?_, fun j x hx => ?_, by rw [List.length_replicate]; exact hn, by rw [List.length_replicate]; exact hf⟩
  · rw [List.length_replicate]; exact hc 79 _ (lookC_last rfl)
  · have hj : j < n := by
      have := (List.getElem?_eq_some_iff.1 hx).1
      simpa using this
    rw [List.getElem?_replicate, if_pos hj] at hx
    cases hx
    exact hz j hj
end Go.Proofs.Ytbpcomnneemolaa
