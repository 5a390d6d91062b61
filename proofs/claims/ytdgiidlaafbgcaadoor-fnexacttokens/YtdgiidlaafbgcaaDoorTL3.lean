/- What the laws' eqTokenS answers over two rows that hold the same tokens. -/
import Derived.Test.YtdgiidlaafbgcaaDoorTL2
namespace Go.Proofs.YtdgiidlaafbgcaaDoor
open Go.RowKit
set_option linter.unusedVariables false
theorem keep6 {W V v1 : World} {a b c d e f : Addr} {x y z x' y' z' : Value} (h : V.cell? a = some x ∧ V.cell? b = some y ∧ V.cell? c = some z ∧ V.cell? d = some x' ∧ V.cell? e = some y' ∧ V.cell? f = some z' ∧ Below W.heap.size W V) (hb : Below V.heap.size V v1) :
    v1.cell? a = some x ∧ v1.cell? b = some y ∧ v1.cell? c = some z ∧ v1.cell? d = some x' ∧ v1.cell? e = some y' ∧ v1.cell? f = some z' ∧ Below W.heap.size W v1 :=
  ⟨cell_later hb h.1, cell_later hb h.2.1, cell_later hb h.2.2.1, cell_later hb h.2.2.2.1, cell_later hb h.2.2.2.2.1, cell_later hb h.2.2.2.2.2.1, below_step h.2.2.2.2.2.2 hb⟩
set_option maxRecDepth 100000 in
set_option maxHeartbeats 400000 in
theorem lEq (g1 g2 n c1 c2 : Nat) (K A : Nat → Int) (T : Nat → ByteArray) (w : World) (hn : n ≤ 20000) (h1 : TR w g1 n K A T) (h2 : TR w g2 n K A T) :
    Calls Tryd.prog 6 #[.slice (some ⟨g1, 0, none⟩) n c1, .slice (some ⟨g2, 0, none⟩) n c2] w fun e w' => e = .returned (.bool true) ∧ Below w.heap.size w w' := by
  have HT1 := hide h1
  have HT2 := hide h2
  clear h1 h2
  go_enter Tryd.func6, Tryd.ntmps6
  go_wp2
  go_loopw [5] (fun i wr => ∃ j : Nat, j ≤ n ∧ i = .int .i64 j ∧ Below w.heap.size w wr) (fun i wr => n - (intOf i).toNat)
  case atStart => exact ⟨0, Nat.zero_le _, rfl, brf _⟩
  case round =>
    obtain ⟨j, hj, rfl, hb⟩ := hrel
    by_cases hjn : j < n
    · obtain ⟨b1, b2, b3⟩ := TR_later (unhide HT1) hb j hjn
      obtain ⟨d1, d2, d3⟩ := TR_later (unhide HT2) hb j hjn
      have HB := hide hb
      have EQ := hide (fun v => eqTok (K j) (K j) (A j) (A j) (T j) (T j) v rfl rfl rfl)
      clear hb
      generalize K j = x at *
      generalize A j = y at *
      generalize T j = z at *
      go_wp2
      go_region_held3 (fun w' => w'.cell? ⟨g1, j * 3, none⟩ = some (.int .i64 x) ∧ w'.cell? ⟨g1, j * 3 + 1, none⟩ = some (.string z) ∧ w'.cell? ⟨g1, j * 3 + 2, none⟩ = some (.int .i64 y) ∧ w'.cell? ⟨g2, j * 3, none⟩ = some (.int .i64 x) ∧ w'.cell? ⟨g2, j * 3 + 1, none⟩ = some (.string z) ∧ w'.cell? ⟨g2, j * 3 + 2, none⟩ = some (.int .i64 y) ∧ Below wr.heap.size wr w')
        (first | (exact ⟨b1, b2, b3, d1, d2, d3, bdr (brf _)⟩) | (exact keep6 (by assumption) hb1))
        (first | (go_at_call 16; refine (unhide EQ _).mono ?_; rintro e v1 ⟨rfl, hb1⟩))
      all_goals
        have hSf : v1.cell? ⟨g1, j * 3, none⟩ = some (.int .i64 x) ∧ v1.cell? ⟨g1, j * 3 + 1, none⟩ = some (.string z) ∧ v1.cell? ⟨g1, j * 3 + 2, none⟩ = some (.int .i64 y) ∧ v1.cell? ⟨g2, j * 3, none⟩ = some (.int .i64 x) ∧ v1.cell? ⟨g2, j * 3 + 1, none⟩ = some (.string z) ∧ v1.cell? ⟨g2, j * 3 + 2, none⟩ = some (.int .i64 y) ∧ Below wr.heap.size wr v1 := by assumption
        have HB2 := hide (below_step (unhide HB) hSf.2.2.2.2.2.2)
        clear hSf b1 b2 b3 d1 d2 d3
        go_wp2
        exact ⟨⟨j + 1, by omega, by go_num, unhide HB2⟩, by simp [intOf]; omega⟩
    · obtain rfl : j = n := by omega
      have HB := hide hb
      clear hb
      go_wp2
      exact bodyPost_ret (v := .bool true) (by simp [results, Tryd.results6, go_sem]) rfl ⟨rfl, unhide HB⟩
end Go.Proofs.YtdgiidlaafbgcaaDoor
