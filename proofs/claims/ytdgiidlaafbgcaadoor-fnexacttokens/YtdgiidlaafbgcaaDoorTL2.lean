/- What the laws' heldTokenS and eqTokenS answer. -/
import Derived.Test.YtdgiidlaafbgcaaDoorTL1
namespace Go.Proofs.YtdgiidlaafbgcaaDoor
open Go.RowKit
set_option linter.unusedVariables false
/-- A row of n tokens at a block. -/
def TR (W : World) (g n : Nat) (K A : Nat → Int) (T : Nat → ByteArray) : Prop :=
  ∀ i, i < n → W.cell? ⟨g, i * 3, none⟩ = some (.int .i64 (K i)) ∧ W.cell? ⟨g, i * 3 + 1, none⟩ = some (.string (T i)) ∧ W.cell? ⟨g, i * 3 + 2, none⟩ = some (.int .i64 (A i))
theorem TR_later {W W' : World} {g n : Nat} {K A : Nat → Int} {T : Nat → ByteArray} (h : TR W g n K A T) (hb : Below W.heap.size W W') : TR W' g n K A T := fun i hi =>
  ⟨cell_later hb (h i hi).1, cell_later hb (h i hi).2.1, cell_later hb (h i hi).2.2⟩
theorem keepT {W V v1 : World} {a : Addr} {x : Value} (h : V.cell? a = some x ∧ Below W.heap.size W V) (hb : Below V.heap.size V v1) : v1.cell? a = some x ∧ Below W.heap.size W v1 := ⟨cell_later hb h.1, below_step h.2 hb⟩
set_option maxRecDepth 100000 in
set_option maxHeartbeats 400000 in
theorem lHeld (g n c : Nat) (w : World) (hn : n ≤ 20000) (h : TR w g n (fun i => ((1 + 3 * i : Nat) : Int)) (fun i => ((3 + 3 * i : Nat) : Int)) (fun i => S (mtL (2 + 3 * i)))) :
    Calls Tryd.prog 8 #[.slice (some ⟨g, 0, none⟩) n c, .int .i64 1] w fun e w' => e = .returned (.int .i64 ((1 + 3 * n : Nat) : Int)) ∧ Below w.heap.size w w' := by
  have HT := hide h
  clear h
  go_enter Tryd.func8, Tryd.ntmps8
  go_wp2
  go_loopw [1, 5] (fun k i wr => ∃ j : Nat, j ≤ n ∧ i = .int .i64 j ∧ k = .int .i64 ((1 + 3 * j : Nat) : Int) ∧ Below w.heap.size w wr) (fun k i wr => n - (intOf i).toNat)
  case atStart => exact ⟨0, Nat.zero_le _, rfl, rfl, brf _⟩
  case round =>
    obtain ⟨j, hj, rfl, rfl, hb⟩ := hrel
    by_cases hjn : j < n
    · obtain ⟨b1, b2, b3⟩ := TR_later (unhide HT) hb j hjn
      have c1 : wr.cell? ⟨g, j * 3, none⟩ = some (.int .i64 (1 + 3 * (j : Int))) := by rw [b1]; simp
      have c2 : wr.cell? ⟨g, j * 3 + 1, none⟩ = some (.string (S (mtL (2 + 3 * j)))) := b2
      have c3 : wr.cell? ⟨g, j * 3 + 2, none⟩ = some (.int .i64 (1 + 3 * (j : Int) + 1 + 1)) := by rw [b3]; simp; omega
      clear b1 b2 b3
      have HB := hide hb
      have MT : Hid (∀ v, Calls Tryd.prog 17 #[.int .i64 (1 + 3 * (j : Int) + 1)] v fun e w' => e = .returned (.string (S (mtL (2 + 3 * j)))) ∧ Below v.heap.size v w') := hide (fun v => by
        have := lText (2 + 3 * j) v (by omega) (by omega)
        rw [show ((2 + 3 * j : Nat) : Int) = 1 + 3 * (j : Int) + 1 by omega] at this
        exact this)
      clear hb
      generalize S (mtL (2 + 3 * j)) = T at *
      go_wp2
      go_region_held3 (fun w' => w'.cell? ⟨g, j * 3 + 1, none⟩ = some (.string T) ∧ Below wr.heap.size wr w')
        (first | (exact ⟨c2, bdr (brf _)⟩) | (exact keepT (by assumption) hb1))
        (first | (go_at_call 17; refine (unhide MT _).mono ?_; rintro e v1 ⟨rfl, hb1⟩))
      have hSf : v1.cell? ⟨g, j * 3 + 1, none⟩ = some (.string T) ∧ Below wr.heap.size wr v1 := by assumption
      have c4 := cell_later hSf.2 c3
      have HB2 := hide (below_step (unhide HB) hSf.2)
      clear c1 c2 c3 hSf
      go_wp2
      exact ⟨⟨j + 1, by omega, by go_num, by simp; omega, unhide HB2⟩, by simp [intOf]; omega⟩
    · obtain rfl : j = n := by omega
      have HB := hide hb
      clear hb
      go_wp2
      exact bodyPost_ret (v := .int .i64 ((1 + 3 * j : Nat) : Int)) (by simp [results, Tryd.results8, go_sem]) rfl ⟨rfl, unhide HB⟩
end Go.Proofs.YtdgiidlaafbgcaaDoor
